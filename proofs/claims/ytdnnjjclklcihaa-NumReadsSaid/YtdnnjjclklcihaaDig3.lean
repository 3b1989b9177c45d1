/- compare. -/
import Derived.Test.YtdnnjjclklcihaaDig2
set_option linter.unusedVariables false
namespace Go.Proofs.Ytdnnjjclklcihaa
open Go.RowKit

/-- w' is w but for draws -/
def Drew (w w' : World) : Prop := ∃ k, w' = w.drewN k
theorem Drew.refl (w : World) : Drew w w := ⟨0, rfl⟩
theorem Drew.more {w w' : World} (h : Drew w w') (k : Nat) : Drew w (w'.drewN k) := by
  obtain ⟨j, rfl⟩ := h
  exact ⟨j + k, by simp [World.drewN, Nat.add_assoc]⟩
theorem Drew.cell {w w' : World} (h : Drew w w') (a : Addr) : w'.cell? a = w.cell? a := by obtain ⟨k, rfl⟩ := h; rfl
theorem Drew.below {B : Nat} {w w' : World} (h : Drew w w') : Below B w w' := by obtain ⟨k, rfl⟩ := h; exact below_drewN (Below.refl _ _) k

def cmpN (m n : Nat) : Int := if m < n then -1 else if m = n then 0 else 1

theorem cmpN_lt {m n : Nat} (h : m < n) : cmpN m n = -1 := if_pos h
theorem cmpN_gt {m n : Nat} (h : n < m) : cmpN m n = 1 := by unfold cmpN; rw [if_neg (by omega), if_neg (by omega)]
theorem cmpN_eq {m n : Nat} (h : m = n) : cmpN m n = 0 := by unfold cmpN; rw [if_neg (by omega), if_pos h]

def CmpPost (m n : Nat) (w : World) (e : Ending) (w' : World) : Prop := e = .returned (.int .i64 (cmpN m n)) ∧ Drew w w'

set_option maxHeartbeats 1000000 in
theorem compare_any (ao bo : Option Addr) (la lb ca cb : Nat) (m n : Nat) (w : World) (ha : N32 w ao la m) (hb : N32 w bo lb n) (hla : la ≤ 1000000000) (hlb : lb ≤ 1000000000) :
    Calls Try.prog 82 #[.slice ao la ca, .slice bo lb cb] w (CmpPost m n w) := by
  obtain ⟨xs, ⟨hx, b, off, h0, hc⟩, hd, ht, hv⟩ := ha
  obtain ⟨ys, ⟨hy, b', off', h0', hc'⟩, hd', ht', hv'⟩ := hb
  by_cases hl : la = lb
  · subst hl
    have Hx := Lib.hid hx
    have Hy := Lib.hid hy
    have Hv := Lib.hid hv
    have Hv' := Lib.hid hv'
    have Hd := Lib.hid hd
    have Hd' := Lib.hid hd'
    have H0 := Lib.hid h0
    have H0' := Lib.hid h0'
    have HC := Lib.hid hc
    have HC' := Lib.hid hc'
    clear hx hy hv hv' hd hd' ht ht' h0 h0' hc hc'
    have hbb : ((la : Int) != (la : Int)) = false := by simp
    go_enter Try.func82, Try.ntmps82
    go_wp2
    go_loopw [5] (fun t wr => ∃ i : Nat, i ≤ la ∧ t = .int .i64 ((i : Int) - 1) ∧ xs.drop i = ys.drop i ∧ Drew w wr) (fun t _ => (intOf t + 1).toNat)
    case atStart => exact ⟨la, Nat.le_refl _, rfl, by rw [List.drop_of_length_le (by have := Hx.out; omega), List.drop_of_length_le (by have := Hy.out; omega)], Drew.refl _⟩
    case round =>
      obtain ⟨i, hi, rfl, hdr, hw⟩ := hrel
      have HD := Lib.hid hdr
      have HW := Lib.hid hw
      clear hdr hw
      by_cases hi0 : i = 0
      · subst hi0
        go_wp2
        go_ret
        refine ⟨ret_int ?_, HW.out⟩
        rw [cmpN_eq]
        have := HD.out
        simp at this
        rw [← Hv.out, ← Hv'.out, this]
      · obtain ⟨j, rfl⟩ : ∃ j, i = j + 1 := ⟨i - 1, by omega⟩
        have hlen : 0 < la := by omega
        obtain rfl := H0.out hlen
        obtain rfl := H0'.out hlen
        have e1 : (((j + 1 : Nat) : Int) - 1) = (j : Int) := by omega
        rw [e1]
        clear e1
        have c1 := (HW.out.cell ⟨b, off + j, none⟩).trans (HC.out j (by omega))
        have c2 := (HW.out.cell ⟨b', off' + j, none⟩).trans (HC'.out j (by omega))
        have b1 : (0 : Int) ≤ (j : Int) := by omega
        have b2 : (j : Int) < (la : Int) := by omega
        obtain ⟨x, hxe⟩ : ∃ x, x = xs[j]?.getD 0 := ⟨_, rfl⟩
        obtain ⟨y, hye⟩ : ∃ x, x = ys[j]?.getD 0 := ⟨_, rfl⟩
        rw [← hxe] at c1
        rw [← hye] at c2
        have Ex := Lib.hid hxe
        have Ey := Lib.hid hye
        clear hxe hye
        have hjx : j < xs.length := by have := Hx.out; omega
        have hxy : xs.length = ys.length := by rw [Hx.out, Hy.out]
        have HXY := Lib.hid hxy
        have HJX := Lib.hid hjx
        clear hjx hxy
        rcases Nat.lt_trichotomy x y with hlt | heq | hgt
        · have t1 : (x : Int) < (y : Int) := by omega
          go_wp2
          go_quiet (fail)
          go_wp2
          go_ret
          refine ⟨ret_int ?_, HW.out.more _⟩
          have hlt2 := hlt
          rw [Ex.out, Ey.out] at hlt2
          have := val_lt_of_part B32_pos HXY.out Hd.out HJX.out HD.out hlt2
          rw [Hv.out, Hv'.out] at this
          rw [cmpN_lt this]
        · subst heq
          go_wp2
          go_quiet (fail)
          go_wp2
          go_quiet (fail)
          go_wp2
          go_roundw
          case rel => exact ⟨j, by omega, rfl, eq_of_drop HXY.out j HJX.out HD.out (by rw [← Ex.out, ← Ey.out]), by first | exact HW.out.more _ | exact (HW.out.more _).more _⟩
          case measure => simp [intOf]
        · have t1 : (y : Int) < (x : Int) := by omega
          have t2 : ¬ (x : Int) < (y : Int) := by omega
          go_wp2
          go_quiet (fail)
          go_wp2
          go_quiet (fail)
          go_wp2
          go_ret
          refine ⟨ret_int ?_, by first | exact HW.out.more _ | exact (HW.out.more _).more _⟩
          have hlt2 := hgt
          rw [Ex.out, Ey.out] at hlt2
          have := val_lt_of_part B32_pos HXY.out.symm Hd'.out (HXY.out ▸ HJX.out) HD.out.symm hlt2
          rw [Hv.out, Hv'.out] at this
          rw [cmpN_gt this]
  · have hbb : ((la : Int) != (lb : Int)) = true := by simp; omega
    rcases Nat.lt_or_gt_of_ne hl with hlt | hgt
    · have t1 : (la : Int) < (lb : Int) := by omega
      have hvv := val_lt_of_len B32_pos hd ht' (by omega)
      rw [hv, hv'] at hvv
      rw [show CmpPost m n w = CmpPost m n w from rfl]
      have HV := Lib.hid hvv
      clear hx hy hv hv' hd hd' ht ht' h0 h0' hc hc' hvv
      go_enter Try.func82, Try.ntmps82
      go_wp2
      go_ret
      exact ⟨ret_int (cmpN_lt HV.out).symm, Drew.refl _⟩
    · have t1 : ¬ (la : Int) < (lb : Int) := by omega
      have hvv := val_lt_of_len B32_pos hd' ht (by omega)
      rw [hv, hv'] at hvv
      have HV := Lib.hid hvv
      clear hx hy hv hv' hd hd' ht ht' h0 h0' hc hc' hvv
      go_enter Try.func82, Try.ntmps82
      go_wp2
      go_ret
      exact ⟨ret_int (cmpN_gt HV.out).symm, Drew.refl _⟩
end Go.Proofs.Ytdnnjjclklcihaa
