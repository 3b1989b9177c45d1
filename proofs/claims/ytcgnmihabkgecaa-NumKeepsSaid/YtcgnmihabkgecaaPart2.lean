/- Part 2 of the contracts: Dig3, Sum, Sub, Prod, Shrink, Scale. -/
import Derived.Test.YtcgnmihabkgecaaPart1

/- compare. -/
set_option linter.unusedVariables false
namespace Go.Proofs.Ytcgnmihabkgecaa
open Go.RowKit

/-- w' is w but for draws -/
def Drew (w w' : World) : Prop := ∃ k, w' = w.drewN k
theorem Drew.refl (w : World) : Drew w w := ⟨0, rfl⟩
theorem Drew.more {w w' : World} (h : Drew w w') (k : Nat) : Drew w (w'.drewN k) := by
  obtain ⟨j, rfl⟩ := h
  exact ⟨j + k, by simp [World.drewN, Nat.add_assoc]⟩
theorem Drew.cell {w w' : World} (h : Drew w w') (a : Addr) : w'.cell? a = w.cell? a := by obtain ⟨k, rfl⟩ := h; rfl
theorem Drew.below {B : Nat} {w w' : World} (h : Drew w w') : Below B w w' := by obtain ⟨k, rfl⟩ := h; exact below_drewN (Below.refl _ _) k

def cmpN (m n : Nat) : Int := if m < n then -1 else if m = n then 0 else 1

theorem cmpN_lt {m n : Nat} (h : m < n) : cmpN m n = -1 := if_pos h
theorem cmpN_gt {m n : Nat} (h : n < m) : cmpN m n = 1 := by unfold cmpN; rw [if_neg (by omega), if_neg (by omega)]
theorem cmpN_eq {m n : Nat} (h : m = n) : cmpN m n = 0 := by unfold cmpN; rw [if_neg (by omega), if_pos h]

def CmpPost (m n : Nat) (w : World) (e : Ending) (w' : World) : Prop := e = .returned (.int .i64 (cmpN m n)) ∧ Drew w w'

set_option maxHeartbeats 1000000 in
theorem compare_any (ao bo : Option Addr) (la lb ca cb : Nat) (m n : Nat) (w : World) (ha : N32 w ao la m) (hb : N32 w bo lb n) (hla : la ≤ 1000000000) (hlb : lb ≤ 1000000000) :
    Calls Try.prog 37 #[.slice ao la ca, .slice bo lb cb] w (CmpPost m n w) := by
  obtain ⟨xs, ⟨hx, b, off, h0, hc⟩, hd, ht, hv⟩ := ha
  obtain ⟨ys, ⟨hy, b', off', h0', hc'⟩, hd', ht', hv'⟩ := hb
  by_cases hl : la = lb
  · subst hl
    have Hx := Lib.hid hx
    have Hy := Lib.hid hy
    have Hv := Lib.hid hv
    have Hv' := Lib.hid hv'
    have Hd := Lib.hid hd
    have Hd' := Lib.hid hd'
    have H0 := Lib.hid h0
    have H0' := Lib.hid h0'
    have HC := Lib.hid hc
    have HC' := Lib.hid hc'
    clear hx hy hv hv' hd hd' ht ht' h0 h0' hc hc'
    have hbb : ((la : Int) != (la : Int)) = false := by simp
    go_enter Try.func37, Try.ntmps37
    go_wp2
    go_loopw [5] (fun t wr => ∃ i : Nat, i ≤ la ∧ t = .int .i64 ((i : Int) - 1) ∧ xs.drop i = ys.drop i ∧ Drew w wr) (fun t _ => (intOf t + 1).toNat)
    case atStart => exact ⟨la, Nat.le_refl _, rfl, by rw [List.drop_of_length_le (by have := Hx.out; omega), List.drop_of_length_le (by have := Hy.out; omega)], Drew.refl _⟩
    case round =>
      obtain ⟨i, hi, rfl, hdr, hw⟩ := hrel
      have HD := Lib.hid hdr
      have HW := Lib.hid hw
      clear hdr hw
      by_cases hi0 : i = 0
      · subst hi0
        go_wp2
        go_ret
        refine ⟨ret_int ?_, HW.out⟩
        rw [cmpN_eq]
        have := HD.out
        simp at this
        rw [← Hv.out, ← Hv'.out, this]
      · obtain ⟨j, rfl⟩ : ∃ j, i = j + 1 := ⟨i - 1, by omega⟩
        have hlen : 0 < la := by omega
        obtain rfl := H0.out hlen
        obtain rfl := H0'.out hlen
        have e1 : (((j + 1 : Nat) : Int) - 1) = (j : Int) := by omega
        rw [e1]
        clear e1
        have c1 := (HW.out.cell ⟨b, off + j, none⟩).trans (HC.out j (by omega))
        have c2 := (HW.out.cell ⟨b', off' + j, none⟩).trans (HC'.out j (by omega))
        have b1 : (0 : Int) ≤ (j : Int) := by omega
        have b2 : (j : Int) < (la : Int) := by omega
        obtain ⟨x, hxe⟩ : ∃ x, x = xs[j]?.getD 0 := ⟨_, rfl⟩
        obtain ⟨y, hye⟩ : ∃ x, x = ys[j]?.getD 0 := ⟨_, rfl⟩
        rw [← hxe] at c1
        rw [← hye] at c2
        have Ex := Lib.hid hxe
        have Ey := Lib.hid hye
        clear hxe hye
        have hjx : j < xs.length := by have := Hx.out; omega
        have hxy : xs.length = ys.length := by rw [Hx.out, Hy.out]
        have HXY := Lib.hid hxy
        have HJX := Lib.hid hjx
        clear hjx hxy
        rcases Nat.lt_trichotomy x y with hlt | heq | hgt
        · have t1 : (x : Int) < (y : Int) := by omega
          go_wp2
          go_quiet (fail)
          go_wp2
          go_ret
          refine ⟨ret_int ?_, HW.out.more _⟩
          have hlt2 := hlt
          rw [Ex.out, Ey.out] at hlt2
          have := val_lt_of_part B32_pos HXY.out Hd.out HJX.out HD.out hlt2
          rw [Hv.out, Hv'.out] at this
          rw [cmpN_lt this]
        · subst heq
          go_wp2
          go_quiet (fail)
          go_wp2
          go_quiet (fail)
          go_wp2
          go_roundw
          case rel => exact ⟨j, by omega, rfl, eq_of_drop HXY.out j HJX.out HD.out (by rw [← Ex.out, ← Ey.out]), by first | exact HW.out.more _ | exact (HW.out.more _).more _⟩
          case measure => simp [intOf]
        · have t1 : (y : Int) < (x : Int) := by omega
          have t2 : ¬ (x : Int) < (y : Int) := by omega
          go_wp2
          go_quiet (fail)
          go_wp2
          go_quiet (fail)
          go_wp2
          go_ret
          refine ⟨ret_int ?_, by first | exact HW.out.more _ | exact (HW.out.more _).more _⟩
          have hlt2 := hgt
          rw [Ex.out, Ey.out] at hlt2
          have := val_lt_of_part B32_pos HXY.out.symm Hd'.out (HXY.out ▸ HJX.out) HD.out.symm hlt2
          rw [Hv.out, Hv'.out] at this
          rw [cmpN_gt this]
  · have hbb : ((la : Int) != (lb : Int)) = true := by simp; omega
    rcases Nat.lt_or_gt_of_ne hl with hlt | hgt
    · have t1 : (la : Int) < (lb : Int) := by omega
      have hvv := val_lt_of_len B32_pos hd ht' (by omega)
      rw [hv, hv'] at hvv
      rw [show CmpPost m n w = CmpPost m n w from rfl]
      have HV := Lib.hid hvv
      clear hx hy hv hv' hd hd' ht ht' h0 h0' hc hc' hvv
      go_enter Try.func37, Try.ntmps37
      go_wp2
      go_ret
      exact ⟨ret_int (cmpN_lt HV.out).symm, Drew.refl _⟩
    · have t1 : ¬ (la : Int) < (lb : Int) := by omega
      have hvv := val_lt_of_len B32_pos hd' ht (by omega)
      rw [hv, hv'] at hvv
      have HV := Lib.hid hvv
      clear hx hy hv hv' hd hd' ht ht' h0 h0' hc hc' hvv
      go_enter Try.func37, Try.ntmps37
      go_wp2
      go_ret
      exact ⟨ret_int (cmpN_gt HV.out).symm, Drew.refl _⟩
end Go.Proofs.Ytcgnmihabkgecaa

/- sum. -/
set_option linter.unusedVariables false
namespace Go.Proofs.Ytcgnmihabkgecaa
open Go.RowKit

/-- one step of an addition: the value of all, with the carry -/
theorem sum_step {B : Nat} {zs xb : List Nat} {i c va : Nat} (hi : i < zs.length) (h : val B zs + c * B ^ i = va + val B (xb.take i)) (hB : 0 < B) :
    val B (zs.set i ((c + (zs[i]?.getD 0 + xb[i]?.getD 0)) % B)) + (c + (zs[i]?.getD 0 + xb[i]?.getD 0)) / B * B ^ (i + 1) = va + val B (xb.take (i + 1)) := by
  have h1 := val_set B zs i ((c + (zs[i]?.getD 0 + xb[i]?.getD 0)) % B) hi
  have h2 := Nat.mod_add_div (c + (zs[i]?.getD 0 + xb[i]?.getD 0)) B
  rw [val_take_succ]
  generalize (c + (zs[i]?.getD 0 + xb[i]?.getD 0)) % B = d at *
  generalize (c + (zs[i]?.getD 0 + xb[i]?.getD 0)) / B = c' at *
  generalize zs[i]?.getD 0 = z at *
  generalize xb[i]?.getD 0 = x at *
  generalize val B (zs.set i d) = v at *
  rw [Nat.pow_succ]
  generalize B ^ i = p at *
  grind

def SumRel (g la : Nat) (xa xb : List Nat) (W : World) (cv iv : Value) (wr : World) : Prop :=
  ∃ (c i : Nat) (zs : List Nat), cv = .int .u64 (c : Int) ∧ iv = .int .i64 (i : Int) ∧ Blk .u32 wr g 61 zs ∧ zs.length = la + 1 ∧ Dig B32 zs ∧ i ≤ la + 1 ∧ c ≤ 1 ∧
    val B32 zs + c * B32 ^ i = val B32 xa + val B32 (xb.take i) ∧ Below W.heap.size W wr

theorem sum_rel {g la c i x y nq : Nat} {xa xb zs : List Nat} {W wr : World} (hB : Blk .u32 wr g 61 zs) (hl : zs.length = la + 1) (hd : Dig B32 zs) (hi : i < la + 1) (hc : c ≤ 1)
    (hx : x < 4294967296) (hy : y < 4294967296)
    (hst : val B32 (zs.set i ((c + (x + y)) % B32)) + (c + (x + y)) / B32 * B32 ^ (i + 1) = val B32 xa + val B32 (xb.take (i + 1))) (hb : Below W.heap.size W wr) (hg : W.heap.size ≤ g) :
    SumRel g la xa xb W (.int .u64 (((c : Int) + ((x : Int) + (y : Int))) / 4294967296)) (.int .i64 ((i : Int) + 1))
      ((wr.drewN nq).setCell ⟨g, i, none⟩ (.int .u32 (((c : Int) + ((x : Int) + (y : Int))) % 4294967296))) := by
  refine ⟨(c + (x + y)) / B32, i + 1, zs.set i ((c + (x + y)) % B32), ?_, by go_num, (hB.drewN nq).set i _ _ ?_, by simpa using hl, hd.set i (Nat.mod_lt _ B32_pos), by omega, ?_, hst, ?_⟩
  · exact congrArg (Value.int _) (by rw [B32_eq]; omega)
  · rw [B32_eq]; omega
  · rw [B32_eq]; omega
  · exact (below_drewN hb nq).setCell hg _

set_option maxHeartbeats 1000000 in
theorem sum_core (ao bo : Option Addr) (la lb ca cb : Nat) (xa xb : List Nat) (W : World) (ha : Sl .u32 W ao la xa) (hb : Sl .u32 W bo lb xb) (hda : Dig B32 xa) (hdb : Dig B32 xb)
    (hla : la ≤ 1000000000) (hlb : lb ≤ la) :
    Calls Try.prog 26 #[.slice ao la ca, .slice bo lb cb] W fun e w' => Out32 W (val B32 xa + val B32 xb) e w' := by
  have HA := Lib.hid ha
  have HB := Lib.hid hb
  have HDA := Lib.hid hda
  have HDB := Lib.hid hdb
  have t1 : ¬ (la : Int) < (lb : Int) := by omega
  have hg : W.heap.size ≤ W.heap.size := Nat.le_refl _
  have HG := Lib.hid hg
  clear ha hb hda hdb hg
  go_enter Try.func26, Try.ntmps26
  go_wp2_with (first
    | (at_make; refine wpList_mk rfl _ 25 rfl 61 .u32 4 Try.underlying25 (by kernel_rfl) _ (la + 1) rfl (by omega) (by omega) (by omega) ?_; intro w1 hB1 hb1 hz1)
    | ((with_reducible show wpList _ _ _ _ _ _); refine wpList_cp rfl _ _ _ _ rfl 61 .u32 Try.underlying25 (by kernel_rfl) W.heap.size _ _ _ _ _ rfl rfl (List.replicate (la + 1) 0) xa hB1 (HA.out.keep hb1) (by omega) (by simp) W.heap.size W hb1 HG.out ?_; intro w2 hB2 hb2 hz2))
  go_loopw [6, 7] (fun cv iv wr => SumRel W.heap.size la xa xb W cv iv wr) (fun cv iv _ => la + 2 - (intOf iv).toNat)
  case atStart =>
    refine ⟨0, 0, _, rfl, rfl, hB2, ?_, ?_, by omega, by omega, ?_, hb2⟩
    · have := HA.out.len
      simp; omega
    · exact HDA.out.append ((Dig.replicate B32_pos _).drop _)
    · rw [List.drop_replicate, show la + 1 - la = 1 by omega]
      simp [val_snoc, val]
  case round =>
    obtain ⟨c, i, zs, rfl, rfl, hB, hzl, hdz, hi, hc, hv, hbel⟩ := hrel
    have HZ := Lib.hid hB
    have HL := Lib.hid hzl
    have HD := Lib.hid hdz
    have HV := Lib.hid hv
    have HW := Lib.hid hbel
    clear hB hzl hdz hv hbel
    by_cases hgo : i < lb ∨ c = 1
    · have hil : i < la + 1 := by
        rcases hgo with h | h
        · omega
        · have h1 := val_lt B32_pos HDA.out
          have h2 := val_lt B32_pos (HDB.out.take i)
          have h3 := HV.out
          rw [HA.out.len] at h1
          rw [List.length_take, HB.out.len] at h2
          rcases Nat.lt_or_ge i (la + 1) with h4 | h4
          · exact h4
          · exfalso
            obtain rfl : i = la + 1 := by omega
            subst h
            have h5 : B32 ^ min (la + 1) lb ≤ B32 ^ la := Nat.pow_le_pow_right B32_pos (by omega)
            rw [Nat.pow_succ, B32_eq] at h3
            rw [B32_eq] at h1 h2 h5
            omega
      have c1 := HZ.out.cell i (by rw [HL.out]; exact hil)
      have f1 := HZ.out.frozen i
      have hx := HD.out.get B32_pos i
      have hy := HDB.out.get B32_pos i
      have hst := sum_step (B := B32) (c := c) (by rw [HL.out]; exact hil) HV.out B32_pos
      obtain ⟨x, hxe⟩ : ∃ x, x = zs[i]?.getD 0 := ⟨_, rfl⟩
      obtain ⟨y, hye⟩ : ∃ x, x = xb[i]?.getD 0 := ⟨_, rfl⟩
      rw [← hxe] at c1 hx hst
      rw [← hye] at hy hst
      rw [B32_eq] at hx hy
      have HST := Lib.hid hst
      have HX := Lib.hid hxe
      have HY := Lib.hid hye
      have b1 : (0 : Int) ≤ (i : Int) := by omega
      have b2 : (i : Int) < (la : Int) + 1 := by omega
      have HBr := Lib.hid (HB.out.keep HW.out)
      have hc2 : (c : Int) ≤ 1 := by omega
      have u1 := Lib.hid (IntWalk.u64_in (x : Int) ⟨by omega, by omega⟩)
      have u2 := Lib.hid (IntWalk.u64_in (y : Int) ⟨by omega, by omega⟩)
      have u3 := Lib.hid (IntWalk.u64_in ((x : Int) + (y : Int)) ⟨by omega, by omega⟩)
      have u4 := Lib.hid (IntWalk.u64_in ((c : Int) + ((x : Int) + (y : Int))) ⟨by omega, by omega⟩)
      clear hst hxe hye
      rcases Nat.lt_or_ge i lb with hlt | hge
      · have t2 : (i : Int) < (lb : Int) := by omega
        go_wp2
        have v1 := u1.out
        have v2 := u2.out
        have v3 := u3.out
        have v4 := u4.out
        go_quiet ((go_at_call 51; exact digit_quiet _ _ _ xb _ i y _ _ HBr.out rfl HY.out))
        clear v1 v2 v3 v4
        go_wp2
        go_roundw
        case rel => exact sum_rel HZ.out HL.out HD.out hil hc hx hy HST.out HW.out (Nat.le_refl _)
        case measure => simp [intOf]; omega
      · obtain rfl : c = 1 := by omega
        have t2 : ¬ (i : Int) < (lb : Int) := by omega
        go_wp2
        have v1 := u1.out
        have v2 := u2.out
        have v3 := u3.out
        have v4 := u4.out
        go_quiet ((go_at_call 51; exact digit_quiet _ _ _ xb _ i y _ _ HBr.out rfl HY.out))
        clear v1 v2 v3 v4
        go_wp2
        go_roundw
        case rel => exact sum_rel HZ.out HL.out HD.out hil hc hx hy HST.out HW.out (Nat.le_refl _)
        case measure => simp [intOf]; omega
    · obtain rfl : c = 0 := by omega
      have t2 : ¬ (i : Int) < (lb : Int) := by omega
      have HS := Lib.hid (HZ.out.whole HL.out)
      go_wp2_with (go_at_call 52; refine (trim_raw _ _ _ _ _ HS.out (by omega) (by omega)).mono ?_; rintro e w3 ⟨⟨ao', m, rfl, hm, ha', hz', ht, hzz⟩, rfl⟩)
      go_ret
      have hS := HS.out
      refine ⟨ao', m, m, rfl, ⟨_, trim_sl hS hm ha', HD.out.take _, ht, ?_⟩, HW.out⟩
      rw [val_take_of_zeros hzz]
      have h := HV.out
      rw [List.take_of_length_le (l := xb) (by rw [HB.out.len]; omega)] at h
      omega

set_option maxHeartbeats 1000000 in
theorem sum_swap (ao bo : Option Addr) (la lb ca cb : Nat) (xa xb : List Nat) (W : World) (ha : Sl .u32 W ao la xa) (hb : Sl .u32 W bo lb xb) (hda : Dig B32 xa) (hdb : Dig B32 xb)
    (hla : la ≤ 1000000000) (hlb : lb < la) :
    Calls Try.prog 26 #[.slice bo lb cb, .slice ao la ca] W fun e w' => Out32 W (val B32 xa + val B32 xb) e w' := by
  have HA := Lib.hid ha
  have HB := Lib.hid hb
  have HDA := Lib.hid hda
  have HDB := Lib.hid hdb
  have t1 : (lb : Int) < (la : Int) := by omega
  have hg : W.heap.size ≤ W.heap.size := Nat.le_refl _
  have HG := Lib.hid hg
  clear ha hb hda hdb hg
  go_enter Try.func26, Try.ntmps26
  go_wp2_with (first
    | (at_make; refine wpList_mk rfl _ 25 rfl 61 .u32 4 Try.underlying25 (by kernel_rfl) _ (la + 1) rfl (by omega) (by omega) (by omega) ?_; intro w1 hB1 hb1 hz1)
    | ((with_reducible show wpList _ _ _ _ _ _); refine wpList_cp rfl _ _ _ _ rfl 61 .u32 Try.underlying25 (by kernel_rfl) W.heap.size _ _ _ _ _ rfl rfl (List.replicate (la + 1) 0) xa hB1 (HA.out.keep hb1) (by omega) (by simp) W.heap.size W hb1 HG.out ?_; intro w2 hB2 hb2 hz2))
  go_loopw [6, 7] (fun cv iv wr => SumRel W.heap.size la xa xb W cv iv wr) (fun cv iv _ => la + 2 - (intOf iv).toNat)
  case atStart =>
    refine ⟨0, 0, _, rfl, rfl, hB2, ?_, ?_, by omega, by omega, ?_, hb2⟩
    · have := HA.out.len
      simp; omega
    · exact HDA.out.append ((Dig.replicate B32_pos _).drop _)
    · rw [List.drop_replicate, show la + 1 - la = 1 by omega]
      simp [val_snoc, val]
  case round =>
    obtain ⟨c, i, zs, rfl, rfl, hB, hzl, hdz, hi, hc, hv, hbel⟩ := hrel
    have HZ := Lib.hid hB
    have HL := Lib.hid hzl
    have HD := Lib.hid hdz
    have HV := Lib.hid hv
    have HW := Lib.hid hbel
    clear hB hzl hdz hv hbel
    by_cases hgo : i < lb ∨ c = 1
    · have hil : i < la + 1 := by
        rcases hgo with h | h
        · omega
        · have h1 := val_lt B32_pos HDA.out
          have h2 := val_lt B32_pos (HDB.out.take i)
          have h3 := HV.out
          rw [HA.out.len] at h1
          rw [List.length_take, HB.out.len] at h2
          rcases Nat.lt_or_ge i (la + 1) with h4 | h4
          · exact h4
          · exfalso
            obtain rfl : i = la + 1 := by omega
            subst h
            have h5 : B32 ^ min (la + 1) lb ≤ B32 ^ la := Nat.pow_le_pow_right B32_pos (by omega)
            rw [Nat.pow_succ, B32_eq] at h3
            rw [B32_eq] at h1 h2 h5
            omega
      have c1 := HZ.out.cell i (by rw [HL.out]; exact hil)
      have f1 := HZ.out.frozen i
      have hx := HD.out.get B32_pos i
      have hy := HDB.out.get B32_pos i
      have hst := sum_step (B := B32) (c := c) (by rw [HL.out]; exact hil) HV.out B32_pos
      obtain ⟨x, hxe⟩ : ∃ x, x = zs[i]?.getD 0 := ⟨_, rfl⟩
      obtain ⟨y, hye⟩ : ∃ x, x = xb[i]?.getD 0 := ⟨_, rfl⟩
      rw [← hxe] at c1 hx hst
      rw [← hye] at hy hst
      rw [B32_eq] at hx hy
      have HST := Lib.hid hst
      have HX := Lib.hid hxe
      have HY := Lib.hid hye
      have b1 : (0 : Int) ≤ (i : Int) := by omega
      have b2 : (i : Int) < (la : Int) + 1 := by omega
      have HBr := Lib.hid (HB.out.keep HW.out)
      have hc2 : (c : Int) ≤ 1 := by omega
      have u1 := Lib.hid (IntWalk.u64_in (x : Int) ⟨by omega, by omega⟩)
      have u2 := Lib.hid (IntWalk.u64_in (y : Int) ⟨by omega, by omega⟩)
      have u3 := Lib.hid (IntWalk.u64_in ((x : Int) + (y : Int)) ⟨by omega, by omega⟩)
      have u4 := Lib.hid (IntWalk.u64_in ((c : Int) + ((x : Int) + (y : Int))) ⟨by omega, by omega⟩)
      clear hst hxe hye
      rcases Nat.lt_or_ge i lb with hlt | hge
      · have t2 : (i : Int) < (lb : Int) := by omega
        go_wp2
        have v1 := u1.out
        have v2 := u2.out
        have v3 := u3.out
        have v4 := u4.out
        go_quiet ((go_at_call 51; exact digit_quiet _ _ _ xb _ i y _ _ HBr.out rfl HY.out))
        clear v1 v2 v3 v4
        go_wp2
        go_roundw
        case rel => exact sum_rel HZ.out HL.out HD.out hil hc hx hy HST.out HW.out (Nat.le_refl _)
        case measure => simp [intOf]; omega
      · obtain rfl : c = 1 := by omega
        have t2 : ¬ (i : Int) < (lb : Int) := by omega
        go_wp2
        have v1 := u1.out
        have v2 := u2.out
        have v3 := u3.out
        have v4 := u4.out
        go_quiet ((go_at_call 51; exact digit_quiet _ _ _ xb _ i y _ _ HBr.out rfl HY.out))
        clear v1 v2 v3 v4
        go_wp2
        go_roundw
        case rel => exact sum_rel HZ.out HL.out HD.out hil hc hx hy HST.out HW.out (Nat.le_refl _)
        case measure => simp [intOf]; omega
    · obtain rfl : c = 0 := by omega
      have t2 : ¬ (i : Int) < (lb : Int) := by omega
      have HS := Lib.hid (HZ.out.whole HL.out)
      go_wp2_with (go_at_call 52; refine (trim_raw _ _ _ _ _ HS.out (by omega) (by omega)).mono ?_; rintro e w3 ⟨⟨ao', m, rfl, hm, ha', hz', ht, hzz⟩, rfl⟩)
      go_ret
      have hS := HS.out
      refine ⟨ao', m, m, rfl, ⟨_, trim_sl hS hm ha', HD.out.take _, ht, ?_⟩, HW.out⟩
      rw [val_take_of_zeros hzz]
      have h := HV.out
      rw [List.take_of_length_le (l := xb) (by rw [HB.out.len]; omega)] at h
      omega

set_option maxHeartbeats 1000000 in
theorem sum_any (ao bo : Option Addr) (la lb ca cb : Nat) (m n : Nat) (W : World) (ha : N32 W ao la m) (hb : N32 W bo lb n) (hla : la ≤ 1000000000) (hlb : lb ≤ 1000000000) :
    Calls Try.prog 26 #[.slice ao la ca, .slice bo lb cb] W (Out32 W (m + n)) := by
  obtain ⟨xa, ha, hda, hta, rfl⟩ := ha
  obtain ⟨xb, hb, hdb, htb, rfl⟩ := hb
  by_cases hl : la < lb
  · rw [Nat.add_comm]
    exact sum_swap bo ao lb la cb ca xb xa W hb ha hdb hda hlb (by omega)
  · exact sum_core ao bo la lb ca cb xa xb W ha hb hda hdb hla (by omega)
end Go.Proofs.Ytcgnmihabkgecaa

/- subtractProduct, in place; difference. -/
set_option linter.unusedVariables false
namespace Go.Proofs.Ytcgnmihabkgecaa
open Go.RowKit

theorem seg_get (pre seg post : List Nat) (i : Nat) (hi : i < seg.length) : (pre ++ seg ++ post)[pre.length + i]?.getD 0 = seg[i]?.getD 0 := by
  rw [List.append_assoc, List.getElem?_append_right (by omega), Nat.add_sub_cancel_left, List.getElem?_append_left hi]

theorem seg_set (pre seg post : List Nat) (i x : Nat) (hi : i < seg.length) : (pre ++ seg ++ post).set (pre.length + i) x = pre ++ seg.set i x ++ post := by
  rw [List.append_assoc, List.set_append_right (h := by omega), Nat.add_sub_cancel_left, List.set_append_left (h := hi), List.append_assoc]

/-- one step of a subtraction -/
theorem sub_step {B : Nat} {seg ys : List Nat} {i c f v0 nw br : Nat} (hi : i < seg.length) (h : val B seg + f * val B (ys.take i) = v0 + c * B ^ i)
    (hn : nw + (c + ys[i]?.getD 0 * f) % B = seg[i]?.getD 0 + br * B) :
    val B (seg.set i nw) + f * val B (ys.take (i + 1)) = v0 + ((c + ys[i]?.getD 0 * f) / B + br) * B ^ (i + 1) := by
  have h1 := val_set B seg i nw hi
  have h2 := Nat.mod_add_div (c + ys[i]?.getD 0 * f) B
  rw [val_take_succ]
  generalize (c + ys[i]?.getD 0 * f) % B = d at *
  generalize (c + ys[i]?.getD 0 * f) / B = c' at *
  generalize seg[i]?.getD 0 = z at *
  generalize ys[i]?.getD 0 = x at *
  generalize val B (seg.set i nw) = v at *
  rw [Nat.pow_succ]
  generalize B ^ i = p at *
  grind

theorem sub_carry {c f y br B s : Nat} (hB : 0 < B) (hc : c ≤ f) (hy : y < B) (hs : s < B) (hbr : br = 0 ∨ (br = 1 ∧ s < (c + y * f) % B)) : (c + y * f) / B + br ≤ f := by
  have h1 : c + y * f ≤ B * f := by
    have : (y + 1) * f ≤ B * f := Nat.mul_le_mul_right _ hy
    rw [Nat.add_mul] at this
    omega
  have h2 := Nat.div_add_mod (c + y * f) B
  rcases hbr with rfl | ⟨rfl, hlt⟩
  · have := Nat.div_le_div_right (c := B) h1
    rw [Nat.mul_div_cancel_left _ hB] at this
    omega
  · have h3 : B * ((c + y * f) / B) < B * f := by omega
    have := Nat.lt_of_mul_lt_mul_left h3
    omega

def SubRel (g e : Nat) (pre post ys : List Nat) (la f v0 : Nat) (W : World) (cv iv : Value) (wr : World) : Prop :=
  ∃ (c i : Nat) (seg : List Nat), cv = .int .u64 (c : Int) ∧ iv = .int .i64 (i : Int) ∧ Blk .u32 wr g e (pre ++ seg ++ post) ∧ seg.length = la ∧ Dig B32 seg ∧ i ≤ la ∧ c ≤ f ∧
    val B32 seg + f * val B32 (ys.take i) = v0 + c * B32 ^ i ∧ W.grownBy wr (some g) ∧ wr.heap.size = W.heap.size

def SubPost (g e : Nat) (pre post : List Nat) (la f y v0 : Nat) (W : World) (en : Ending) (w' : World) : Prop :=
  en = .returned (.tuple #[]) ∧ W.grownBy w' (some g) ∧ w'.heap.size = W.heap.size ∧ ∃ seg, Blk .u32 w' g e (pre ++ seg ++ post) ∧ seg.length = la ∧ Dig B32 seg ∧ val B32 seg + f * y = v0

theorem grownBy_set {W wr : World} {g : Nat} (h : W.grownBy wr (some g)) (nq i : Nat) (v : Value) : W.grownBy ((wr.drewN nq).setCell ⟨g, i, none⟩ v) (some g) := by
  refine ⟨h.os, h.tape, h.output, by have := h.size; simpa using this, fun k hk hne => ?_⟩
  rw [Below.heap_setCell _ _ _ _ (by intro e; exact hne (by rw [e]))]
  exact h.block k hk hne

theorem sub_rel {g e la i c f y s nw br off : Nat} {pre seg post ys : List Nat} {W wr : World} {v0 : Nat} (hB : Blk .u32 wr g e (pre ++ seg ++ post)) (hl : seg.length = la) (hd : Dig B32 seg) (hi : i < la) (hc : c ≤ f)
    (hy : y < 4294967296) (hs : s < 4294967296) (hye : y = ys[i]?.getD 0) (hse : s = seg[i]?.getD 0) (hoff : off = pre.length)
    (hv : val B32 seg + f * val B32 (ys.take i) = v0 + c * B32 ^ i)
    (hn : nw + (c + y * f) % 4294967296 = s + br * 4294967296) (hbr : br = 0 ∨ (br = 1 ∧ s < (c + y * f) % 4294967296)) (hnw : nw < 4294967296)
    (hb : W.grownBy wr (some g)) (hz : wr.heap.size = W.heap.size) (C V : Int) (hC : C = (((c + y * f) / 4294967296 + br : Nat) : Int)) (hV : V = (nw : Int)) :
    SubRel g e pre post ys la f v0 W (.int .u64 C) (.int .i64 ((i : Int) + 1)) (wr.setCell ⟨g, off + i, none⟩ (.int .u32 V)) := by
  subst hC hoff
  refine ⟨(c + y * f) / 4294967296 + br, i + 1, seg.set i nw, rfl, by go_num, ?_, by simpa using hl, hd.set i hnw, by omega, ?_, ?_, grownBy_set hb 0 _ _, by simpa using hz⟩
  · rw [← seg_set pre seg post i nw (by omega)]
    exact hB.set _ _ _ hV
  · exact sub_carry (by decide) hc hy hs hbr
  · have := sub_step (B := B32) (seg := seg) (ys := ys) (i := i) (c := c) (f := f) (v0 := v0) (nw := nw) (br := br) (by omega) hv (by rw [← hye, ← hse]; exact hn)
    rw [← hye] at this
    exact this

set_option maxHeartbeats 1000000 in
theorem subtractProduct_any (g e off la ca : Nat) (pre seg0 post : List Nat) (bo : Option Addr) (lb cb : Nat) (ys : List Nat) (F : Int) (f : Nat) (W : World)
    (hB : Blk .u32 W g e (pre ++ seg0 ++ post)) (hoff : off = pre.length) (hl : seg0.length = la) (hd : Dig B32 seg0)
    (hb : ∀ w', W.grownBy w' (some g) → Sl .u32 w' bo lb ys) (hdy : Dig B32 ys) (hF : F = (f : Int)) (hf : f < 4294967296) (hlb : lb ≤ la) (hla : la ≤ 2000000000)
    (hle : f * val B32 ys ≤ val B32 seg0) :
    Calls Try.prog 53 #[.slice (some ⟨g, off, none⟩) la ca, .slice bo lb cb, .int .u32 F] W (SubPost g e pre post la f (val B32 ys) (val B32 seg0) W) := by
  subst hF
  have HB := Lib.hid hb
  have HDY := Lib.hid hdy
  have HLE := Lib.hid hle
  have HO := Lib.hid hoff
  have HLY : Hid (ys.length = lb) := (hb W (World.grownBy.refl _ _)).len
  have HB0 := Lib.hid hB
  have HD0 := Lib.hid hd
  have HL0 := Lib.hid hl
  clear hb hdy hle hoff hB hd hl
  go_enter Try.func53, Try.ntmps53
  go_wp2
  go_loopw [6, 7] (fun cv iv wr => SubRel g e pre post ys la f (val B32 seg0) W cv iv wr) (fun cv iv _ => la + 2 - (intOf iv).toNat)
  case atStart =>
    exact ⟨0, 0, seg0, rfl, rfl, HB0.out, HL0.out, HD0.out, by omega, by omega, by simp [val], World.grownBy.refl _ _, rfl⟩
  case round =>
    obtain ⟨c, i, seg, rfl, rfl, hB, hsl, hds, hi, hc, hv, hbel, hz⟩ := hrel
    have HZ := Lib.hid hB
    have HL := Lib.hid hsl
    have HD := Lib.hid hds
    have HV := Lib.hid hv
    have HW := Lib.hid hbel
    have HHZ := Lib.hid hz
    clear hB hsl hds hv hbel hz
    by_cases hgo : i < lb ∨ 0 < c
    · have hil : i < la := by
        rcases hgo with h | h
        · omega
        · rcases Nat.lt_or_ge i la with h4 | h4
          · exact h4
          · exfalso
            obtain rfl : i = la := by omega
            have h1 := val_lt B32_pos HD.out
            rw [HL.out] at h1
            have h3 := HV.out
            rw [List.take_of_length_le (by rw [HLY.out]; exact hlb)] at h3
            have h5 : 1 * B32 ^ i ≤ c * B32 ^ i := Nat.mul_le_mul_right _ h
            have := HLE.out
            omega
      have hgl : pre.length + i < (pre ++ seg ++ post).length := by
        have := HL.out
        simp; omega
      have c1 := HZ.out.cell (pre.length + i) hgl
      rw [seg_get _ _ _ _ (by rw [HL.out]; exact hil), ← HO.out] at c1
      have f1 := HZ.out.frozen (off + i)
      have hs := HD.out.get B32_pos i
      have hy := HDY.out.get B32_pos i
      obtain ⟨s, hse⟩ : ∃ x, x = seg[i]?.getD 0 := ⟨_, rfl⟩
      obtain ⟨y, hye⟩ : ∃ x, x = ys[i]?.getD 0 := ⟨_, rfl⟩
      rw [← hse] at c1 hs
      rw [← hye] at hy
      rw [B32_eq] at hs hy
      have HS := Lib.hid hse
      have HY := Lib.hid hye
      have b1 : (0 : Int) ≤ (i : Int) := by omega
      have b2 : (i : Int) < (la : Int) := by omega
      have HBr := Lib.hid (HB.out wr HW.out)
      have hm0 : (0 : Int) ≤ (y : Int) * (f : Int) := Int.mul_nonneg (by omega) (by omega)
      have hm1 : (y : Int) * (f : Int) ≤ 18446744065119617025 := by
        have h1 : y * f ≤ 4294967295 * 4294967295 := Nat.mul_le_mul (by omega) (by omega)
        have h2 : ((y * f : Nat) : Int) ≤ ((4294967295 * 4294967295 : Nat) : Int) := Int.ofNat_le.2 h1
        rw [Int.natCast_mul] at h2
        exact h2
      obtain ⟨t, ht⟩ : ∃ t : Nat, t = y * f := ⟨_, rfl⟩
      have ht2 : (y : Int) * (f : Int) = (t : Int) := by rw [ht, Int.natCast_mul]
      have HT := Lib.hid ht
      have HT2 := Lib.hid ht2
      clear hse hye ht ht2
      rcases Nat.lt_or_ge i lb with hlt | hge
      · have t2 : (i : Int) < (lb : Int) := by omega
        go_wp2_with (go_at_call 51; refine (digit_any _ _ _ ys _ i _ HBr.out rfl).mono ?_; rw [← HY.out]; rintro e w1 ⟨rfl, rfl⟩)
        · have h : (s : Int) < ((c : Int) + (y : Int) * (f : Int)) % 4294967296 := by assumption
          rw [HT2.out] at h ⊢
          refine ⟨?_, by simp [intOf]; omega⟩
          have ht := HT.out
          refine sub_rel (nw := s + 4294967296 - (c + y * f) % 4294967296) (br := 1) HZ.out HL.out HD.out hil hc hy hs HY.out HS.out HO.out HV.out ?_ (Or.inr ⟨rfl, ?_⟩) ?_ HW.out HHZ.out _ _ ?_ ?_ <;> rw [← ht] <;> omega
        · have h : ((c : Int) + (y : Int) * (f : Int)) % 4294967296 ≤ (s : Int) := by assumption
          rw [HT2.out] at h ⊢
          refine ⟨?_, by simp [intOf]; omega⟩
          have ht := HT.out
          refine sub_rel (nw := s - (c + y * f) % 4294967296) (br := 0) HZ.out HL.out HD.out hil hc hy hs HY.out HS.out HO.out HV.out ?_ (Or.inl rfl) ?_ HW.out HHZ.out _ _ ?_ ?_ <;> (try rw [← ht]) <;> omega
      · have t2 : ¬ (i : Int) < (lb : Int) := by omega
        have t3 : (0 : Int) < (c : Int) := by omega
        go_wp2_with (go_at_call 51; refine (digit_any _ _ _ ys _ i _ HBr.out rfl).mono ?_; rw [← HY.out]; rintro e w1 ⟨rfl, rfl⟩)
        · have h : (s : Int) < ((c : Int) + (y : Int) * (f : Int)) % 4294967296 := by assumption
          rw [HT2.out] at h ⊢
          refine ⟨?_, by simp [intOf]; omega⟩
          have ht := HT.out
          refine sub_rel (nw := s + 4294967296 - (c + y * f) % 4294967296) (br := 1) HZ.out HL.out HD.out hil hc hy hs HY.out HS.out HO.out HV.out ?_ (Or.inr ⟨rfl, ?_⟩) ?_ HW.out HHZ.out _ _ ?_ ?_ <;> rw [← ht] <;> omega
        · have h : ((c : Int) + (y : Int) * (f : Int)) % 4294967296 ≤ (s : Int) := by assumption
          rw [HT2.out] at h ⊢
          refine ⟨?_, by simp [intOf]; omega⟩
          have ht := HT.out
          refine sub_rel (nw := s - (c + y * f) % 4294967296) (br := 0) HZ.out HL.out HD.out hil hc hy hs HY.out HS.out HO.out HV.out ?_ (Or.inl rfl) ?_ HW.out HHZ.out _ _ ?_ ?_ <;> (try rw [← ht]) <;> omega
    · obtain rfl : c = 0 := by omega
      have t2 : ¬ (i : Int) < (lb : Int) := by omega
      go_wp2
      go_end0
      refine ⟨rfl, HW.out, HHZ.out, seg, HZ.out, HL.out, HD.out, ?_⟩
      have h := HV.out
      rw [List.take_of_length_le (l := ys) (by rw [HLY.out]; omega)] at h
      omega

set_option maxHeartbeats 400000 in
theorem subtractProduct_nil (bo : Option Addr) (cb : Nat) (F : Int) (W : World) :
    Calls Try.prog 53 #[.slice none 0 0, .slice bo 0 cb, .int .u32 F] W (fun e w' => e = .returned (.tuple #[]) ∧ W = w') := by
  go_enter Try.func53, Try.ntmps53
  go_wp2
  go_loop [6, 7] (fun cv iv => cv = .int .u64 0 ∧ iv = .int .i64 0) (fun cv iv => 0)
  case atStart => exact ⟨rfl, rfl⟩
  case round =>
    obtain ⟨rfl, rfl⟩ := hrel
    go_wp2
    go_end0
    exact ⟨rfl, rfl⟩

set_option maxHeartbeats 1000000 in
theorem difference_any (ao bo : Option Addr) (la lb ca cb : Nat) (m n : Nat) (W : World) (ha : N32 W ao la m) (hb : N32 W bo lb n) (hla : la ≤ 1000000000) (hle : n ≤ m) :
    Calls Try.prog 27 #[.slice ao la ca, .slice bo lb cb] W (Out32 W (m - n)) := by
  obtain ⟨xa, ha, hda, hta, rfl⟩ := ha
  obtain ⟨xb, hb, hdb, htb, rfl⟩ := hb
  have hlb : lb ≤ la := by
    have h1 := val_lt B32_pos hda
    rw [ha.len] at h1
    have := len_le_of_lt B32_gt htb (Nat.lt_of_le_of_lt hle h1)
    rwa [hb.len] at this
  have HA := Lib.hid ha
  have HB := Lib.hid hb
  have HDA := Lib.hid hda
  have HDB := Lib.hid hdb
  have HLE := Lib.hid hle
  clear ha hb hda hdb hle hta htb
  by_cases h0 : la = 0
  · obtain rfl : lb = 0 := by omega
    subst h0
    have ea : xa = [] := List.eq_nil_of_length_eq_zero HA.out.len
    have eb : xb = [] := List.eq_nil_of_length_eq_zero HB.out.len
    subst ea eb
    go_enter Try.func27, Try.ntmps27
    go_wp2_with fail
    refine (duplicate_any _ _ _ _ _ HA.out (by omega)).mono ?_
    rintro e w1 (⟨_, rfl, rfl⟩ | ⟨h, _⟩)
    · go_wp2_with fail
      refine (subtractProduct_nil _ _ _ _).mono ?_
      rintro e w2 ⟨rfl, rfl⟩
      go_wp2_with (go_at_call 52; refine (trim_raw _ _ _ _ _ (Sl.nil _ _ _) (by omega) (by omega)).mono ?_; rintro e w3 ⟨⟨ao', m, rfl, hm, ha', hz', ht, hzz⟩, rfl⟩)
      go_ret
      obtain rfl : m = 0 := by omega
      exact ⟨ao', 0, 0, rfl, N32.nil _ _, Below.refl _ _⟩
    · omega
  · go_enter Try.func27, Try.ntmps27
    go_wp2_with fail
    refine (duplicate_any _ _ _ _ _ HA.out (by omega)).mono ?_
    rintro e w1 (⟨h, _⟩ | ⟨_, rfl, hB, hb1, hz1⟩)
    · omega
    · have H1 := Lib.hid hB
      clear hB
      go_wp2_with fail
      refine (subtractProduct_any W.heap.size 61 0 la la [] xa [] bo lb cb xb 1 1 w1 (by simpa using H1.out) rfl HA.out.len HDA.out ?_ HDB.out rfl (by decide) hlb (by omega) (by have := HLE.out; omega)).mono ?_
      · intro w' hg
        exact HB.out.keep (hb1.grown hg hb1.size (fun k hk => by cases hk; exact Nat.le_refl _))
      · rintro e w2 ⟨rfl, hg2, hz2, seg, hB2, hl2, hd2, hv2⟩
        simp only [List.nil_append, List.append_nil] at hB2
        have H2 := Lib.hid (hB2.whole hl2)
        have HV := Lib.hid hv2
        clear hB2 hv2
        go_wp2_with (go_at_call 52; refine (trim_raw _ _ _ _ _ H2.out (by omega) (by omega)).mono ?_; rintro e w3 ⟨⟨ao', m, rfl, hm, ha', hz', ht, hzz⟩, rfl⟩)
        go_ret
        refine ⟨ao', m, m, rfl, ⟨_, trim_sl H2.out hm ha', hd2.take _, ht, ?_⟩, ?_⟩
        · rw [val_take_of_zeros hzz]
          have := HV.out
          omega
        · exact hb1.grown hg2 hb1.size (fun k hk => by cases hk; exact Nat.le_refl _)
end Go.Proofs.Ytcgnmihabkgecaa

/- product. -/
set_option linter.unusedVariables false
namespace Go.Proofs.Ytcgnmihabkgecaa
open Go.RowKit

theorem prod_step {B : Nat} {zs xb : List Nat} {i k c x vi vb : Nat} (hi : i + k < zs.length) (h : val B zs + c * B ^ (i + k) = vi * vb + x * val B (xb.take k) * B ^ i) :
    val B (zs.set (i + k) ((c + (x * (xb[k]?.getD 0) + zs[i + k]?.getD 0)) % B)) + (c + (x * (xb[k]?.getD 0) + zs[i + k]?.getD 0)) / B * B ^ (i + (k + 1)) = vi * vb + x * val B (xb.take (k + 1)) * B ^ i := by
  have h1 := val_set B zs (i + k) ((c + (x * (xb[k]?.getD 0) + zs[i + k]?.getD 0)) % B) hi
  have h2 := Nat.mod_add_div (c + (x * (xb[k]?.getD 0) + zs[i + k]?.getD 0)) B
  rw [val_take_succ]
  generalize (c + (x * (xb[k]?.getD 0) + zs[i + k]?.getD 0)) % B = d at *
  generalize (c + (x * (xb[k]?.getD 0) + zs[i + k]?.getD 0)) / B = c' at *
  generalize zs[i + k]?.getD 0 = z at *
  generalize xb[k]?.getD 0 = y at *
  generalize val B (zs.set (i + k) d) = v at *
  rw [← Nat.add_assoc, Nat.pow_succ]
  simp only [Nat.pow_add] at *
  generalize B ^ i = p at *
  generalize B ^ k = q at *
  grind

theorem prod_carry {c x y z : Nat} (hc : c < 4294967296) (hx : x < 4294967296) (hy : y < 4294967296) (hz : z < 4294967296) : c + (x * y + z) < 18446744073709551616 := by
  have h1 : x * y ≤ 4294967295 * 4294967295 := Nat.mul_le_mul (by omega) (by omega)
  omega

def ProdRel (g la lb : Nat) (xa xb : List Nat) (W : World) (iv : Value) (wr : World) : Prop :=
  ∃ (i : Nat) (zs : List Nat), iv = .int .i64 (i : Int) ∧ Blk .u32 wr g 61 zs ∧ zs.length = la + lb ∧ Dig B32 zs ∧ i ≤ la ∧
    val B32 zs = val B32 (xa.take i) * val B32 xb ∧ (∀ j, i + lb ≤ j → zs[j]?.getD 0 = 0) ∧ Below W.heap.size W wr

def ProdIn (g la lb i x : Nat) (xa xb : List Nat) (W : World) (cv kv : Value) (wr : World) : Prop :=
  ∃ (c k : Nat) (zs : List Nat), cv = .int .u64 (c : Int) ∧ kv = .int .i64 (k : Int) ∧ Blk .u32 wr g 61 zs ∧ zs.length = la + lb ∧ Dig B32 zs ∧ k ≤ lb ∧ c < 4294967296 ∧
    val B32 zs + c * B32 ^ (i + k) = val B32 (xa.take i) * val B32 xb + x * val B32 (xb.take k) * B32 ^ i ∧ (∀ j, i + lb ≤ j → zs[j]?.getD 0 = 0) ∧ Below W.heap.size W wr

theorem prod_in {g la lb i k c x y z : Nat} {xa xb zs : List Nat} {W wr : World} (hB : Blk .u32 wr g 61 zs) (hl : zs.length = la + lb) (hd : Dig B32 zs) (hk : k < lb) (hi : i < la) (hc : c < 4294967296)
    (hx : x < 4294967296) (hy : y < 4294967296) (hz : z < 4294967296) (hye : y = xb[k]?.getD 0) (hze : z = zs[i + k]?.getD 0)
    (hv : val B32 zs + c * B32 ^ (i + k) = val B32 (xa.take i) * val B32 xb + x * val B32 (xb.take k) * B32 ^ i) (h0 : ∀ j, i + lb ≤ j → zs[j]?.getD 0 = 0) (hb : Below W.heap.size W wr) (hg : W.heap.size ≤ g)
    (t : Nat) (ht : t = x * y) :
    ProdIn g la lb i x xa xb W (.int .u64 (((c : Int) + ((t : Int) + (z : Int))) / 4294967296)) (.int .i64 ((k : Int) + 1))
      (wr.setCell ⟨g, i + k, none⟩ (.int .u32 (((c : Int) + ((t : Int) + (z : Int))) % 4294967296))) := by
  subst ht
  have hs := prod_step (B := B32) (zs := zs) (xb := xb) (i := i) (k := k) (c := c) (x := x) (vi := val B32 (xa.take i)) (vb := val B32 xb) (by omega) hv
  rw [← hye, ← hze] at hs
  have hcc := prod_carry hc hx hy hz
  refine ⟨(c + (x * y + z)) / B32, k + 1, zs.set (i + k) ((c + (x * y + z)) % B32), ?_, by go_num, hB.set _ _ _ ?_, by simpa using hl, hd.set _ (Nat.mod_lt _ B32_pos), by omega, ?_, hs, ?_, hb.setCell hg _⟩
  · generalize x * y = t at *
    exact congrArg (Value.int _) (by rw [B32_eq]; omega)
  · generalize x * y = t at *
    rw [B32_eq]; omega
  · generalize x * y = t at *
    rw [B32_eq]; omega
  · intro j hj
    rw [List.getElem?_set_ne (by omega)]
    exact h0 j hj

theorem prod_out {g la lb i c : Nat} {xa xb zs : List Nat} {W wr : World} (hB : Blk .u32 wr g 61 zs) (hl : zs.length = la + lb) (hd : Dig B32 zs) (hi : i < la) (hc : c < 4294967296)
    (hxb : xb.length = lb)
    (hv : val B32 zs + c * B32 ^ (i + lb) = val B32 (xa.take i) * val B32 xb + (xa[i]?.getD 0) * val B32 (xb.take lb) * B32 ^ i) (h0 : ∀ j, i + lb ≤ j → zs[j]?.getD 0 = 0) (hb : Below W.heap.size W wr) (hg : W.heap.size ≤ g) :
    ProdRel g la lb xa xb W (.int .i64 ((i : Int) + 1)) (wr.setCell ⟨g, i + lb, none⟩ (.int .u32 (c : Int))) := by
  refine ⟨i + 1, zs.set (i + lb) c, by go_num, hB.set _ _ _ rfl, by simpa using hl, hd.set _ (by rw [B32_eq]; exact hc), by omega, ?_, ?_, hb.setCell hg _⟩
  · have h1 := val_set B32 zs (i + lb) c (by omega)
    rw [h0 _ (Nat.le_refl _)] at h1
    rw [List.take_of_length_le (l := xb) (by omega)] at hv
    rw [val_take_succ]
    generalize val B32 (zs.set (i + lb) c) = v at *
    simp only [Nat.pow_add] at *
    generalize B32 ^ i = p at *
    generalize B32 ^ lb = q at *
    grind
  · intro j hj
    rw [List.getElem?_set_ne (by omega)]
    exact h0 j (by omega)

set_option maxHeartbeats 1000000 in
theorem product_any (ao bo : Option Addr) (la lb ca cb : Nat) (m n : Nat) (W : World) (ha : N32 W ao la m) (hb : N32 W bo lb n) (hla : la ≤ 1000000000) (hlb : lb ≤ 1000000000) :
    Calls Try.prog 35 #[.slice ao la ca, .slice bo lb cb] W (Out32 W (m * n)) := by
  obtain ⟨xa, ⟨hxa, ba, oa, hao, hca⟩, hda, hta, rfl⟩ := ha
  obtain ⟨xb, ⟨hxb, bb, ob, hbo, hcb⟩, hdb, htb, rfl⟩ := hb
  have HA := Lib.hid hca
  have HB := Lib.hid hcb
  have HDA := Lib.hid hda
  have HDB := Lib.hid hdb
  have HXA := Lib.hid hxa
  have HXB := Lib.hid hxb
  have HAO := Lib.hid hao
  have HBO := Lib.hid hbo
  have HG := Lib.hid (Nat.le_refl W.heap.size)
  clear hca hcb hda hdb hta htb hxa hxb hao hbo
  go_enter Try.func35, Try.ntmps35
  go_wp2_with (at_make; refine wpList_mk rfl _ 25 rfl 61 .u32 4 Try.underlying25 (by kernel_rfl) _ (la + lb) rfl (by omega) (by omega) (by omega) ?_; intro w1 hB1 hb1 hz1)
  go_loopw [19] (fun iv wr => ProdRel W.heap.size la lb xa xb W iv wr) (fun iv _ => la - (intOf iv).toNat)
  case atStart =>
    refine ⟨0, _, rfl, hB1, by simp, Dig.replicate B32_pos _, by omega, ?_, ?_, hb1⟩
    · rw [val_replicate]; simp [val]
    · intro j hj; rw [List.getElem?_replicate]; split <;> rfl
  case round =>
    obtain ⟨i, zs, rfl, hB, hzl, hdz, hi, hv, h0, hbel⟩ := hrel
    obtain ⟨wo, rfl⟩ : ∃ wo : World, wo = wr := ⟨_, rfl⟩
    have HZ := Lib.hid hB
    have HL := Lib.hid hzl
    have HD := Lib.hid hdz
    have HV := Lib.hid hv
    have H0 := Lib.hid h0
    have HW := Lib.hid hbel
    clear hB hzl hdz hv h0 hbel
    by_cases hil : i < la
    · obtain rfl := HAO.out (by omega)
      have ca1 := cell_later HW.out (HA.out i hil)
      have hx := HDA.out.get B32_pos i
      obtain ⟨x, hxe⟩ : ∃ x, x = xa[i]?.getD 0 := ⟨_, rfl⟩
      rw [← hxe] at ca1 hx
      rw [B32_eq] at hx
      have HX := Lib.hid hxe
      clear hxe
      have b1 : (i : Int) < (la : Int) := by omega
      go_wp2
      go_loopw [8, 26] (fun cv kv wr => ProdIn W.heap.size la lb i x xa xb W cv kv wr) (fun cv kv _ => lb - (intOf kv).toNat)
      case atStart =>
        exact ⟨0, 0, zs, rfl, rfl, HZ.out, HL.out, HD.out, by omega, by omega, by rw [HV.out]; simp [val], H0.out, HW.out⟩
      case round =>
        obtain ⟨c, k, ys, rfl, rfl, hB, hzl, hdz, hk, hc, hv, h0, hbel⟩ := hrel
        have GZ := Lib.hid hB
        have GL := Lib.hid hzl
        have GD := Lib.hid hdz
        have GV := Lib.hid hv
        have G0 := Lib.hid h0
        have GW := Lib.hid hbel
        clear hB hzl hdz hv h0 hbel
        by_cases hkl : k < lb
        · obtain rfl := HBO.out (by omega)
          have cb1 := cell_later GW.out (HB.out k hkl)
          have hy := HDB.out.get B32_pos k
          obtain ⟨y, hye⟩ : ∃ x, x = xb[k]?.getD 0 := ⟨_, rfl⟩
          rw [← hye] at cb1 hy
          rw [B32_eq] at hy
          have cz1 := GZ.out.cell (i + k) (by rw [GL.out]; omega)
          have fz1 := GZ.out.frozen (i + k)
          have hz := GD.out.get B32_pos (i + k)
          obtain ⟨z, hze⟩ : ∃ x, x = ys[i + k]?.getD 0 := ⟨_, rfl⟩
          rw [← hze] at cz1 hz
          rw [B32_eq] at hz
          have HY := Lib.hid hye
          have HHZ := Lib.hid hze
          clear hye hze
          have hm0 : (0 : Int) ≤ (x : Int) * (y : Int) := Int.mul_nonneg (by omega) (by omega)
          have hm1 : (x : Int) * (y : Int) ≤ 18446744065119617025 := by
            have h1 : x * y ≤ 4294967295 * 4294967295 := Nat.mul_le_mul (by omega) (by omega)
            have h2 : ((x * y : Nat) : Int) ≤ ((4294967295 * 4294967295 : Nat) : Int) := Int.ofNat_le.2 h1
            rw [Int.natCast_mul] at h2
            exact h2
          have b2 : (k : Int) < (lb : Int) := by omega
          obtain ⟨t, ht⟩ : ∃ t : Nat, t = x * y := ⟨_, rfl⟩
          have ht2 : (x : Int) * (y : Int) = (t : Int) := by rw [ht, Int.natCast_mul]
          have HT := Lib.hid ht
          have HT2 := Lib.hid ht2
          clear ht ht2
          go_wp2
          rw [HT2.out]
          exact ⟨prod_in GZ.out GL.out GD.out hkl hil hc hx hy hz HY.out HHZ.out GV.out G0.out GW.out HG.out t HT.out, by simp [intOf]; omega⟩
        · obtain rfl : k = lb := by omega
          have cz1 := GZ.out.cell (i + k) (by rw [GL.out]; omega)
          have fz1 := GZ.out.frozen (i + k)
          go_wp2
          exact ⟨prod_out GZ.out GL.out GD.out hil hc HXB.out (by rw [← HX.out]; exact GV.out) G0.out GW.out HG.out, by simp [intOf]; omega⟩
    · obtain rfl : i = la := by omega
      have HS := Lib.hid (HZ.out.whole HL.out)
      go_wp2_with (go_at_call 52; refine (trim_raw _ _ _ _ _ HS.out (by omega) (by omega)).mono ?_; rintro e w3 ⟨⟨ao', m, rfl, hm, ha', hz', ht, hzz⟩, rfl⟩)
      go_ret
      refine ⟨ao', m, m, rfl, ⟨_, trim_sl HS.out hm ha', HD.out.take _, ht, ?_⟩, HW.out⟩
      rw [val_take_of_zeros hzz, HV.out, List.take_of_length_le (by rw [HXA.out]; exact Nat.le_refl _)]
end Go.Proofs.Ytcgnmihabkgecaa

/- shrink: a division by one digit, in place. -/
set_option linter.unusedVariables false
namespace Go.Proofs.Ytcgnmihabkgecaa
open Go.RowKit

theorem or_shift' (a x i m : Nat) (ha : a < 2 ^ i) (hm : m = 2 ^ i) (h : x * m < 18446744073709551616) (h2 : a < 18446744073709551616) :
    bits BinOp.or IntKind.u64 ((x : Int) * (m : Int)) (a : Int) = ((x * m + a : Nat) : Int) := by
  rw [show ((x : Int) * (m : Int)) = ((x * m : Nat) : Int) by push_cast; rfl]
  rw [u64_or_nat _ _ h h2]
  congr 1
  subst hm
  have := Nat.two_pow_add_eq_or_of_lt ha x
  rw [Nat.mul_comm x, ← this]

/-- one step of a division by d, from the top -/
theorem shrink_step {B d r i : Nat} {zs : List Nat} {top : Nat} (hi : i < zs.length) (hd : 0 < d) (h : d * (B ^ (i + 1) * val B (zs.drop (i + 1))) + r * B ^ (i + 1) = B ^ (i + 1) * top) :
    d * (B ^ i * val B ((zs.set i ((r * B + zs[i]?.getD 0) / d)).drop i)) + ((r * B + zs[i]?.getD 0) % d) * B ^ i = B ^ i * (zs[i]?.getD 0 + B * top) := by
  have e : (zs.set i ((r * B + zs[i]?.getD 0) / d)).drop i = (r * B + zs[i]?.getD 0) / d :: zs.drop (i + 1) := by
    rw [drop_eq_cons _ i (by simpa using hi)]
    rw [List.drop_set_of_lt (by omega)]
    simp [List.getElem?_set_self hi]
  rw [e, val_cons]
  have h2 := Nat.div_add_mod (r * B + zs[i]?.getD 0) d
  generalize (r * B + zs[i]?.getD 0) / d = q at *
  generalize (r * B + zs[i]?.getD 0) % d = t at *
  generalize zs[i]?.getD 0 = z at *
  generalize val B (zs.drop (i + 1)) = v at *
  rw [Nat.pow_succ] at h
  generalize B ^ i = p at *
  grind

def ShrinkRel (g e la d : Nat) (xs post : List Nat) (W : World) (rv iv : Value) (wr : World) : Prop :=
  ∃ (r i : Nat) (zs : List Nat), rv = .int .u64 (r : Int) ∧ iv = .int .i64 ((i : Int) - 1) ∧ Blk .u32 wr g e (zs ++ post) ∧ zs.length = la ∧ Dig B32 zs ∧ i ≤ la ∧ r < d ∧
    d * (B32 ^ i * val B32 (zs.drop i)) + r * B32 ^ i = B32 ^ i * val B32 (xs.drop i) ∧ zs.take i = xs.take i ∧ W.grownBy wr (some g) ∧ wr.heap.size = W.heap.size

/-- the quotient in the same block, and the remainder -/
def ShrinkPost (g e la d : Nat) (xs post : List Nat) (W : World) (en : Ending) (w' : World) : Prop :=
  ∃ ao n zs, en = .returned (.tuple #[.slice ao n n, .int .u32 ((val B32 xs % d : Nat) : Int)]) ∧ Blk .u32 w' g e (zs ++ post) ∧ zs.length = la ∧ Dig B32 zs ∧ val B32 zs = val B32 xs / d ∧
    n ≤ la ∧ (0 < n → ao = some ⟨g, 0, none⟩) ∧ (n = 0 → ao = none) ∧ Top (zs.take n) ∧ val B32 (zs.take n) = val B32 xs / d ∧ W.grownBy w' (some g) ∧ w'.heap.size = W.heap.size

theorem shrink_rel {g e la d r i x q t : Nat} {xs zs post : List Nat} {W wr : World} (hB : Blk .u32 wr g e (zs ++ post)) (hl : zs.length = la) (hD : Dig B32 zs) (hi : i < la) (hd : 0 < d) (hd2 : d < B32) (hr : r < d) (hxl : xs.length = la)
    (hx : x = xs[i]?.getD 0) (hxb : x < B32)
    (hv : d * (B32 ^ (i + 1) * val B32 (zs.drop (i + 1))) + r * B32 ^ (i + 1) = B32 ^ (i + 1) * val B32 (xs.drop (i + 1))) (ht : zs.take (i + 1) = xs.take (i + 1)) (hb : W.grownBy wr (some g)) (hz : wr.heap.size = W.heap.size)
    (hq : q = (r * B32 + x) / d) (htt : t = (r * B32 + x) % d) (R I V : Int) (hR : R = (t : Int)) (hI : I = (i : Int) - 1) (hV : V = (q : Int)) :
    ShrinkRel g e la d xs post W (.int .u64 R) (.int .i64 I) (wr.setCell ⟨g, i, none⟩ (.int .u32 V)) := by
  have hzx : zs[i]?.getD 0 = x := by
    have := congrArg (fun l => l[i]?.getD 0) ht
    simp only [List.getElem?_take, show i < i + 1 by omega, if_true] at this
    rw [this, hx]
  have hs := shrink_step (B := B32) (d := d) (r := r) (i := i) (zs := zs) (top := val B32 (xs.drop (i + 1))) (by omega) hd hv
  rw [hzx, ← hq, ← htt] at hs
  have hq2 : q < B32 := by
    rw [hq]
    apply Nat.div_lt_of_lt_mul
    have : (r + 1) * B32 ≤ d * B32 := Nat.mul_le_mul_right _ hr
    rw [Nat.add_mul] at this
    omega
  refine ⟨t, i, zs.set i q, by rw [hR], by rw [hI], by have := hB.set i q V hV; rwa [List.set_append_left (h := by omega)] at this, by simpa using hl, hD.set _ hq2, by omega, by rw [htt]; exact Nat.mod_lt _ hd, ?_, ?_, grownBy_set hb 0 _ _, by simpa using hz⟩
  · rw [drop_eq_cons xs i (by omega), val_cons, ← hx]
    exact hs
  · rw [List.take_set_of_le (by omega)]
    have := congrArg (List.take i) ht
    rwa [List.take_take, List.take_take, Nat.min_eq_left (by omega)] at this

set_option maxHeartbeats 1000000 in
theorem shrink_any (g e la ca : Nat) (xs post : List Nat) (D : Int) (d : Nat) (W : World) (hB : Blk .u32 W g e (xs ++ post)) (hl : xs.length = la) (hd : Dig B32 xs) (hD : D = (d : Int)) (hd0 : 0 < d) (hdB : d < 4294967296)
    (hla : la ≤ 2000000000) (hlc : la ≤ ca) (hca : ca ≤ 9223372036854775807) :
    Calls Try.prog 46 #[.slice (some ⟨g, 0, none⟩) la ca, .int .u32 D] W (ShrinkPost g e la d xs post W) := by
  subst hD
  have HB := Lib.hid hB
  have HX := Lib.hid hl
  have HD := Lib.hid hd
  clear hB hl hd
  go_enter Try.func46, Try.ntmps46
  go_wp2
  go_loopw [6, 7] (fun rv iv wr => ShrinkRel g e la d xs post W rv iv wr) (fun rv iv _ => (intOf iv + 1).toNat)
  case atStart =>
    exact ⟨0, la, xs, rfl, rfl, HB.out, HX.out, HD.out, Nat.le_refl _, hd0, by rw [List.drop_of_length_le (by rw [HX.out]; exact Nat.le_refl _)]; simp [val], rfl, World.grownBy.refl _ _, rfl⟩
  case round =>
    obtain ⟨r, i, zs, rfl, rfl, hB, hzl, hdz, hi, hr, hv, ht, hbel, hz⟩ := hrel
    have GZ := Lib.hid hB
    have GL := Lib.hid hzl
    have GD := Lib.hid hdz
    have GV := Lib.hid hv
    have GT := Lib.hid ht
    have GW := Lib.hid hbel
    have GH := Lib.hid hz
    clear hB hzl hdz hv ht hbel hz
    by_cases hi0 : i = 0
    · subst hi0
      have HS : Hid (Sl .u32 wr (some ⟨g, 0, none⟩) la zs) := by
        have := GZ.out.sl0 la (by have := GL.out; simp; omega)
        rwa [List.take_append_of_le_length (by rw [GL.out]; exact Nat.le_refl _), List.take_of_length_le (by rw [GL.out]; exact Nat.le_refl _)] at this
      go_wp2_with (go_at_call 52; refine (trim_raw _ _ _ _ _ HS.out (by omega) (by omega)).mono ?_; rintro e w3 ⟨⟨ao', m, rfl, hm, ha', hz', ht, hzz⟩, rfl⟩)
      go_ret2
      have hv := GV.out
      simp only [Nat.pow_zero, List.drop_zero, Nat.one_mul, Nat.mul_one] at hv
      have hq : val B32 zs = val B32 xs / d := by
        rw [← hv, Nat.mul_add_div hd0, Nat.div_eq_of_lt hr, Nat.add_zero]
      have hm2 : r = val B32 xs % d := by
        rw [← hv, Nat.mul_add_mod, Nat.mod_eq_of_lt hr]
      exact ⟨ao', m, zs, by rw [← hm2]; rfl, GZ.out, GL.out, GD.out, hq, hm, ha', hz', ht, by rw [val_take_of_zeros hzz, hq], GW.out, GH.out⟩
    · obtain ⟨j, rfl⟩ : ∃ j, i = j + 1 := ⟨i - 1, by omega⟩
      have e1 : (((j + 1 : Nat) : Int) - 1) = (j : Int) := by omega
      rw [e1]
      clear e1
      have hzx : zs[j]?.getD 0 = xs[j]?.getD 0 := by
        have := congrArg (fun l => l[j]?.getD 0) GT.out
        simpa only [List.getElem?_take, show j < j + 1 by omega, if_true] using this
      have c1 := GZ.out.cell j (by have := GL.out; simp; omega)
      rw [List.getElem?_append_left (by rw [GL.out]; omega)] at c1
      have f1 := GZ.out.frozen j
      rw [hzx] at c1
      have hx := HD.out.get B32_pos j
      obtain ⟨x, hxe⟩ : ∃ x, x = xs[j]?.getD 0 := ⟨_, rfl⟩
      rw [← hxe] at c1 hx
      have HXE := Lib.hid hxe
      have HXB := Lib.hid hx
      rw [B32_eq] at hx
      clear hxe hzx
      have b1 : (0 : Int) ≤ (j : Int) := by omega
      have b2 : (j : Int) < (la : Int) := by omega
      go_wp2
      refine ⟨?_, by simp [intOf]⟩
      have hor := or_shift' x r 32 4294967296 (by omega) (by decide) (by omega) (by omega)
      have hor2 : bits BinOp.or IntKind.u64 ((r : Int) * 4294967296) (x : Int) = ((r * 4294967296 + x : Nat) : Int) := hor
      rw [hor2]
      have hN : r * 4294967296 + x < d * 4294967296 := by
        have : (r + 1) * 4294967296 ≤ d * 4294967296 := Nat.mul_le_mul_right _ hr
        omega
      have hq : (r * 4294967296 + x) / d < 4294967296 := Nat.div_lt_of_lt_mul hN
      refine shrink_rel GZ.out GL.out GD.out (by omega) hd0 (by rw [B32_eq]; exact hdB) hr HX.out HXE.out HXB.out GV.out GT.out GW.out GH.out rfl rfl _ _ _ ?_ rfl ?_
      · rw [B32_eq]; exact (Int.ofNat_tmod _ _).symm
      · have e : ((r * 4294967296 + x : Nat) : Int).tdiv (d : Int) = (((r * 4294967296 + x) / d : Nat) : Int) := (Int.ofNat_tdiv _ _).symm
        rw [e, B32_eq]
        generalize (r * 4294967296 + x) / d = q at *
        rw [IntWalk.u64_in (q : Int) ⟨by omega, by omega⟩]
        omega
end Go.Proofs.Ytcgnmihabkgecaa

/- scale, powerOfTen. -/
set_option linter.unusedVariables false
namespace Go.Proofs.Ytcgnmihabkgecaa
open Go.RowKit

/-- The slice (v, n) starts at the head of a block of the call's own (from block base on) whose first cells are the numbers xs; it may be written and appended to. -/
def Own (k : IntKind) (w : World) (base e : Nat) (v : Value) (n : Nat) (xs : List Nat) : Prop := w.ownsRow base e 1 v n ((xs.map fun z => Value.int k ((z : Nat) : Int))) 

theorem Own.len {k : IntKind} {w : World} {base e n : Nat} {v : Value} {xs : List Nat} (h : Own k w base e v n xs) : xs.length = n := by
  have := h.1
  simpa using this

/-- It is a nil slice, or a slice whose block is known. -/
theorem Own.cases {k : IntKind} {w : World} {base e n : Nat} {v : Value} {xs : List Nat} (h : Own k w base e v n xs) :
    (v = .slice none 0 0 ∧ n = 0 ∧ xs = []) ∨ ∃ g cap, v = .slice (some ⟨g, 0, none⟩) n cap ∧ base ≤ g ∧ g < w.heap.size ∧ n ≤ cap ∧ cap ≤ maxLen ∧ ∀ i, i < n → w.cell? ⟨g, i, none⟩ = some (.int k ((xs[i]?.getD 0 : Nat) : Int)) ∧ w.frozen? ⟨g, i, none⟩ = false := by
  have hl := h.len
  rcases h.2 with ⟨rfl, rfl⟩ | ⟨g, cap, cur, rfl, hb, hg, hnc, hcm, hcs, htake⟩
  · exact .inl ⟨rfl, rfl, List.eq_nil_of_length_eq_zero hl⟩
  · refine .inr ⟨g, cap, rfl, hb, (Array.getElem?_eq_some_iff.1 hg).1, hnc, hcm, fun i hi => ⟨?_, ?_⟩⟩
    · have := h.cellAt i (by omega)
      rw [this]
      simp [List.getElem?_eq_getElem (show i < xs.length by omega)]
    · exact h.frozenAt i

theorem Own.sl {k : IntKind} {w : World} {base e n : Nat} {v : Value} {xs : List Nat} (h : Own k w base e v n xs) : ∃ ao cap, v = .slice ao n cap ∧ n ≤ cap ∧ cap ≤ maxLen ∧ Sl k w ao n xs := by
  have hl := h.len
  rcases h.cases with ⟨rfl, rfl, rfl⟩ | ⟨g, cap, rfl, _, _, h1, h2, h3⟩
  · exact ⟨none, 0, rfl, Nat.le_refl _, Nat.zero_le _, Sl.nil _ _ _⟩
  · exact ⟨_, cap, rfl, h1, h2, hl, g, 0, fun _ => rfl, fun i hi => by rw [Nat.zero_add]; exact (h3 i hi).1⟩

theorem Own.nil (k : IntKind) (w : World) (base e : Nat) : Own k w base e (.slice none 0 0) 0 [] := World.ownsRow_nil _ _ _ _

theorem Own.kept {k : IntKind} {w w' : World} {base e n : Nat} {v : Value} {xs : List Nat} (h : Own k w base e v n xs) {row : Option Nat} (hg : w.grownBy w' row) (hne : v.ownBlock = none ∨ v.ownBlock ≠ row) : Own k w' base e v n xs :=
  World.ownsRow.kept h hg hne

theorem Own.stored {k : IntKind} {w : World} {base e g n cap : Nat} {xs : List Nat} (h : Own k w base e (.slice (some ⟨g, 0, none⟩) n cap) n xs) (i x : Nat) (hi : i < n) (V : Int) (hV : V = (x : Int)) :
    Own k (w.setCell ⟨g, i, none⟩ (.int k V)) base e (.slice (some ⟨g, 0, none⟩) n cap) n (xs.set i x) := by
  subst hV
  have := (World.ownsRow.stored h i (.int k (x : Int))).1
  unfold Own
  rw [List.map_set]
  exact this

theorem Own.storedBy {k : IntKind} {w : World} {base e g n cap : Nat} {xs : List Nat} (h : Own k w base e (.slice (some ⟨g, 0, none⟩) n cap) n xs) (i : Nat) (u : Value) : w.grownBy (w.setCell ⟨g, i, none⟩ u) (some g) :=
  (World.ownsRow.stored h i u).2

theorem Own.ge {k : IntKind} {w : World} {base e n : Nat} {v : Value} {xs : List Nat} (h : Own k w base e v n xs) : ∀ b, v.ownBlock = some b → base ≤ b := fun b hb => (World.ownsRow.lt h b hb).1

/-- 'append(s, x)' of one element, s the call's own -/
theorem wpList_app {P : Program} {w : World} {ops : Array Oper} {rest : List Oper} {o : Oper} {a : Act} {Q : Exit → Act → World → Prop} (hgd : o.guard = none) (s x : Operand) (t : TypeId)
    (ho : o.op = .call { callee := .builtin .append, args := #[s, x], argTypes := #[t, t] }) (base e : Nat) (k : IntKind) (bytes : Nat)
    (h1 : P.underlying t = some (.slice e)) (h2 : (P.info? e).map (fun i => (i.zero, i.size, i.bytes)) = some (some (.int k 0), 1, bytes))
    (v : Value) (n : Nat) (xs : List Nat) (hs : a.eval s = v) (hown : Own k w base e v n xs) (V : Int) (xx : Nat) (hx : a.eval x = .slice (some ⟨w.heap.size, 0, none⟩) 1 1) (hV : V = (xx : Int))
    (hn : n ≤ 9000000000000) (hby : bytes ≤ 8) (hbase : base ≤ w.heap.size)
    (h : ∀ v' w', Own k w' base e v' (n + 1) (xs ++ [xx]) → Below base w w' → wpList P ops Q rest (a.put o.dst v') w') :
    wpList P ops Q (o :: rest) a (w.alloc (.cells #[.int k V] e)) := by
  subst hV
  obtain ⟨i0, hi, hz0, hz1, hz2⟩ := info_parts h2
  have hown' : (w.alloc (.cells #[.int k (xx : Int)] e)).ownsRow base e 1 v n (xs.map fun z => Value.int k ((z : Nat) : Int)) := World.ownsRow.alloc hown _
  have hsz : (1 : Nat) ≤ bytes ∨ bytes = 0 := by omega
  have hb : (n + 1) * bytes ≤ 140737488355328 := by
    have : (n + 1) * bytes ≤ (n + 1) * 8 := Nat.mul_le_mul_left _ hby
    omega
  refine wpList_append_own _ hgd s x t ho base e i0 (.int k 0) 1 bytes h1 hi hz0 hz1 hz2 rfl (by decide) v n _ hs hown' ⟨w.heap.size, 0, none⟩ 1 1 [.int k (xx : Int)] hx rfl ?_ ?_ (by unfold maxLen; omega) hb (by simp; omega) ?_
  · intro j u hj
    match j, hj with
    | 0, hj => simp at hj; subst hj; simp [Addr.add]
  · intro u hu; simp at hu; subst hu; rfl
  · intro v' w' hr hg _
    refine h v' w' ?_ ?_
    · unfold Own
      rw [List.map_append]
      exact hr
    · exact ((Below.refl base w).alloc hbase _).grown hg (by simp; omega) hown.ge

/-- the same, with what it writes -/
theorem wpList_app2 {P : Program} {w : World} {ops : Array Oper} {rest : List Oper} {o : Oper} {a : Act} {Q : Exit → Act → World → Prop} (hgd : o.guard = none) (s x : Operand) (t : TypeId)
    (ho : o.op = .call { callee := .builtin .append, args := #[s, x], argTypes := #[t, t] }) (base e : Nat) (k : IntKind) (bytes : Nat)
    (h1 : P.underlying t = some (.slice e)) (h2 : (P.info? e).map (fun i => (i.zero, i.size, i.bytes)) = some (some (.int k 0), 1, bytes))
    (v : Value) (n : Nat) (xs : List Nat) (hs : a.eval s = v) (hown : Own k w base e v n xs) (V : Int) (xx : Nat) (hx : a.eval x = .slice (some ⟨w.heap.size, 0, none⟩) 1 1) (hV : V = (xx : Int))
    (hn : n ≤ 9000000000000) (hby : bytes ≤ 8) (hbase : base ≤ w.heap.size)
    (h : ∀ v' w', Own k w' base e v' (n + 1) (xs ++ [xx]) → Below base w w' → (w.alloc (.cells #[.int k V] e)).grownBy w' v.ownBlock → wpList P ops Q rest (a.put o.dst v') w') :
    wpList P ops Q (o :: rest) a (w.alloc (.cells #[.int k V] e)) := by
  subst hV
  obtain ⟨i0, hi, hz0, hz1, hz2⟩ := info_parts h2
  have hown' : (w.alloc (.cells #[.int k (xx : Int)] e)).ownsRow base e 1 v n (xs.map fun z => Value.int k ((z : Nat) : Int)) := World.ownsRow.alloc hown _
  have hsz : (1 : Nat) ≤ bytes ∨ bytes = 0 := by omega
  have hb : (n + 1) * bytes ≤ 140737488355328 := by
    have : (n + 1) * bytes ≤ (n + 1) * 8 := Nat.mul_le_mul_left _ hby
    omega
  refine wpList_append_own _ hgd s x t ho base e i0 (.int k 0) 1 bytes h1 hi hz0 hz1 hz2 rfl (by decide) v n _ hs hown' ⟨w.heap.size, 0, none⟩ 1 1 [.int k (xx : Int)] hx rfl ?_ ?_ (by unfold maxLen; omega) hb (by simp; omega) ?_
  · intro j u hj
    match j, hj with
    | 0, hj => simp at hj; subst hj; simp [Addr.add]
  · intro u hu; simp at hu; subst hu; rfl
  · intro v' w' hr hg _
    refine h v' w' ?_ ?_ hg
    · unfold Own
      rw [List.map_append]
      exact hr
    · exact ((Below.refl base w).alloc hbase _).grown hg (by simp; omega) hown.ge

theorem Sl.grown {k : IntKind} {w w' : World} {ao : Option Addr} {len : Nat} {xs : List Nat} {row : Option Nat} (h : Sl k w ao len xs) (hg : w.grownBy w' row) (hne : ∀ b, 0 < len → ao = some b → some b.block ≠ row) : Sl k w' ao len xs := by
  obtain ⟨h1, b, off, h2, h3⟩ := h
  exact ⟨h1, b, off, h2, fun i hi => hg.cell (h3 i hi) (hne ⟨b, off, none⟩ (by omega) (h2 (by omega)))⟩

theorem top_of_ge {B : Nat} (hB : 0 < B) {xs : List Nat} (hd : Dig B xs) (h : xs ≠ [] → B ^ (xs.length - 1) ≤ val B xs) : Top xs := by
  intro hne h0
  have h1 := h hne
  have ⟨d, hdl⟩ : ∃ d, xs = xs.dropLast ++ [d] := ⟨xs.getLast hne, (List.dropLast_concat_getLast hne).symm⟩
  have hd0 : d = 0 := by rw [hdl] at h0; simpa using h0
  have h2 := val_lt hB (xs := xs.dropLast) (fun x hx => hd x (List.dropLast_subset _ hx))
  rw [List.length_dropLast] at h2
  rw [hdl, val_snoc, hd0] at h1
  simp only [Nat.mul_zero, Nat.add_zero, List.length_append, List.length_dropLast, List.length_cons, List.length_nil, Nat.zero_add, Nat.add_sub_cancel] at h1
  omega

theorem scale_step {B : Nat} {zs xs : List Nat} {i c f va : Nat} (h : val B (zs.take i) + c * B ^ i = f * val B (xs.take i) + va) (hi : i < zs.length) :
    val B ((zs.set i ((c + xs[i]?.getD 0 * f) % B)).take (i + 1)) + (c + xs[i]?.getD 0 * f) / B * B ^ (i + 1) = f * val B (xs.take (i + 1)) + va := by
  have h2 := Nat.mod_add_div (c + xs[i]?.getD 0 * f) B
  rw [val_take_succ, val_take_succ, List.take_set_of_le (Nat.le_refl _), List.getElem?_set_self hi]
  simp only [Option.getD_some]
  generalize (c + xs[i]?.getD 0 * f) % B = d at *
  generalize (c + xs[i]?.getD 0 * f) / B = c' at *
  generalize xs[i]?.getD 0 = x at *
  rw [Nat.pow_succ]
  generalize B ^ i = p at *
  grind

def ScaleRel (base e g n cap f ex : Nat) (xs : List Nat) (W : World) (cv iv : Value) (wr : World) : Prop :=
  ∃ (c i : Nat) (zs : List Nat), cv = .int .u64 (c : Int) ∧ iv = .int .i64 (i : Int) ∧ Own .u32 wr base e (.slice (some ⟨g, 0, none⟩) n cap) n zs ∧ Dig B32 zs ∧ i ≤ n ∧ c < 4294967296 ∧
    val B32 (zs.take i) + c * B32 ^ i = f * val B32 (xs.take i) + ex ∧ zs.drop i = xs.drop i ∧ Below base W wr

def ScalePost (base e n v : Nat) (W : World) (en : Ending) (w' : World) : Prop :=
  ∃ v' n' xs', en = .returned v' ∧ Own .u32 w' base e v' n' xs' ∧ Dig B32 xs' ∧ n' ≤ n + 1 ∧ val B32 xs' = v ∧ Top xs' ∧ Below base W w'

theorem scale_rel {base e g n cap f ex i c x : Nat} {xs zs : List Nat} {W wr : World} (hB : Own .u32 wr base e (.slice (some ⟨g, 0, none⟩) n cap) n zs) (hd : Dig B32 zs) (hi : i < n) (hc : c < 4294967296) (hf : f < 4294967296)
    (hx : x = xs[i]?.getD 0) (hxb : x < 4294967296) (hv : val B32 (zs.take i) + c * B32 ^ i = f * val B32 (xs.take i) + ex) (ht : zs.drop i = xs.drop i) (hb : Below base W wr) (hbg : base ≤ g) (hxl : xs.length = n)
    (t : Nat) (htt : t = x * f) :
    ScaleRel base e g n cap f ex xs W (.int .u64 (((c : Int) + (t : Int)) / 4294967296)) (.int .i64 ((i : Int) + 1)) (wr.setCell ⟨g, i, none⟩ (.int .u32 (((c : Int) + (t : Int)) % 4294967296))) := by
  have hl := hB.len
  have hs := scale_step (B := B32) (zs := zs) (xs := xs) (f := f) hv (by omega)
  rw [← hx, ← htt] at hs
  have hbound : c + t < 18446744073709551616 := by
    have : x * f ≤ 4294967295 * 4294967295 := Nat.mul_le_mul (by omega) (by omega)
    omega
  refine ⟨(c + t) / B32, i + 1, zs.set i ((c + t) % B32), congrArg (Value.int _) (by rw [B32_eq]; omega), by go_num, hB.stored _ _ hi _ (by rw [B32_eq]; omega), hd.set _ (Nat.mod_lt _ B32_pos), by omega, by rw [B32_eq]; omega, hs, ?_, hb.setCell hbg _⟩
  rw [List.drop_set_of_lt (by omega)]
  have := congrArg List.tail ht
  rwa [List.tail_drop, List.tail_drop] at this

theorem scale_top {xs zs : List Nat} {f ex n : Nat} (hf : 0 < f) (ht : Top xs) (hl : xs.length = n) (hzl : zs.length = n) (hd : Dig B32 zs) (hv : val B32 zs = f * val B32 xs + ex) : Top zs := by
  refine top_of_ge B32_pos hd (fun hne => ?_)
  have h1 := val_ge (B := B32) ht (by intro e; rw [e] at hl; simp at hl; rw [← hl] at hzl; exact hne (List.eq_nil_of_length_eq_zero hzl))
  rw [hzl, hv]
  rw [hl] at h1
  have := Nat.mul_le_mul_right (val B32 xs) hf
  omega

set_option maxHeartbeats 1000000 in
theorem scale_own (base g n cap : Nat) (xs : List Nat) (F E : Int) (f ex : Nat) (W : World) (hown : Own .u32 W base 61 (.slice (some ⟨g, 0, none⟩) n cap) n xs) (hd : Dig B32 xs) (ht : Top xs) (hF : F = (f : Int)) (hE : E = (ex : Int))
    (hf0 : 0 < f) (hf : f < 4294967296) (hex : ex < 4294967296) (hn : n ≤ 1000000000) (hbase : base ≤ W.heap.size) :
    Calls Try.prog 61 #[.slice (some ⟨g, 0, none⟩) n cap, .int .u32 F, .int .u32 E] W (ScalePost base 61 n (f * val B32 xs + ex) W) := by
  subst hF hE
  have hxl := hown.len
  have hgb : base ≤ g := hown.ge g rfl
  have HB := Lib.hid hown
  have HD := Lib.hid hd
  have HT := Lib.hid ht
  have HX := Lib.hid hxl
  clear hown hd ht hxl
  go_enter Try.func61, Try.ntmps61
  go_wp2
  go_loopw [7, 14] (fun cv iv wr => ScaleRel base 61 g n cap f ex xs W cv iv wr) (fun cv iv _ => n - (intOf iv).toNat)
  case atStart =>
    exact ⟨ex, 0, xs, rfl, rfl, HB.out, HD.out, Nat.zero_le _, hex, by simp [val], rfl, Below.refl _ _⟩
  case round =>
    obtain ⟨c, i, zs, rfl, rfl, hB, hdz, hi, hc, hv, ht, hbel⟩ := hrel
    have GZ := Lib.hid hB
    have GD := Lib.hid hdz
    have GV := Lib.hid hv
    have GT := Lib.hid ht
    have GW := Lib.hid hbel
    clear hB hdz hv ht hbel
    by_cases hil : i < n
    · have hcell : wr.cell? ⟨g, i, none⟩ = some (.int .u32 ((zs[i]?.getD 0 : Nat) : Int)) ∧ wr.frozen? ⟨g, i, none⟩ = false := by
        rcases GZ.out.cases with ⟨h, _⟩ | ⟨g', cap', h, _, _, _, _, h3⟩
        · cases h
        · cases h; exact h3 i hil
      obtain ⟨c1, f1⟩ := hcell
      have hzx : zs[i]?.getD 0 = xs[i]?.getD 0 := by
        have := congrArg (fun l => l[0]?.getD 0) GT.out
        simpa using this
      rw [hzx] at c1
      have hx := HD.out.get B32_pos i
      obtain ⟨x, hxe⟩ : ∃ x, x = xs[i]?.getD 0 := ⟨_, rfl⟩
      rw [← hxe] at c1 hx
      rw [B32_eq] at hx
      have HXE := Lib.hid hxe
      clear hxe hzx
      have b2 : (i : Int) < (n : Int) := by omega
      have hm0 : (0 : Int) ≤ (x : Int) * (f : Int) := Int.mul_nonneg (by omega) (by omega)
      have hm1 : (x : Int) * (f : Int) ≤ 18446744065119617025 := by
        have h1 : x * f ≤ 4294967295 * 4294967295 := Nat.mul_le_mul (by omega) (by omega)
        have h2 : ((x * f : Nat) : Int) ≤ ((4294967295 * 4294967295 : Nat) : Int) := Int.ofNat_le.2 h1
        rw [Int.natCast_mul] at h2
        exact h2
      obtain ⟨t, ht⟩ : ∃ t : Nat, t = x * f := ⟨_, rfl⟩
      have ht2 : (x : Int) * (f : Int) = (t : Int) := by rw [ht, Int.natCast_mul]
      have HT3 := Lib.hid ht
      have HT2 := Lib.hid ht2
      clear ht ht2
      go_wp2
      rw [HT2.out]
      exact ⟨scale_rel GZ.out GD.out hil hc hf HXE.out hx GV.out GT.out GW.out hgb HX.out t HT3.out, by simp [intOf]; omega⟩
    · obtain rfl : i = n := by omega
      have hzl := GZ.out.len
      have hval : val B32 zs + c * B32 ^ i = f * val B32 xs + ex := by
        have := GV.out
        rwa [List.take_of_length_le (l := zs) (by omega), List.take_of_length_le (l := xs) (by have := HX.out; omega)] at this
      have HVV := Lib.hid hval
      have HZL := Lib.hid hzl
      have hbw := Lib.hid (Nat.le_trans hbase GW.out.size)
      clear hval hzl
      by_cases hc0 : c = 0
      · subst hc0
        go_wp2
        go_ret
        have hvv : val B32 zs = f * val B32 xs + ex := by have := HVV.out; omega
        exact ⟨_, i, zs, rfl, GZ.out, GD.out, by omega, hvv, scale_top hf0 HT.out HX.out HZL.out GD.out hvv, GW.out⟩
      · have hc1 : (0 : Int) < (c : Int) := by omega
        go_wp2_with (at_builtin; refine wpList_app rfl _ _ 25 rfl base 61 .u32 4 Try.underlying25 (by kernel_rfl) _ i zs rfl GZ.out _ c rfl rfl (by omega) (by omega) hbw.out ?_; intro v' w2 hown' hbel')
        go_ret
        refine ⟨v', i + 1, zs ++ [c], rfl, hown', GD.out.append (Dig.cons (by rw [B32_eq]; exact hc) (Dig.nil _)), Nat.le_refl _, ?_, ?_, GW.out.trans hbel'⟩
        · rw [val_snoc, HZL.out, Nat.mul_comm]
          exact HVV.out
        · intro _
          simpa using hc0


end Go.Proofs.Ytcgnmihabkgecaa
