/- The specification's cmp and sub. -/
import Derived.Test.YtdnnjjclklcihaaRefC
set_option linter.unusedVariables false
namespace Go.Proofs.Ytdnnjjclklcihaa
open Go.RowKit

set_option maxHeartbeats 1000000 in
theorem cmp16_any (ao bo : Option Addr) (la lb ca cb : Nat) (m n : Nat) (w : World) (ha : N16 w ao la m) (hb : N16 w bo lb n) (hla : la ≤ 1000000000) (hlb : lb ≤ 1000000000) :
    Calls Try.prog 83 #[.slice ao la ca, .slice bo lb cb] w (CmpPost m n w) := by
  obtain ⟨xs, ⟨hx, b, off, h0, hc⟩, hd, ht, hv⟩ := ha
  obtain ⟨ys, ⟨hy, b', off', h0', hc'⟩, hd', ht', hv'⟩ := hb
  by_cases hl : la = lb
  · subst hl
    have Hx := Lib.hid hx
    have Hy := Lib.hid hy
    have Hv := Lib.hid hv
    have Hv' := Lib.hid hv'
    have Hd := Lib.hid hd
    have Hd' := Lib.hid hd'
    have H0 := Lib.hid h0
    have H0' := Lib.hid h0'
    have HC := Lib.hid hc
    have HC' := Lib.hid hc'
    clear hx hy hv hv' hd hd' ht ht' h0 h0' hc hc'
    go_enter Try.func83, Try.ntmps83
    go_wp2
    go_loopw [5] (fun t wr => ∃ i : Nat, i ≤ la ∧ t = .int .i64 ((i : Int) - 1) ∧ xs.drop i = ys.drop i ∧ Drew w wr) (fun t _ => (intOf t + 1).toNat)
    case atStart => exact ⟨la, Nat.le_refl _, rfl, by rw [List.drop_of_length_le (by have := Hx.out; omega), List.drop_of_length_le (by have := Hy.out; omega)], Drew.refl _⟩
    case round =>
      obtain ⟨i, hi, rfl, hdr, hw⟩ := hrel
      have HD := Lib.hid hdr
      have HW := Lib.hid hw
      clear hdr hw
      by_cases hi0 : i = 0
      · subst hi0
        go_wp2
        go_ret
        refine ⟨ret_int ?_, HW.out⟩
        rw [cmpN_eq]
        have := HD.out
        simp at this
        rw [← Hv.out, ← Hv'.out, this]
      · obtain ⟨j, rfl⟩ : ∃ j, i = j + 1 := ⟨i - 1, by omega⟩
        have hlen : 0 < la := by omega
        obtain rfl := H0.out hlen
        obtain rfl := H0'.out hlen
        have e1 : (((j + 1 : Nat) : Int) - 1) = (j : Int) := by omega
        rw [e1]
        clear e1
        have c1 := (HW.out.cell ⟨b, off + j, none⟩).trans (HC.out j (by omega))
        have c2 := (HW.out.cell ⟨b', off' + j, none⟩).trans (HC'.out j (by omega))
        have b1 : (0 : Int) ≤ (j : Int) := by omega
        have b2 : (j : Int) < (la : Int) := by omega
        obtain ⟨x, hxe⟩ : ∃ x, x = xs[j]?.getD 0 := ⟨_, rfl⟩
        obtain ⟨y, hye⟩ : ∃ x, x = ys[j]?.getD 0 := ⟨_, rfl⟩
        rw [← hxe] at c1
        rw [← hye] at c2
        have Ex := Lib.hid hxe
        have Ey := Lib.hid hye
        clear hxe hye
        have hjx : j < xs.length := by have := Hx.out; omega
        have hxy : xs.length = ys.length := by rw [Hx.out, Hy.out]
        have HXY := Lib.hid hxy
        have HJX := Lib.hid hjx
        clear hjx hxy
        rcases Nat.lt_trichotomy x y with hlt | heq | hgt
        · have t1 : (x : Int) < (y : Int) := by omega
          go_wp2
          go_quiet (fail)
          go_wp2
          go_ret
          refine ⟨ret_int ?_, HW.out.more _⟩
          have hlt2 := hlt
          rw [Ex.out, Ey.out] at hlt2
          have := val_lt_of_part B16_pos HXY.out Hd.out HJX.out HD.out hlt2
          rw [Hv.out, Hv'.out] at this
          rw [cmpN_lt this]
        · subst heq
          go_wp2
          go_quiet (fail)
          go_wp2
          go_quiet (fail)
          go_wp2
          go_roundw
          case rel => exact ⟨j, by omega, rfl, eq_of_drop HXY.out j HJX.out HD.out (by rw [← Ex.out, ← Ey.out]), by first | exact HW.out.more _ | exact (HW.out.more _).more _⟩
          case measure => simp [intOf]
        · have t1 : (y : Int) < (x : Int) := by omega
          have t2 : ¬ (x : Int) < (y : Int) := by omega
          go_wp2
          go_quiet (fail)
          go_wp2
          go_quiet (fail)
          go_wp2
          go_ret
          refine ⟨ret_int ?_, by first | exact HW.out.more _ | exact (HW.out.more _).more _⟩
          have hlt2 := hgt
          rw [Ex.out, Ey.out] at hlt2
          have := val_lt_of_part B16_pos HXY.out.symm Hd'.out (HXY.out ▸ HJX.out) HD.out.symm hlt2
          rw [Hv.out, Hv'.out] at this
          rw [cmpN_gt this]
  · rcases Nat.lt_or_gt_of_ne hl with hlt | hgt
    · have t1 : (la : Int) < (lb : Int) := by omega
      have hvv := val_lt_of_len B16_pos hd ht' (by omega)
      rw [hv, hv'] at hvv
      have HV := Lib.hid hvv
      clear hx hy hv hv' hd hd' ht ht' h0 h0' hc hc' hvv
      go_enter Try.func83, Try.ntmps83
      go_wp2
      go_ret
      exact ⟨ret_int (cmpN_lt HV.out).symm, Drew.refl _⟩
    · have t1 : ¬ (la : Int) < (lb : Int) := by omega
      have t2 : (lb : Int) < (la : Int) := by omega
      have hvv := val_lt_of_len B16_pos hd' ht (by omega)
      rw [hv, hv'] at hvv
      have HV := Lib.hid hvv
      clear hx hy hv hv' hd hd' ht ht' h0 h0' hc hc' hvv
      go_enter Try.func83, Try.ntmps83
      go_wp2
      go_ret
      exact ⟨ret_int (cmpN_gt HV.out).symm, Drew.refl _⟩

/-- at inside a region that draws its order -/
theorem at_quiet (ao : Option Addr) (len cap : Nat) (xs : List Nat) (I : Int) (i y n : Nat) (w : World) (hs : Sl .i64 w ao len xs) (hI : I = (i : Int)) (hy : y = xs[i]?.getD 0) :
    Calls Try.prog 100 #[.slice ao len cap, .int .i64 I] (w.drewN n) fun e w'' => e = .returned (.int .i64 (y : Int)) ∧ ∃ m, w'' = w.drewN m :=
  (at_any ao len cap xs I i (w.drewN n) (hs.drewN n) hI).mono fun e w' ⟨h1, h2⟩ => ⟨by rw [h1, hy], n, h2.symm⟩

/-- the loop of sub -/
def Sub16Rel (la : Nat) (xa xb : List Nat) (W : World) (ov cv iv : Value) (wr : World) : Prop :=
  ∃ (c i : Nat) (zs : List Nat), cv = .int .i64 (c : Int) ∧ iv = .int .i64 (i : Int) ∧ Own .i64 wr W.heap.size 3 ov i zs ∧ Dig B16 zs ∧ c ≤ 1 ∧ i ≤ la ∧
    val B16 zs + val B16 (xb.take i) = val B16 (xa.take i) + c * B16 ^ i ∧ Below W.heap.size W wr

theorem sub16_rel {la i c d x y : Nat} {xa xb zs : List Nat} {W wr w2 : World} {v' : Value} (c' : Nat) (hlz : zs.length = i) (hd : Dig B16 zs) (hi : i < la) (hx : x = xa[i]?.getD 0) (hy : y = xb[i]?.getD 0) (hdb : d < B16) (hc' : c' ≤ 1)
    (he : d + y + c = x + c' * B16)
    (hv : val B16 zs + val B16 (xb.take i) = val B16 (xa.take i) + c * B16 ^ i) (hb : Below W.heap.size W wr) (ho : Own .i64 w2 W.heap.size 3 v' (i + 1) (zs ++ [d])) (hb2 : Below W.heap.size wr w2)
    (C I : Int) (hC : C = (c' : Int)) (hI : I = (i : Int) + 1) : Sub16Rel la xa xb W v' (.int .i64 C) (.int .i64 I) w2 := by
  refine ⟨c', i + 1, zs ++ [d], by rw [hC], by rw [hI]; rfl, ho, hd.append (Dig.cons hdb (Dig.nil _)), hc', by omega, ?_, hb.trans hb2⟩
  rw [val_snoc, hlz, val_take_succ, val_take_succ, ← hx, ← hy, Nat.pow_succ]
  generalize B16 ^ i = p at *
  generalize B16 = B at *
  grind

theorem sub16_end {la m n c : Nat} {xa xb zs : List Nat} (hla : xa.length = la) (hlz : zs.length = la) (hd : Dig B16 zs) (hdb : Dig B16 xb) (htb : Top xb) (hda : Dig B16 xa) (ha : val B16 xa = m) (hb : val B16 xb = n) (hnm : n ≤ m)
    (hv : val B16 zs + val B16 (xb.take la) = val B16 (xa.take la) + c * B16 ^ la) : val B16 zs = m - n := by
  have h1 := val_lt B16_pos hda
  rw [hla, ha] at h1
  have h2 : xb.length ≤ la := len_le_of_lt B16_gt htb (by rw [hb]; omega)
  rw [List.take_of_length_le h2, List.take_of_length_le (by omega), ha, hb] at hv
  have h3 := val_lt B16_pos hd
  rw [hlz] at h3
  rcases Nat.eq_zero_or_pos c with h | h
  · subst h; omega
  · have : 1 * B16 ^ la ≤ c * B16 ^ la := Nat.mul_le_mul_right _ h
    omega

set_option maxHeartbeats 1000000 in
theorem sub16_any (ao bo : Option Addr) (la lb ca cb : Nat) (m n : Nat) (W : World) (ha : N16 W ao la m) (hb : N16 W bo lb n) (hla : la ≤ 1000000000) (hnm : n ≤ m) :
    Calls Try.prog 77 #[.slice ao la ca, .slice bo lb cb] W (Out16 W (m - n)) := by
  obtain ⟨xa, ha, hda, hta, hva⟩ := ha
  obtain ⟨xb, hb, hdb, htb, hvb⟩ := hb
  have HA := Lib.hid ha
  have HB := Lib.hid hb
  have HDA := Lib.hid hda
  have HDB := Lib.hid hdb
  have HTB := Lib.hid htb
  have HVA := Lib.hid hva
  have HVB := Lib.hid hvb
  have HNM := Lib.hid hnm
  clear ha hb hda hdb hta htb hva hvb hnm
  go_enter Try.func77, Try.ntmps77
  go_wp2
  go_loopw [5, 6, 7] (fun ov cv iv wr => Sub16Rel la xa xb W ov cv iv wr) (fun ov cv iv _ => la - (intOf iv).toNat)
  case atStart => exact ⟨0, 0, [], rfl, rfl, Own.nil _ _ _ _, Dig.nil _, by omega, by omega, by simp [val], Below.refl _ _⟩
  case round =>
    obtain ⟨c, i, zs, rfl, rfl, hown, hd, hc, hi, hv, hbel⟩ := hrel
    have GO := Lib.hid hown
    have GD := Lib.hid hd
    have GV := Lib.hid hv
    have GW := Lib.hid hbel
    clear hown hd hv hbel
    by_cases hil : i = la
    · subst hil
      obtain ⟨oo, cap, rfl, hlc, hcm, hsl⟩ := GO.out.sl
      have HS := Lib.hid hsl
      clear hsl
      go_wp2_with fail
      refine (trim16_raw _ _ _ zs _ HS.out hlc hcm).mono ?_
      rintro e w1 ⟨⟨ao', k, rfl, hk, ha', ht, hz⟩, rfl⟩
      have HT := Lib.hid ht
      have HZ := Lib.hid hz
      have HAA := Lib.hid ha'
      clear ht hz ha'
      go_wp2
      go_ret
      exact ⟨ao', k, cap, rfl, by omega, hcm, ⟨zs.take k, trim_sl HS.out hk HAA.out, GD.out.take _, HT.out, by rw [val_take_of_zeros HZ.out]; exact sub16_end HA.out.len GO.out.len GD.out HDB.out HTB.out HDA.out HVA.out HVB.out HNM.out GV.out⟩, GW.out⟩
    · have t1 : (i : Int) < (la : Int) := by omega
      have t0 : (0 : Int) ≤ (i : Int) := by omega
      have hx := HDA.out.get B16_pos i
      have hy := HDB.out.get B16_pos i
      obtain ⟨x, hxe⟩ : ∃ x, x = xa[i]?.getD 0 := ⟨_, rfl⟩
      obtain ⟨y, hye⟩ : ∃ x, x = xb[i]?.getD 0 := ⟨_, rfl⟩
      rw [← hxe] at hx
      rw [← hye] at hy
      rw [B16_eq] at hx hy
      obtain ⟨hxl, b, off, h0, hcc⟩ := HA.out.keep GW.out
      obtain rfl := h0 (by omega)
      have hci := hcc i (by omega)
      rw [← hxe] at hci
      have HX := Lib.hid hxe
      have HY := Lib.hid hye
      have HBr := Lib.hid (HB.out.keep GW.out)
      clear hxe hye hxl h0 hcc
      by_cases hlt : x < y + c
      · have t2 : (x : Int) - (y : Int) - (c : Int) < 0 := by omega
        go_wp2_with fail
        go_quiet ((go_at_call 100; exact at_quiet _ _ _ xb _ i y _ _ HBr.out rfl HY.out))
        go_wp2_with (at_builtin; refine wpList_app rfl _ _ 26 rfl W.heap.size 3 .i64 8 Try.underlying26 (by kernel_rfl) _ i zs rfl GO.out _ (x + 65536 - y - c) rfl (by omega) (by omega) (by omega) GW.out.size ?_; intro v' w2 hown' hbel')
        go_roundw
        case rel => exact sub16_rel 1 GO.out.len GD.out (by omega) HX.out HY.out (by rw [B16_eq]; omega) (by omega) (by rw [B16_eq]; omega) GV.out GW.out hown' ((below_drewN1 (Below.refl _ _) _).trans hbel') _ _ rfl rfl
        case measure => simp only [intOf]; omega
      · have t2 : ¬ (x : Int) - (y : Int) - (c : Int) < 0 := by omega
        go_wp2_with fail
        go_quiet ((go_at_call 100; exact at_quiet _ _ _ xb _ i y _ _ HBr.out rfl HY.out))
        go_wp2_with (at_builtin; refine wpList_app rfl _ _ 26 rfl W.heap.size 3 .i64 8 Try.underlying26 (by kernel_rfl) _ i zs rfl GO.out _ (x - y - c) rfl (by omega) (by omega) (by omega) GW.out.size ?_; intro v' w2 hown' hbel')
        go_roundw
        case rel => exact sub16_rel 0 GO.out.len GD.out (by omega) HX.out HY.out (by rw [B16_eq]; omega) (by omega) (by rw [B16_eq]; omega) GV.out GW.out hown' ((below_drewN1 (Below.refl _ _) _).trans hbel') _ _ rfl rfl
        case measure => simp only [intOf]; omega
end Go.Proofs.Ytdnnjjclklcihaa
