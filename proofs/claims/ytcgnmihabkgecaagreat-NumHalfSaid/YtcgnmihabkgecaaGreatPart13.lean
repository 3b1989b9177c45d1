/- Part 13 of the contracts: RefW, RefY, Low, RefK, Same. -/
import Derived.Deep.RegionHeld3
import Derived.IntWalk
import Derived.StillTailTactics
import Derived.Deep.Cut
import Derived.Deep.CutRange
import Derived.Deep.CutBlock
import Derived.Test.YtcgnmihabkgecaaGreatPart12

/- The specification's divMod. -/
set_option linter.unusedVariables false
namespace Go.Proofs.YtcgnmihabkgecaaGreat
open Go.RowKit

/-- Out16, in new memory -/
def Out16N (w : World) (n : Nat) (e : Ending) (w' : World) : Prop := ∃ ao len cap, e = .returned (.slice ao len cap) ∧ len ≤ cap ∧ cap ≤ 9223372036854775807 ∧ N16 w' ao len n ∧ Below w.heap.size w w' ∧ (0 < len → ∃ g, ao = some ⟨g, 0, none⟩ ∧ w.heap.size ≤ g)

theorem Own.loc {k : IntKind} {w : World} {base e n : Nat} {v : Value} {xs : List Nat} (h : Own k w base e v n xs) : ∀ ao cap, v = .slice ao n cap → 0 < n → ∃ g, ao = some ⟨g, 0, none⟩ ∧ base ≤ g := by
  intro ao cap hv hn
  rcases h.cases with ⟨_, h0, _⟩ | ⟨g, cap', h1, h2, _⟩
  · omega
  · rw [hv] at h1
    cases h1
    exact ⟨g, rfl, h2⟩

theorem N16.setOther {w : World} {ao : Option Addr} {len n q i : Nat} {u : Value} (h : N16 w ao len n) (hl : 0 < len → ∃ g, ao = some ⟨g, 0, none⟩ ∧ g ≠ q) : N16 (w.setCell ⟨q, i, none⟩ u) ao len n := by
  obtain ⟨xs, ⟨hx, b, off, h0, hc⟩, h2⟩ := h
  refine ⟨xs, ⟨hx, b, off, h0, fun j hj => ?_⟩, h2⟩
  obtain ⟨g, hg, hne⟩ := hl (by omega)
  have h1 := h0 (by omega)
  rw [hg] at h1
  cases h1
  rw [← hc j hj]
  exact World.cell?_of_block (a := ⟨_, 0 + j, none⟩) (Below.heap_setCell _ _ _ _ hne)

set_option maxHeartbeats 1000000 in
theorem sub16_new (ao bo : Option Addr) (la lb ca cb : Nat) (m n : Nat) (W : World) (ha : N16 W ao la m) (hb : N16 W bo lb n) (hla : la ≤ 1000000000) (hnm : n ≤ m) :
    Calls Tryz.prog 113 #[.slice ao la ca, .slice bo lb cb] W (Out16N W (m - n)) := by
  obtain ⟨xa, ha, hda, hta, hva⟩ := ha
  obtain ⟨xb, hb, hdb, htb, hvb⟩ := hb
  have HA := Lib.hid ha
  have HB := Lib.hid hb
  have HDA := Lib.hid hda
  have HDB := Lib.hid hdb
  have HTB := Lib.hid htb
  have HVA := Lib.hid hva
  have HVB := Lib.hid hvb
  have HNM := Lib.hid hnm
  clear ha hb hda hdb hta htb hva hvb hnm
  go_enter Tryz.func113, Tryz.ntmps113
  go_wp2
  go_loopw [5, 6, 7] (fun ov cv iv wr => Sub16Rel la xa xb W ov cv iv wr) (fun ov cv iv _ => la - (intOf iv).toNat)
  case atStart => exact ⟨0, 0, [], rfl, rfl, Own.nil _ _ _ _, Dig.nil _, by omega, by omega, by simp [val], Below.refl _ _⟩
  case round =>
    obtain ⟨c, i, zs, rfl, rfl, hown, hd, hc, hi, hv, hbel⟩ := hrel
    have GO := Lib.hid hown
    have GD := Lib.hid hd
    have GV := Lib.hid hv
    have GW := Lib.hid hbel
    clear hown hd hv hbel
    by_cases hil : i = la
    · subst hil
      have hloc := GO.out.loc
      obtain ⟨oo, cap, rfl, hlc, hcm, hsl⟩ := GO.out.sl
      have HS := Lib.hid hsl
      have HLOC := Lib.hid (hloc oo cap rfl)
      clear hsl hloc
      go_wp2_with fail
      refine (trim16_raw _ _ _ zs _ HS.out hlc hcm).mono ?_
      rintro e w1 ⟨⟨ao', k, rfl, hk, ha', ht, hz⟩, rfl⟩
      have HT := Lib.hid ht
      have HZ := Lib.hid hz
      have HAA := Lib.hid ha'
      clear ht hz ha'
      go_wp2
      go_ret
      exact ⟨ao', k, cap, rfl, by omega, hcm, ⟨zs.take k, trim_sl HS.out hk HAA.out, GD.out.take _, HT.out, by rw [val_take_of_zeros HZ.out]; exact sub16_end HA.out.len GO.out.len GD.out HDB.out HTB.out HDA.out HVA.out HVB.out HNM.out GV.out⟩, GW.out, fun hk0 => by
        obtain ⟨g', hg1, hg2⟩ := HLOC.out (by omega)
        exact ⟨g', (HAA.out hk0).trans hg1, hg2⟩⟩
    · have t1 : (i : Int) < (la : Int) := by omega
      have t0 : (0 : Int) ≤ (i : Int) := by omega
      have hx := HDA.out.get B16_pos i
      have hy := HDB.out.get B16_pos i
      obtain ⟨x, hxe⟩ : ∃ x, x = xa[i]?.getD 0 := ⟨_, rfl⟩
      obtain ⟨y, hye⟩ : ∃ x, x = xb[i]?.getD 0 := ⟨_, rfl⟩
      rw [← hxe] at hx
      rw [← hye] at hy
      rw [B16_eq] at hx hy
      obtain ⟨hxl, b, off, h0, hcc⟩ := HA.out.keep GW.out
      obtain rfl := h0 (by omega)
      have hci := hcc i (by omega)
      rw [← hxe] at hci
      have HX := Lib.hid hxe
      have HY := Lib.hid hye
      have HBr := Lib.hid (HB.out.keep GW.out)
      clear hxe hye hxl h0 hcc
      by_cases hlt : x < y + c
      · have t2 : (x : Int) - (y : Int) - (c : Int) < 0 := by omega
        go_wp2_with fail
        go_quiet ((go_at_call 109; exact at_quiet _ _ _ xb _ i y _ _ HBr.out rfl HY.out))
        go_wp2_with (at_builtin; refine wpList_app rfl _ _ 31 rfl W.heap.size 3 .i64 8 Tryz.underlying31 (by kernel_rfl) _ i zs rfl GO.out _ (x + 65536 - y - c) rfl (by omega) (by omega) (by omega) GW.out.size ?_; intro v' w2 hown' hbel')
        go_roundw
        case rel => exact sub16_rel 1 GO.out.len GD.out (by omega) HX.out HY.out (by rw [B16_eq]; omega) (by omega) (by rw [B16_eq]; omega) GV.out GW.out hown' ((below_drewN1 (Below.refl _ _) _).trans hbel') _ _ rfl rfl
        case measure => simp only [intOf]; omega
      · have t2 : ¬ (x : Int) - (y : Int) - (c : Int) < 0 := by omega
        go_wp2_with fail
        go_quiet ((go_at_call 109; exact at_quiet _ _ _ xb _ i y _ _ HBr.out rfl HY.out))
        go_wp2_with (at_builtin; refine wpList_app rfl _ _ 31 rfl W.heap.size 3 .i64 8 Tryz.underlying31 (by kernel_rfl) _ i zs rfl GO.out _ (x - y - c) rfl (by omega) (by omega) (by omega) GW.out.size ?_; intro v' w2 hown' hbel')
        go_roundw
        case rel => exact sub16_rel 0 GO.out.len GD.out (by omega) HX.out HY.out (by rw [B16_eq]; omega) (by omega) (by rw [B16_eq]; omega) GV.out GW.out hown' ((below_drewN1 (Below.refl _ _) _).trans hbel') _ _ rfl rfl
        case measure => simp only [intOf]; omega

theorem dm_bit {A i : Nat} : A / 2 ^ i = 2 * (A / 2 ^ (i + 1)) + A / 2 ^ i % 2 := by
  rw [Nat.pow_succ, ← Nat.div_div_eq_div_mul]
  omega

theorem dm_digit {qs : List Nat} (hd : Dig B16 qs) (i Q : Nat) (h : val B16 qs = 2 ^ (i + 1) * Q) (hj : i / 16 < qs.length) : qs[i / 16]?.getD 0 + 2 ^ (i % 16) < 65536 := by
  have hx := hd.get B16_pos (i / 16)
  have e : i = 16 * (i / 16) + i % 16 := (Nat.div_add_mod i 16).symm
  have hlt : i % 16 < 16 := Nat.mod_lt _ (by decide)
  have h1 : val B16 qs / B16 ^ (i / 16) = qs[i / 16]?.getD 0 + B16 * val B16 (qs.drop (i / 16 + 1)) := by
    rw [val_split B16 qs (i / 16) (by omega), Nat.add_mul_div_left _ _ (Nat.pow_pos B16_pos), Nat.div_eq_of_lt, Nat.zero_add, drop_eq_cons qs _ hj, val_cons]
    have := val_lt B16_pos (hd.take (i / 16))
    rwa [List.length_take, Nat.min_eq_left (by omega)] at this
  have h2 : val B16 qs / B16 ^ (i / 16) = 2 ^ (i % 16 + 1) * Q := by
    rw [h, B16_pow]
    conv => lhs; rw [show i + 1 = 16 * (i / 16) + (i % 16 + 1) by omega]
    rw [Nat.pow_add, Nat.mul_assoc, Nat.mul_div_cancel_left _ (Nat.pow_pos (by decide))]
  rw [h1] at h2
  generalize i % 16 = t at *
  generalize qs[i / 16]?.getD 0 = x at *
  have h3 : B16 = 2 ^ (t + 1) * 2 ^ (15 - t) := by rw [← Nat.pow_add, show t + 1 + (15 - t) = 16 by omega]; rfl
  -- x is a multiple of 2^(t+1)
  have h4 : x % 2 ^ (t + 1) = 0 := by
    have : (x + 2 ^ (t + 1) * (2 ^ (15 - t) * val B16 (qs.drop (i / 16 + 1)))) % 2 ^ (t + 1) = 0 := by
      rw [← Nat.mul_assoc, ← h3, h2]; exact Nat.mul_mod_right _ _
    rwa [Nat.add_mul_mod_self_left] at this
  obtain ⟨y, hy⟩ := Nat.dvd_of_mod_eq_zero h4
  have h5 : 2 ^ (t + 1) * y < 2 ^ (t + 1) * 2 ^ (15 - t) := by rw [← h3, ← hy]; exact hx
  have h6 := Nat.lt_of_mul_lt_mul_left h5
  have h7 : 2 ^ (t + 1) * (y + 1) ≤ 2 ^ (t + 1) * 2 ^ (15 - t) := Nat.mul_le_mul_left _ h6
  rw [← h3, B16_eq, Nat.mul_add, Nat.mul_one, ← hy] at h7
  have h8 : 0 < 2 ^ t := Nat.pow_pos (by decide)
  rw [Nat.pow_succ] at h7
  omega

theorem dm_set {qs : List Nat} (i : Nat) (hj : i / 16 < qs.length) : val B16 (qs.set (i / 16) (qs[i / 16]?.getD 0 + 2 ^ (i % 16))) = val B16 qs + 2 ^ i := by
  have h := val_set B16 qs (i / 16) (qs[i / 16]?.getD 0 + 2 ^ (i % 16)) hj
  have e : 2 ^ i = B16 ^ (i / 16) * 2 ^ (i % 16) := by rw [B16_pow, ← Nat.pow_add, Nat.div_add_mod]
  rw [Nat.mul_add] at h
  omega

theorem dm_less {A D Q R b i : Nat} (h : A / 2 ^ i = 2 * (A / 2 ^ (i + 1)) + A / 2 ^ i % 2) (hg : A / 2 ^ (i + 1) = D * Q + R) (hb : b = A / 2 ^ i % 2) : A / 2 ^ i = D * (2 * Q) + (2 * R + b) := by
  rw [hg, ← hb] at h
  rw [h, Nat.mul_left_comm D 2 Q]
  omega

theorem dm_more {A D Q R b i : Nat} (h : A / 2 ^ i = 2 * (A / 2 ^ (i + 1)) + A / 2 ^ i % 2) (hg : A / 2 ^ (i + 1) = D * Q + R) (hb : b = A / 2 ^ i % 2) (hl : ¬ 2 * R + b < D) : A / 2 ^ i = D * (2 * Q + 1) + (2 * R + b - D) := by
  rw [dm_less h hg hb, Nat.mul_add]
  omega

def DmRel (la lb A D : Nat) (W : World) (rv iv : Value) (wr : World) : Prop :=
  ∃ (k R Q : Nat) (qs : List Nat) (ro : Option Addr) (rl rc : Nat), iv = .int .i64 ((k : Int) - 1) ∧ rv = .slice ro rl rc ∧ N16 wr ro rl R ∧ R < D ∧ A / 2 ^ k = D * Q + R ∧ Blk .i64 wr W.heap.size 3 qs ∧ qs.length = la ∧ Dig B16 qs ∧ val B16 qs = 2 ^ k * Q ∧ k ≤ 16 * la ∧ rl ≤ rc ∧ rc ≤ 9223372036854775807 ∧ Below W.heap.size W wr

def DmPost (A D : Nat) (W : World) (e : Ending) (w' : World) : Prop :=
  ∃ qo ql qc ro rl rc, e = .returned (.tuple #[.slice qo ql qc, .slice ro rl rc]) ∧ ql ≤ qc ∧ qc ≤ 9223372036854775807 ∧ rl ≤ rc ∧ rc ≤ 9223372036854775807 ∧ N16 w' qo ql (A / D) ∧ N16 w' ro rl (A % D) ∧ Below W.heap.size W w'

set_option maxRecDepth 8000 in
set_option maxHeartbeats 2000000 in
theorem divMod_any (ao bo : Option Addr) (la lb ca cb A D : Nat) (W : World) (ha : N16 W ao la A) (hb : N16 W bo lb D) (hD : 0 < D) (hla : la ≤ 100000000) (hlb : lb ≤ 100000000) :
    Calls Tryz.prog 96 #[.slice ao la ca, .slice bo lb cb] W (DmPost A D W) := by
  have HA := Lib.hid ha
  have HB := Lib.hid hb
  have HDL := Lib.hid hb.lt
  have hk : blen A ≤ 16 * la := by
    have h := ha.lt
    rw [B16_pow] at h
    exact blen_le.2 h
  have HBL := Lib.hid (blen_lt A)
  clear ha hb
  go_enter Tryz.func96, Tryz.ntmps96
  go_wp2_with (at_make; refine wpList_mk rfl _ 31 rfl 3 .i64 8 Tryz.underlying31 (by kernel_rfl) _ la rfl rfl (by omega) (by omega) ?_; intro w1 hB1 hb1 hz1)
  refine (bitLen16_raw _ _ _ _ _ (HA.out.keep hb1) (by omega)).mono ?_
  rintro e w2 ⟨rfl, hw⟩
  obtain rfl : w1 = w2 := hw
  obtain ⟨k0, hk0⟩ : ∃ k, k = blen A := ⟨_, rfl⟩
  rw [← hk0] at hk ⊢
  have HK0 := Lib.hid hk0
  clear hk0
  go_wp2
  go_loopw [7, 8] (fun rv iv wr => DmRel la lb A D W rv iv wr) (fun rv iv _ => (intOf iv + 1).toNat)
  case atStart =>
    refine ⟨k0, 0, 0, _, none, 0, 0, rfl, rfl, N16.nil _ _, hD, ?_, hB1, by simp, Dig.replicate B16_pos _, by rw [val_replicate]; simp, hk, by omega, by omega, hb1⟩
    rw [HK0.out, Nat.div_eq_of_lt HBL.out]; simp
  case round =>
    obtain ⟨k, R, Q, qs, ro, rl, rc, rfl, rfl, hr, hR, hdiv, hq, hql, hqd, hqv, hk2, hlc, hcm, hbel⟩ := hrel
    have GR := Lib.hid hr
    have GD := Lib.hid hdiv
    have GQ := Lib.hid hq
    have GL := Lib.hid hql
    have GQD := Lib.hid hqd
    have GV := Lib.hid hqv
    have GW := Lib.hid hbel
    have GRD := Lib.hid hR
    have hrl : rl ≤ lb := hr.len_le (Nat.lt_trans hR HDL.out)
    clear hr hdiv hq hql hqd hqv hbel hR
    by_cases hk00 : k = 0
    · subst hk00
      have HSQ := Lib.hid (GQ.out.whole GL.out)
      go_wp2_with fail
      refine (trim16_raw _ _ _ _ _ HSQ.out (by omega) (by omega)).mono ?_
      rintro e w3 ⟨⟨ao', m, rfl, hm, ha', ht, hzz⟩, hw⟩
      obtain rfl : wr = w3 := hw
      have HT := Lib.hid ht
      have HZ := Lib.hid hzz
      have HAA := Lib.hid ha'
      clear ht hzz ha'
      go_wp2
      go_ret2
      have hd := GD.out
      have hv := GV.out
      simp only [Nat.pow_zero, Nat.div_one, Nat.one_mul] at hd hv
      have e1 : A / D = Q := by rw [hd, Nat.mul_add_div hD, Nat.div_eq_of_lt GRD.out, Nat.add_zero]
      have e2 : A % D = R := by rw [hd, Nat.mul_add_mod, Nat.mod_eq_of_lt GRD.out]
      refine ⟨ao', m, la, ro, rl, rc, rfl, hm, by omega, hlc, hcm, ⟨qs.take m, trim_sl HSQ.out hm HAA.out, GQD.out.take _, HT.out, by rw [val_take_of_zeros HZ.out, hv, e1]⟩, by rw [e2]; exact GR.out, GW.out⟩
    · obtain ⟨i, rfl⟩ : ∃ i, k = i + 1 := ⟨k - 1, by omega⟩
      have e1 : (((i + 1 : Nat) : Int) - 1) = (i : Int) := by omega
      rw [e1]
      clear e1 hk00
      have b0 : (0 : Int) ≤ (i : Int) := by omega
      go_wp2_with fail
      refine (shl1_any _ _ _ R wr GR.out (by omega)).mono ?_
      rintro e w3 ⟨so, sl, sc, rfl, hslc, hscm, hs, hb3⟩
      have HS := Lib.hid hs
      have HB3 := Lib.hid hb3
      have hsl : sl ≤ lb + 1 := by
        refine hs.len_le ?_
        have h1 := HDL.out
        have h2 := GRD.out
        rw [Nat.pow_succ, B16_eq]
        rw [B16_eq] at h1
        generalize 65536 ^ lb = p at *
        omega
      clear hs hb3
      go_wp2_with fail
      refine (bit_any _ _ _ A i _ _ ((HA.out.keep GW.out).keep HB3.out) rfl (by omega) (by omega)).mono ?_
      rintro e w4 ⟨rfl, mm, hw4⟩
      obtain ⟨b, hbe⟩ : ∃ b, b = A / 2 ^ i % 2 := ⟨_, rfl⟩
      have hb2 : b < 2 := by rw [hbe]; exact Nat.mod_lt _ (by decide)
      rw [← hbe]
      have HBE := Lib.hid hbe
      have HS4 : Hid (N16 w4 so sl (2 * R)) := by rw [hw4]; exact HS.out.keep (below_drewN1 (Below.refl _ _) mm)
      have HB4 : Hid (Below wr.heap.size wr w4) := by rw [hw4]; exact below_drewN1 HB3.out mm
      clear hw4 hbe
      have hbb : b = 0 ∨ b = 1 := by omega
      rcases hbb with hbv | hbv
      · have tb : ¬ (b : Int) = 1 := by omega
        have HS5 : Hid (N16 w4 so sl (2 * R + b)) := by rw [hbv]; exact HS4.out
        have HQ5 := Lib.hid (GQ.out.below HB4.out GQ.out.lt)
        have HW5 := Lib.hid (GW.out.trans (HB4.out.mono GW.out.size))
        go_wp2_with fail
        refine (cmp16_any _ _ _ _ _ _ (2 * R + b) D _ HS5.out (HB.out.keep HW5.out) (by omega) (by omega)).mono ?_
        rintro e w7 ⟨rfl, hd7⟩
        have HQ7 : Hid (Blk .i64 w7 W.heap.size 3 qs) := HQ5.out.of_block (by obtain ⟨_, rfl⟩ := hd7; rfl)
        have HW7 := Lib.hid (HW5.out.trans hd7.below)
        have HS7 := Lib.hid (HS5.out.keep hd7.below)
        clear hd7
        have HDB := Lib.hid (dm_bit (A := A) (i := i))
        by_cases hlt : 2 * R + b < D
        · rw [cmpN_lt hlt]
          go_wp2
          refine ⟨⟨i, 2 * R + b, 2 * Q, qs, so, sl, sc, rfl, rfl, HS7.out, hlt, dm_less HDB.out GD.out HBE.out, HQ7.out, GL.out, GQD.out, by rw [GV.out, Nat.pow_succ, Nat.mul_assoc], by omega, by omega, by omega, HW7.out⟩, by simp only [intOf]; omega⟩
        · obtain ⟨cc, hcc⟩ : ∃ c, c = cmpN (2 * R + b) D := ⟨_, rfl⟩
          have hc0 : 0 ≤ cc := by
            rw [hcc]; unfold cmpN; rw [if_neg hlt]; split <;> decide
          rw [← hcc]
          clear hcc
          go_wp2_with fail
          refine (sub16_new _ _ _ _ _ _ (2 * R + b) D _ HS7.out (HB.out.keep HW7.out) (by omega) (by omega)).mono ?_
          rintro e w8 ⟨xo, xl, xc, rfl, hxlc, hxcm, hx, hb8, hloc⟩
          have HX := Lib.hid hx
          have HLOC := Lib.hid hloc
          have HW8 := Lib.hid (HW7.out.trans (hb8.mono HW7.out.size))
          have HQ8 := Lib.hid (HQ7.out.below hb8 HQ7.out.lt)
          have HNE : Hid (0 < xl → ∃ g, xo = some ⟨g, 0, none⟩ ∧ g ≠ W.heap.size) := fun h => by
            obtain ⟨g, h1, h2⟩ := hloc h
            have h3 := HQ7.out.lt
            exact ⟨g, h1, by omega⟩
          clear hx hloc hb8
          obtain ⟨j, hj⟩ : ∃ j, j = i / 16 := ⟨_, rfl⟩
          obtain ⟨t, htt⟩ : ∃ t, t = i % 16 := ⟨_, rfl⟩
          have hjla : j < la := by omega
          have ht16 : t ≤ 16 := by omega
          have hxp := dm_digit GQD.out i Q GV.out (by rw [GL.out, ← hj]; exact hjla)
          have HSET := Lib.hid (dm_set i (by rw [GL.out, ← hj]; exact hjla) (qs := qs))
          rw [← hj, ← htt] at hxp HSET
          have c1 := HQ8.out.cell j (by rw [GL.out]; exact hjla)
          have fz1 := HQ8.out.frozen j
          obtain ⟨x, hxe⟩ : ∃ x, x = qs[j]?.getD 0 := ⟨_, rfl⟩
          obtain ⟨p, hp⟩ : ∃ p, p = 2 ^ t := ⟨_, rfl⟩
          rw [← hxe, ← hp] at hxp HSET
          rw [← hxe] at c1
          have HP := Lib.hid hp
          have e1 : (i : Int) / 16 = (j : Int) := by omega
          have e2 : (i : Int) % 16 = (t : Int) := by omega
          have e3 : (i : Int).tmod 16 = (t : Int) := by rw [Int.tmod_eq_emod_of_nonneg (Int.natCast_nonneg _)]; exact e2
          have e4 : (i : Int).tdiv 16 = (j : Int) := by rw [Int.tdiv_eq_ediv_of_nonneg (Int.natCast_nonneg _)]; exact e1
          have b2 : (j : Int) < (la : Int) := by omega
          have b3 : (0 : Int) ≤ (j : Int) := by omega
          clear hxe hp hj htt
          have q1 : IntKind.i64.wrap (j : Int) = (j : Int) := IntWalk.i64_in _ (by omega)
          have q2 : IntKind.i64.wrap (t : Int) = (t : Int) := IntWalk.i64_in _ (by omega)
          have q3 : IntKind.i64.wrap ((x : Int) + (p : Int)) = (x : Int) + (p : Int) := IntWalk.i64_in _ (by omega)
          go_upto_region 11 with fail
          go_still_tail 10, (by kernel_rfl)
          still_call (show Calls _ _ _ _ (fun e w'' => e = .returned (.int .i64 (p : Int)) ∧ w'' = _) from (power_any _ t _ (by first | rfl | exact e2 | exact e3) ht16).mono fun e w h => ⟨by rw [h.1, ← HP.out], h.2.symm⟩)
          repeat still_step
          refine wpStill_nil ?_
          have HQ9 : Hid (Blk .i64 w8.drew W.heap.size 3 qs) := HQ8.out
          have HX9 : Hid (N16 w8.drew xo xl (2 * R + b - D)) := HX.out.keep (Below.refl _ _).drew
          have HW9 : Hid (Below W.heap.size W w8.drew) := below_drewN1 HW8.out 1
          have c9 : w8.drew.cell? ⟨W.heap.size, j, none⟩ = some (.int .i64 (x : Int)) := c1
          have fz9 : w8.drew.frozen? ⟨W.heap.size, j, none⟩ = false := fz1
          change wpList _ _ _ _ _ w8.drew
          generalize w8.drew = w9 at HQ9 HX9 HW9 c9 fz9 ⊢
          clear c1 fz1
          go_wp2_with fail
          refine ⟨⟨i, 2 * R + b - D, 2 * Q + 1, qs.set j (x + p), xo, xl, xc, rfl, rfl, HX9.out.setOther HNE.out, by have := GRD.out; omega, dm_more HDB.out GD.out HBE.out hlt, HQ9.out.set _ _ _ (Int.natCast_add _ _).symm, by rw [List.length_set]; exact GL.out, GQD.out.set _ (by rw [B16_eq]; exact hxp), ?_, by omega, hxlc, hxcm, HW9.out.setCell (Nat.le_refl _) _⟩, by simp only [intOf]; omega⟩
          rw [HSET.out, GV.out, Nat.pow_succ]
          generalize 2 ^ i = u
          grind
      · have tb : (b : Int) = 1 := by omega
        go_wp2_with fail
        refine (of_any 1 1 _ rfl (by omega)).mono ?_
        rintro e w5 ⟨no, nl, nc, rfl, hnlc, hncm, hn1, hb5⟩
        have hnl : nl ≤ 1 := hn1.len_le (by rw [B16_eq]; decide)
        have HN1 := Lib.hid hn1
        have HB5 := Lib.hid hb5
        clear hn1 hb5
        go_wp2_with fail
        refine (add_any _ _ _ _ _ _ (2 * R) 1 _ (HS4.out.keep HB5.out) HN1.out (by omega) (by omega)).mono ?_
        rintro e w6 ⟨tto, tl, tc, rfl, htlc, htcm, ht, hb6⟩
        have htl : tl ≤ lb + 1 := by
          refine ht.len_le ?_
          have h1 := HDL.out
          have h2 := GRD.out
          rw [Nat.pow_succ, B16_eq]
          rw [B16_eq] at h1
          generalize 65536 ^ lb = p at *
          omega
        have HS6 : Hid (N16 w6 tto tl (2 * R + b)) := by rw [hbv]; exact ht
        have HB6 := Lib.hid ((HB4.out.trans (HB5.out.mono HB4.out.size)).trans (hb6.mono (Nat.le_trans HB4.out.size HB5.out.size)))
        clear ht hb6
        have HQ5 := Lib.hid (GQ.out.below HB6.out GQ.out.lt)
        have HW5 := Lib.hid (GW.out.trans (HB6.out.mono GW.out.size))
        go_wp2_with fail
        refine (cmp16_any _ _ _ _ _ _ (2 * R + b) D _ HS6.out (HB.out.keep HW5.out) (by omega) (by omega)).mono ?_
        rintro e w7 ⟨rfl, hd7⟩
        have HQ7 : Hid (Blk .i64 w7 W.heap.size 3 qs) := HQ5.out.of_block (by obtain ⟨_, rfl⟩ := hd7; rfl)
        have HW7 := Lib.hid (HW5.out.trans hd7.below)
        have HS7 := Lib.hid (HS6.out.keep hd7.below)
        clear hd7
        have HDB := Lib.hid (dm_bit (A := A) (i := i))
        by_cases hlt : 2 * R + b < D
        · rw [cmpN_lt hlt]
          go_wp2
          refine ⟨⟨i, 2 * R + b, 2 * Q, qs, tto, tl, tc, rfl, rfl, HS7.out, hlt, dm_less HDB.out GD.out HBE.out, HQ7.out, GL.out, GQD.out, by rw [GV.out, Nat.pow_succ, Nat.mul_assoc], by omega, by omega, by omega, HW7.out⟩, by simp only [intOf]; omega⟩
        · obtain ⟨cc, hcc⟩ : ∃ c, c = cmpN (2 * R + b) D := ⟨_, rfl⟩
          have hc0 : 0 ≤ cc := by
            rw [hcc]; unfold cmpN; rw [if_neg hlt]; split <;> decide
          rw [← hcc]
          clear hcc
          go_wp2_with fail
          refine (sub16_new _ _ _ _ _ _ (2 * R + b) D _ HS7.out (HB.out.keep HW7.out) (by omega) (by omega)).mono ?_
          rintro e w8 ⟨xo, xl, xc, rfl, hxlc, hxcm, hx, hb8, hloc⟩
          have HX := Lib.hid hx
          have HLOC := Lib.hid hloc
          have HW8 := Lib.hid (HW7.out.trans (hb8.mono HW7.out.size))
          have HQ8 := Lib.hid (HQ7.out.below hb8 HQ7.out.lt)
          have HNE : Hid (0 < xl → ∃ g, xo = some ⟨g, 0, none⟩ ∧ g ≠ W.heap.size) := fun h => by
            obtain ⟨g, h1, h2⟩ := hloc h
            have h3 := HQ7.out.lt
            exact ⟨g, h1, by omega⟩
          clear hx hloc hb8
          obtain ⟨j, hj⟩ : ∃ j, j = i / 16 := ⟨_, rfl⟩
          obtain ⟨t, htt⟩ : ∃ t, t = i % 16 := ⟨_, rfl⟩
          have hjla : j < la := by omega
          have ht16 : t ≤ 16 := by omega
          have hxp := dm_digit GQD.out i Q GV.out (by rw [GL.out, ← hj]; exact hjla)
          have HSET := Lib.hid (dm_set i (by rw [GL.out, ← hj]; exact hjla) (qs := qs))
          rw [← hj, ← htt] at hxp HSET
          have c1 := HQ8.out.cell j (by rw [GL.out]; exact hjla)
          have fz1 := HQ8.out.frozen j
          obtain ⟨x, hxe⟩ : ∃ x, x = qs[j]?.getD 0 := ⟨_, rfl⟩
          obtain ⟨p, hp⟩ : ∃ p, p = 2 ^ t := ⟨_, rfl⟩
          rw [← hxe, ← hp] at hxp HSET
          rw [← hxe] at c1
          have HP := Lib.hid hp
          have e1 : (i : Int) / 16 = (j : Int) := by omega
          have e2 : (i : Int) % 16 = (t : Int) := by omega
          have e3 : (i : Int).tmod 16 = (t : Int) := by rw [Int.tmod_eq_emod_of_nonneg (Int.natCast_nonneg _)]; exact e2
          have e4 : (i : Int).tdiv 16 = (j : Int) := by rw [Int.tdiv_eq_ediv_of_nonneg (Int.natCast_nonneg _)]; exact e1
          have b2 : (j : Int) < (la : Int) := by omega
          have b3 : (0 : Int) ≤ (j : Int) := by omega
          clear hxe hp hj htt
          have q1 : IntKind.i64.wrap (j : Int) = (j : Int) := IntWalk.i64_in _ (by omega)
          have q2 : IntKind.i64.wrap (t : Int) = (t : Int) := IntWalk.i64_in _ (by omega)
          have q3 : IntKind.i64.wrap ((x : Int) + (p : Int)) = (x : Int) + (p : Int) := IntWalk.i64_in _ (by omega)
          go_upto_region 11 with fail
          go_still_tail 10, (by kernel_rfl)
          still_call (show Calls _ _ _ _ (fun e w'' => e = .returned (.int .i64 (p : Int)) ∧ w'' = _) from (power_any _ t _ (by first | rfl | exact e2 | exact e3) ht16).mono fun e w h => ⟨by rw [h.1, ← HP.out], h.2.symm⟩)
          repeat still_step
          refine wpStill_nil ?_
          have HQ9 : Hid (Blk .i64 w8.drew W.heap.size 3 qs) := HQ8.out
          have HX9 : Hid (N16 w8.drew xo xl (2 * R + b - D)) := HX.out.keep (Below.refl _ _).drew
          have HW9 : Hid (Below W.heap.size W w8.drew) := below_drewN1 HW8.out 1
          have c9 : w8.drew.cell? ⟨W.heap.size, j, none⟩ = some (.int .i64 (x : Int)) := c1
          have fz9 : w8.drew.frozen? ⟨W.heap.size, j, none⟩ = false := fz1
          change wpList _ _ _ _ _ w8.drew
          generalize w8.drew = w9 at HQ9 HX9 HW9 c9 fz9 ⊢
          clear c1 fz1
          go_wp2_with fail
          refine ⟨⟨i, 2 * R + b - D, 2 * Q + 1, qs.set j (x + p), xo, xl, xc, rfl, rfl, HX9.out.setOther HNE.out, by have := GRD.out; omega, dm_more HDB.out GD.out HBE.out hlt, HQ9.out.set _ _ _ (Int.natCast_add _ _).symm, by rw [List.length_set]; exact GL.out, GQD.out.set _ (by rw [B16_eq]; exact hxp), ?_, by omega, hxlc, hxcm, HW9.out.setCell (Nat.le_refl _) _⟩, by simp only [intOf]; omega⟩
          rw [HSET.out, GV.out, Nat.pow_succ]
          generalize 2 ^ i = u
          grind
end Go.Proofs.YtcgnmihabkgecaaGreat

/- The specification's gcd. -/
set_option linter.unusedVariables false
namespace Go.Proofs.YtcgnmihabkgecaaGreat
open Go.RowKit

theorem par16 {xs : List Nat} (hd : Dig B16 xs) : xs[0]?.getD 0 % 2 = val B16 xs % 2 := by
  have := bit_of hd 0
  simpa using this.symm

theorem N16.low {w : World} {ao : Option Addr} {la a : Nat} (h : N16 w ao la a) (ha : 0 < a) : 0 < la ∧ ∃ b off x, ao = some ⟨b, off, none⟩ ∧ w.cell? ⟨b, off, none⟩ = some (.int .i64 ((x : Nat) : Int)) ∧ x < 65536 ∧ x % 2 = a % 2 := by
  have hla : 0 < la := by
    rcases Nat.eq_zero_or_pos la with h0 | h0
    · have := h.zero.2 h0; omega
    · exact h0
  obtain ⟨xs, ⟨hx, b, off, h0, hc⟩, hd, ht, hv⟩ := h
  refine ⟨hla, b, off, xs[0]?.getD 0, h0 hla, hc 0 hla, ?_, ?_⟩
  · have := hd.get B16_pos 0; rwa [B16_eq] at this
  · rw [par16 hd, hv]

def GcdS (L G k : Nat) (W : World) (av bv : Value) (wr : World) (a b : Nat) : Prop :=
  ∃ (ao bo : Option Addr) (la ca lb cb : Nat), av = .slice ao la ca ∧ bv = .slice bo lb cb ∧ la ≤ ca ∧ ca ≤ 9223372036854775807 ∧ lb ≤ cb ∧ cb ≤ 9223372036854775807 ∧ N16 wr ao la a ∧ N16 wr bo lb b ∧ a < B16 ^ L ∧ b < B16 ^ L ∧ 0 < b ∧ 2 ^ k * Nat.gcd a b = G ∧ Below W.heap.size W wr

def Gcd1 (L G : Nat) (W : World) (av bv kv : Value) (wr : World) : Prop :=
  ∃ k a b, kv = .int .i64 ((k : Nat) : Int) ∧ k ≤ 16 * L ∧ 0 < a ∧ GcdS L G k W av bv wr a b

def Gcd2 (L G : Nat) (W : World) (av bv kv : Value) (wr : World) : Prop :=
  ∃ k a b, kv = .int .i64 ((k : Nat) : Int) ∧ k ≤ 16 * L ∧ ¬ (a % 2 = 0 ∧ b % 2 = 0) ∧ GcdS L G k W av bv wr a b

/-- the inner loops: a is halved until it is odd; b, which is odd or a is, stays -/
def Gcd3 (a b : Nat) (w0 : World) (av : Value) (wr : World) : Prop :=
  ∃ (a' : Nat) (ao : Option Addr) (la ca : Nat), av = .slice ao la ca ∧ la ≤ ca ∧ ca ≤ 9223372036854775807 ∧ N16 wr ao la a' ∧ 0 < a' ∧ a' ≤ a ∧ ¬ (a' % 2 = 0 ∧ b % 2 = 0) ∧ Nat.gcd a' b = Nat.gcd a b ∧ Below w0.heap.size w0 wr

theorem gcd_k {L G k a b : Nat} (hG : G < 2 ^ (16 * L)) (hb : 0 < b) (h : 2 ^ k * Nat.gcd a b = G) : k < 16 * L := by
  have h1 : 0 < Nat.gcd a b := Nat.gcd_pos_of_pos_right _ hb
  have h2 : 2 ^ k * 1 ≤ 2 ^ k * Nat.gcd a b := Nat.mul_le_mul_left _ h1
  exact (Nat.pow_lt_pow_iff_right (a := 2) (by decide)).1 (by omega)

theorem tmod2 {x a : Nat} (h : x % 2 = a % 2) : ((x : Int).tmod 2 = ((a % 2 : Nat) : Int)) ∧ ((x : Int) % 2 = ((a % 2 : Nat) : Int)) := by
  have h1 : (x : Int).tmod 2 = (x : Int) % 2 := Int.tmod_eq_emod_of_nonneg (Int.natCast_nonneg _)
  constructor
  · rw [h1]; omega
  · omega

set_option maxRecDepth 8000 in
set_option maxHeartbeats 4000000 in
theorem gcd16_any (ao bo : Option Addr) (la lb ca cb A B : Nat) (W : World) (ha : N16 W ao la A) (hb : N16 W bo lb B) (hla : la ≤ 10000000) (hlb : lb ≤ 10000000) (hac : la ≤ ca) (hacm : ca ≤ 9223372036854775807) (hbc : lb ≤ cb) (hbcm : cb ≤ 9223372036854775807) :
    Calls Tryz.prog 85 #[.slice ao la ca, .slice bo lb cb] W (Out16 W (Nat.gcd A B)) := by
  by_cases hA0 : la = 0
  · have hA : A = 0 := ha.zero.2 hA0
    subst hA0 hA
    have HB := Lib.hid hb
    clear ha hb
    go_enter Tryz.func85, Tryz.ntmps85
    go_wp2
    go_ret
    exact ⟨bo, lb, cb, rfl, hbc, hbcm, by rw [Nat.gcd_zero_left]; exact HB.out, Below.refl _ _⟩
  by_cases hB0 : lb = 0
  · have hB : B = 0 := hb.zero.2 hB0
    have b2 : ((la : Int) == 0) = false := by simp; omega
    subst hB0 hB
    have HA := Lib.hid ha
    clear ha hb
    go_enter Tryz.func85, Tryz.ntmps85
    go_wp2
    go_ret
    exact ⟨ao, la, ca, rfl, hac, hacm, by rw [Nat.gcd_zero_right]; exact HA.out, Below.refl _ _⟩
  have hA1 : 0 < A := by
    rcases Nat.eq_zero_or_pos A with h | h
    · exact absurd (ha.zero.1 h) hA0
    · exact h
  have hB1 : 0 < B := by
    rcases Nat.eq_zero_or_pos B with h | h
    · exact absurd (hb.zero.1 h) hB0
    · exact h
  have b1 : ((la : Int) == 0) = false := by simp; omega
  have b2 : ((lb : Int) == 0) = false := by simp; omega
  obtain ⟨L, hLe⟩ : ∃ L, L = max la lb := ⟨_, rfl⟩
  have hL : L ≤ 10000000 := by omega
  have hAL : A < B16 ^ L := Nat.lt_of_lt_of_le ha.lt (Nat.pow_le_pow_right B16_pos (by omega))
  have hBL : B < B16 ^ L := Nat.lt_of_lt_of_le hb.lt (Nat.pow_le_pow_right B16_pos (by omega))
  obtain ⟨G, hG⟩ : ∃ G, G = Nat.gcd A B := ⟨_, rfl⟩
  have hGL : G < 2 ^ (16 * L) := by
    rw [hG, ← B16_pow]
    exact Nat.lt_of_le_of_lt (Nat.gcd_le_right A hB1) hBL
  rw [← hG]
  have HS : Hid (Gcd1 L G W (.slice ao la ca) (.slice bo lb cb) (.int .i64 0) W) :=
    ⟨0, A, B, rfl, Nat.zero_le _, hA1, ao, bo, la, ca, lb, cb, rfl, rfl, hac, hacm, hbc, hbcm, ha, hb, hAL, hBL, hB1, by rw [hG]; simp, Below.refl _ _⟩
  have HGL := Lib.hid hGL
  clear ha hb hAL hBL hG hGL hLe hA0 hB0 hA1 hB1
  go_enter Tryz.func85, Tryz.ntmps85
  go_upto_block 0 with fail
  go_cut [0, 1, 5] from 14 to 31 (fun av bv kv wx => Gcd2 L G W av bv kv wx)
  case first =>
    go_wp2_with fail
    go_loopw [0, 1, 5] (fun av bv kv wr => Gcd1 L G W av bv kv wr) (fun av bv kv wr => readN16 wr av)
    case atStart => exact HS.out
    case round =>
      obtain ⟨k, a, b, rfl, hk, ha1, ao, bo, la, ca, lb, cb, rfl, rfl, hac, hacm, hbc, hbcm, ha, hb, haL, hbL, hb1, hg, hw⟩ := hrel
      have hla : la ≤ 10000000 := Nat.le_trans (ha.len_le haL) hL
      have hlb : lb ≤ 10000000 := Nat.le_trans (hb.len_le hbL) hL
      obtain ⟨hla0, ab, aoff, x, rfl, ca0, hx, hxa⟩ := ha.low ha1
      obtain ⟨hlb0, bb, boff, y, rfl, cb0, hy, hyb⟩ := hb.low hb1
      have hkl := gcd_k HGL.out hb1 hg
      have HA := Lib.hid ha
      have HB := Lib.hid hb
      have HAL := Lib.hid haL
      have HBL := Lib.hid hbL
      have HG := Lib.hid hg
      have HW := Lib.hid hw
      have i1 : (0 : Int) < (la : Int) := by omega
      have i2 : (0 : Int) < (lb : Int) := by omega
      have m1 := (tmod2 hxa).1
      have m2 := (tmod2 hxa).2
      have m3 := (tmod2 hyb).1
      have m4 := (tmod2 hyb).2
      clear ha hb haL hbL hg hw hxa hyb
      by_cases hae : a % 2 = 0
      · rw [hae] at m1 m2
        by_cases hbe : b % 2 = 0
        · rw [hbe] at m3 m4
          go_wp2_with fail
          refine (shr1_any _ _ _ a _ HA.out (by omega)).mono ?_
          rintro e w1 ⟨so, sl, sc, rfl, hs1, hs2, hn1, hb1'⟩
          have HA1 := Lib.hid hn1
          have HB1 := Lib.hid (HB.out.keep hb1')
          have HW1 := Lib.hid (below_then HW.out hb1')
          clear hn1 hb1'
          go_wp2_with fail
          refine (shr1_any _ _ _ b _ HB1.out (by omega)).mono ?_
          rintro e w2 ⟨to_, tl, tc, rfl, ht1, ht2, hn2, hb2'⟩
          have HA2 := Lib.hid (HA1.out.keep hb2')
          have HB2 := Lib.hid hn2
          have HW2 := Lib.hid (below_then HW1.out hb2')
          clear hn2 hb2'
          go_wp2_with fail
          go_roundw
          case rel =>
            refine ⟨k + 1, a / 2, b / 2, by go_num, by omega, by omega, so, to_, sl, sc, tl, tc, rfl, rfl, hs1, hs2, ht1, ht2, HA2.out, HB2.out, ?_, ?_, by omega, ?_, HW2.out⟩
            · exact Nat.lt_of_le_of_lt (Nat.div_le_self _ _) HAL.out
            · exact Nat.lt_of_le_of_lt (Nat.div_le_self _ _) HBL.out
            · rw [Nat.pow_succ, Nat.mul_assoc, bg_both hae hbe]; exact HG.out
          case measure => rw [readN16_of HA2.out, readN16_of HA.out]; omega
        · have hbo : b % 2 = 1 := by omega
          rw [hbo] at m3 m4
          go_wp2_with fail
          go_meet
          case rel => exact ⟨k, a, b, rfl, hk, fun h => hbe h.2, _, _, la, ca, lb, cb, rfl, rfl, hac, hacm, hbc, hbcm, HA.out, HB.out, HAL.out, HBL.out, hb1, HG.out, HW.out⟩
      · have hao : a % 2 = 1 := by omega
        rw [hao] at m1 m2
        go_wp2_with fail
        go_meet
        case rel => exact ⟨k, a, b, rfl, hk, fun h => hae h.1, _, _, la, ca, lb, cb, rfl, rfl, hac, hacm, hbc, hbcm, HA.out, HB.out, HAL.out, HBL.out, hb1, HG.out, HW.out⟩
  case rest =>
    obtain ⟨k, a0, b0, rfl, hk, hnb, hs⟩ := hcut
    have HS2 : Hid (∃ a b, ¬ (a % 2 = 0 ∧ b % 2 = 0) ∧ GcdS L G k W u0 u1 wc a b) := ⟨a0, b0, hnb, hs⟩
    clear hnb hs HS b1 b2
    go_wp2_with fail
    go_loopw [0, 1] (fun av bv wr => ∃ a b, ¬ (a % 2 = 0 ∧ b % 2 = 0) ∧ GcdS L G k W av bv wr a b) (fun av bv wr => readN16 wr av + readN16 wr bv)
    case atStart => exact HS2.out
    case round =>
      clear HS2
      obtain ⟨a, b, hnb, ao, bo, la, ca, lb, cb, rfl, rfl, hac, hacm, hbc, hbcm, ha, hb, haL, hbL, hb1, hg, hw⟩ := hrel
      obtain ⟨w0, hw0⟩ : ∃ w0, w0 = wr := ⟨_, rfl⟩
      subst hw0
      have hla : la ≤ 10000000 := Nat.le_trans (ha.len_le haL) hL
      have hlb : lb ≤ 10000000 := Nat.le_trans (hb.len_le hbL) hL
      have HA := Lib.hid ha
      have HB := Lib.hid hb
      have HAL := Lib.hid haL
      have HBL := Lib.hid hbL
      have HG := Lib.hid hg
      have HW := Lib.hid hw
      clear ha hb haL hbL hg hw
      by_cases hla0 : la = 0
      · have ha0 : a = 0 := HA.out.zero.2 hla0
        have t1 : ¬ (0 : Int) < (la : Int) := by omega
        have HR : Hid (2 ^ k * b = G) := by show _ = _; rw [← HG.out, ha0, Nat.gcd_zero_left]
        clear ha0 hla0
        go_wp2_with fail
        refine (shl_any _ _ _ b k _ _ HB.out rfl (by omega) (by omega)).mono ?_
        rintro e w1 ⟨so, sl, sc, rfl, hs1, hs2, hn1, hb1'⟩
        have HN := Lib.hid hn1
        have HW1 := Lib.hid (below_then HW.out hb1')
        clear hn1 hb1'
        go_wp2
        go_ret
        exact ⟨so, sl, sc, rfl, hs1, hs2, by rw [← HR.out]; exact HN.out, HW1.out⟩
      · have t1 : (0 : Int) < (la : Int) := by omega
        have t3 : decide (0 < la) = true := by simp; omega
        have ha1 : 0 < a := by
          rcases Nat.eq_zero_or_pos a with h | h
          · exact absurd (HA.out.zero.1 h) hla0
          · exact h
        have HST : Hid (Gcd3 a b w0 (.slice ao la ca) w0) := ⟨a, ao, la, ca, rfl, hac, hacm, HA.out, ha1, Nat.le_refl _, hnb, rfl, Below.refl _ _⟩
        clear hla0 hnb
        go_wp2_with fail
        go_loopw [0] (fun av wr => Gcd3 a b w0 av wr) (fun av wr => readN16 wr av)
        case atStart => exact HST.out
        case round =>
          clear HST
          obtain ⟨a', ao, la', ca', rfl, hac', hacm', ha', ha1', haa, hnb, hg', hw'⟩ := hrel
          have hla' : la' ≤ 10000000 := Nat.le_trans (ha'.len_le (Nat.lt_of_le_of_lt haa HAL.out)) hL
          obtain ⟨hla0, ab, aoff, x, rfl, ca0, hx, hxa⟩ := ha'.low ha1'
          have HA' := Lib.hid ha'
          have HG' := Lib.hid hg'
          have HW' := Lib.hid hw'
          have i1 : (0 : Int) < (la' : Int) := by omega
          have m1 := (tmod2 hxa).1
          have m2 := (tmod2 hxa).2
          clear ha' hg' hw' hxa
          by_cases hae : a' % 2 = 0
          · rw [hae] at m1 m2
            have hbo : ¬ b % 2 = 0 := fun h => hnb ⟨hae, h⟩
            go_wp2_with fail
            refine (shr1_any _ _ _ a' _ HA'.out (by omega)).mono ?_
            rintro e w1 ⟨so, sl, sc, rfl, hs1, hs2, hn1, hb1'⟩
            have HN := Lib.hid hn1
            have HW1 := Lib.hid (below_then HW'.out hb1')
            clear hn1 hb1'
            go_wp2_with fail
            go_roundw
            case rel => exact ⟨a' / 2, so, sl, sc, rfl, hs1, hs2, HN.out, by omega, by omega, fun h => hbo h.2, by rw [bg_left hae hbo]; exact HG'.out, HW1.out⟩
            case measure => rw [readN16_of HN.out, readN16_of HA'.out]; omega
          · have hao : a' % 2 = 1 := by omega
            rw [hao] at m1 m2
            clear hnb
            obtain ⟨w1, hw1⟩ : ∃ w1, w1 = wr := ⟨_, rfl⟩
            subst hw1
            have HST : Hid (Gcd3 b a' w1 (.slice bo lb cb) w1) := ⟨b, bo, lb, cb, rfl, hbc, hbcm, HB.out.keep HW'.out, hb1, Nat.le_refl _, fun h => hae h.2, rfl, Below.refl _ _⟩
            go_wp2_with fail
            go_loopw [1] (fun bv wr => Gcd3 b a' w1 bv wr) (fun bv wr => readN16 wr bv)
            case atStart => exact HST.out
            case round =>
              clear HST
              obtain ⟨b', bo, lb', cb', rfl, hbc', hbcm', hb', hb1', hbb, _, hg2, hw2⟩ := hrel
              have hlb' : lb' ≤ 10000000 := Nat.le_trans (hb'.len_le (Nat.lt_of_le_of_lt hbb HBL.out)) hL
              obtain ⟨hlb0, bb, boff, y, rfl, cb0, hy, hyb⟩ := hb'.low hb1'
              have HB' := Lib.hid hb'
              have HG2 := Lib.hid hg2
              have HW2 := Lib.hid hw2
              have i2 : (0 : Int) < (lb' : Int) := by omega
              have m3 := (tmod2 hyb).1
              have m4 := (tmod2 hyb).2
              clear hb' hg2 hw2 hyb
              by_cases hbe : b' % 2 = 0
              · rw [hbe] at m3 m4
                go_wp2_with fail
                refine (shr1_any _ _ _ b' _ HB'.out (by omega)).mono ?_
                rintro e w3 ⟨so, sl, sc, rfl, hs1, hs2, hn1, hb3⟩
                have HN := Lib.hid hn1
                have HW3 := Lib.hid (below_then HW2.out hb3)
                clear hn1 hb3
                go_wp2_with fail
                go_roundw
                case rel => exact ⟨b' / 2, so, sl, sc, rfl, hs1, hs2, HN.out, by omega, by omega, fun h => hae h.2, by rw [bg_left hbe hae]; exact HG2.out, HW3.out⟩
                case measure => rw [readN16_of HN.out, readN16_of HB'.out]; omega
              · have hbo : b' % 2 = 1 := by omega
                rw [hbo] at m3 m4
                have HA2 := Lib.hid (HA'.out.keep HW2.out)
                have HGG : Hid (2 ^ k * Nat.gcd a' b' = G) := by show _ = _; rw [Nat.gcd_comm a' b', HG2.out, Nat.gcd_comm b a', HG'.out]; exact HG.out
                have HWW := Lib.hid (below_then (below_then HW.out HW'.out) HW2.out)
                have HKA := Lib.hid (readN16_of (cap := ca) HA.out)
                have HKB := Lib.hid (readN16_of (cap := cb) HB.out)
                go_wp2_with fail
                refine (cmp16_any _ _ _ _ _ _ a' b' _ HA2.out HB'.out (by omega) (by omega)).mono ?_
                rintro e w3 ⟨rfl, hd3⟩
                have HA3 := Lib.hid (HA2.out.keep hd3.below)
                have HB3 := Lib.hid (HB'.out.keep hd3.below)
                have HW3 := Lib.hid (HWW.out.trans hd3.below)
                clear hd3
                obtain ⟨cc, hcc⟩ : ∃ c, c = cmpN a' b' := ⟨_, rfl⟩
                rw [← hcc]
                by_cases hlt : a' < b'
                · have hc0 : ¬ 0 ≤ cc := by
                    rw [hcc]; unfold cmpN; rw [if_pos hlt]; decide
                  clear hcc
                  go_wp2_with fail
                  refine (sub16_new _ _ _ _ _ _ b' a' _ HB3.out HA3.out (by omega) (by omega)).mono ?_
                  rintro e w4 ⟨so, sl, sc, rfl, hs1, hs2, hn1, hb4, _⟩
                  have HN := Lib.hid hn1
                  have HA4 := Lib.hid (HA3.out.keep hb4)
                  have HW4 := Lib.hid (below_then HW3.out hb4)
                  clear hn1 hb4
                  go_wp2_with fail
                  go_roundw
                  case rel =>
                    refine ⟨a', b' - a', fun h => hae h.1, _, so, la', ca', sl, sc, rfl, rfl, hac', hacm', hs1, hs2, HA4.out, HN.out, Nat.lt_of_le_of_lt haa HAL.out, Nat.lt_of_le_of_lt (Nat.le_trans (Nat.sub_le _ _) hbb) HBL.out, by omega, ?_, HW4.out⟩
                    rw [bg_sub_right (by omega)]; exact HGG.out
                  case measure => rw [readN16_of HA4.out, readN16_of HN.out, HKA.out, HKB.out]; omega
                · have hc0 : 0 ≤ cc := by
                    rw [hcc]; unfold cmpN; rw [if_neg hlt]; split <;> decide
                  clear hcc
                  go_wp2_with fail
                  refine (sub16_new _ _ _ _ _ _ a' b' _ HA3.out HB3.out (by omega) (by omega)).mono ?_
                  rintro e w4 ⟨so, sl, sc, rfl, hs1, hs2, hn1, hb4, _⟩
                  have HN := Lib.hid hn1
                  have HB4 := Lib.hid (HB3.out.keep hb4)
                  have HW4 := Lib.hid (below_then HW3.out hb4)
                  clear hn1 hb4
                  go_wp2_with fail
                  go_roundw
                  case rel =>
                    refine ⟨a' - b', b', fun h => hbe h.2, so, _, sl, sc, lb', cb', rfl, rfl, hs1, hs2, hbc', hbcm', HN.out, HB4.out, Nat.lt_of_le_of_lt (Nat.le_trans (Nat.sub_le _ _) haa) HAL.out, Nat.lt_of_le_of_lt hbb HBL.out, hb1', ?_, HW4.out⟩
                    rw [bg_sub_left (by omega)]; exact HGG.out
                  case measure => rw [readN16_of HB4.out, readN16_of HN.out, HKA.out, HKB.out]; omega
end Go.Proofs.YtcgnmihabkgecaaGreat

/- The specification's Low. -/
set_option linter.unusedVariables false
namespace Go.Proofs.YtcgnmihabkgecaaGreat
open Go.RowKit Go.Proofs

theorem lowP_zero (y : Int) : lowP 0 y = 0 := by
  unfold lowP
  rw [Int.natAbs_zero, Nat.zero_div]
  generalize (decide ((0 : Int) < 0) != decide (y < 0)) = b
  cases b <;> rfl
theorem lowQ_zero {y : Int} (hy : y ≠ 0) : lowQ 0 y = 1 := by
  unfold lowQ
  rw [Int.natAbs_zero, Nat.gcd_zero_left, Nat.div_self (by omega)]

set_option maxRecDepth 4000 in
set_option maxHeartbeats 2000000 in
theorem low_any (na nb : Bool) (ao bo : Option Addr) (la lb ca cb : Nat) (x y : Int) (W : World) (ha : Z16 W na ao la x) (hb : Z16 W nb bo lb y) (hla : la ≤ 1000000) (hlb : lb ≤ 1000000) (hac : la ≤ ca) (hacm : ca ≤ 9223372036854775807) (hbc : lb ≤ cb) (hbcm : cb ≤ 9223372036854775807) (hy : y ≠ 0) :
    Calls Tryz.prog 52 #[.agg #[.bool na, .slice ao la ca], .agg #[.bool nb, .slice bo lb cb]] W (OutK W (lowP x y) (lowQ x y : Int)) := by
  have hf : Fr W (((W.alloc (.cells #[.bool na, .slice ao la ca] 33)).alloc (.cells #[.bool nb, .slice bo lb cb] 33)).alloc (.cells #[.bool false, .slice none 0 0, .bool false, .slice none 0 0] 35)) [(33, #[.bool na, .slice ao la ca]), (33, #[.bool nb, .slice bo lb cb]), (35, #[.bool false, .slice none 0 0, .bool false, .slice none 0 0])] := (((Fr.nil W).alloc rfl _ _).alloc (by simp) _ _).alloc (by simp) _ _
  have HF := Lib.hid hf
  have HA_0 := Lib.hid (ha.keep hf.below)
  have HB_0 := Lib.hid (hb.keep hf.below)
  clear hf ha hb
  go_enter Tryz.func52, Tryz.ntmps52
  go_wp2_with fail
  obtain ⟨V, hV⟩ : ∃ V, V = (((W.alloc (.cells #[.bool na, .slice ao la ca] 33)).alloc (.cells #[.bool nb, .slice bo lb cb] 33)).alloc (.cells #[.bool false, .slice none 0 0, .bool false, .slice none 0 0] 35)) := ⟨_, rfl⟩
  rw [← hV] at HF HA_0 HB_0 ⊢
  clear hV
  by_cases hx : x = 0
  · have hx0 : lowP x y = 0 := by rw [hx]; exact lowP_zero y
    have hx1 : lowQ x y = 1 := by rw [hx]; exact lowQ_zero hy
    have HX0 := Lib.hid hx0
    have HX1 := Lib.hid hx1
    clear hx0 hx1
    refine ((sign16_any _ _ _ _ x V HA_0.out).mono fun e w h => (⟨h.1.trans (congrArg (fun t => Ending.returned (.int .i64 t)) (by rw [hx]; rfl)), h.2⟩ : e = .returned (.int .i64 0) ∧ _)).mono ?_
    rintro e w1 ⟨rfl, hb1⟩
    have HF1 := Lib.hid (HF.out.later hb1)
    clear hb1
    go_wp2_with fail
    refine (refOf_any 1 _ (by omega) (by omega)).mono ?_
    rintro e w2 ⟨s1, uo, ul, uc, rfl, huc, hum, hz2, hb2⟩
    have HF2 := Lib.hid (HF1.out.later hb2)
    have HZ2 := Lib.hid hz2
    clear hz2 hb2
    have g0 : w2.cell? ⟨W.heap.size + 2, 0, none⟩ = some (.bool false) := HF2.out.cell 2 0 rfl rfl
    have g1 : w2.cell? ⟨W.heap.size + 2, 1, none⟩ = some (.slice none 0 0) := HF2.out.cell 2 1 rfl rfl
    have g2 : w2.cell? ⟨W.heap.size + 2, 2, none⟩ = some (.bool false) := HF2.out.cell 2 2 rfl rfl
    have g3 : w2.cell? ⟨W.heap.size + 2, 3, none⟩ = some (.slice none 0 0) := HF2.out.cell 2 3 rfl rfl
    have gf0 : w2.frozen? ⟨W.heap.size + 2, 0, none⟩ = false := HF2.out.frozen 2 0 rfl
    have gf1 : w2.frozen? ⟨W.heap.size + 2, 1, none⟩ = false := HF2.out.frozen 2 1 rfl
    have gf2 : w2.frozen? ⟨W.heap.size + 2, 2, none⟩ = false := HF2.out.frozen 2 2 rfl
    have gf3 : w2.frozen? ⟨W.heap.size + 2, 3, none⟩ = false := HF2.out.frozen 2 3 rfl
    go_wp2
    obtain ⟨e0, e1, e2, e3, k1, k2, hbel⟩ := HF2.out.finK (c1 := 0) (c2 := uc) 2 rfl (Z16.nil _) HZ2.out
    exact bodyPost_ret (v := .agg #[.bool false, .slice none 0 0, .bool s1, .slice uo ul uc]) (by simp [results, Tryz.results52, go_sem, e0, e1, e2, e3]) rfl ⟨false, none, 0, 0, s1, uo, ul, uc, rfl, by omega, by omega, huc, hum, by rw [HX0.out]; exact k1, by rw [HX1.out]; exact k2, hbel⟩
  · obtain ⟨t, ht⟩ : ∃ t, t = x.sign := ⟨_, rfl⟩
    have ht0 : (t == 0) = false := by
      have : x.sign ≠ 0 := fun h => hx (Int.sign_eq_zero_iff_zero.1 h)
      rw [ht]; simp [this]
    obtain ⟨m, hm⟩ : ∃ m, m = x.natAbs := ⟨_, rfl⟩
    obtain ⟨n, hn⟩ : ∃ n, n = y.natAbs := ⟨_, rfl⟩
    have hne := HA_0.out.neg_eq
    have hnb := HB_0.out.neg_eq
    have hP : lowP x y = sgn (na != nb) (m / Nat.gcd m n) := by unfold lowP; rw [← hne, ← hnb, hm, hn]
    have hQ : (lowQ x y : Int) = sgn false (n / Nat.gcd m n) := by unfold lowQ; rw [hm, hn]; rfl
    have hn0 : 0 < n := by omega
    have hgp : 0 < Nat.gcd m n := Nat.gcd_pos_of_pos_right _ hn0
    have hgle : Nat.gcd m n ≤ n := Nat.gcd_le_right m hn0
    have HM : Hid (N16 V ao la m) := by rw [hm]; exact HA_0.out.n16
    have HN : Hid (N16 V bo lb n) := by rw [hn]; exact HB_0.out.n16
    have HP := Lib.hid hP
    have HQ := Lib.hid hQ
    have hglt := Nat.lt_of_le_of_lt hgle HN.out.lt
    have HGL := Lib.hid hglt
    refine (sign16_any _ _ _ _ x V HA_0.out).mono ?_
    rw [← ht]
    rintro e w1 ⟨rfl, hb1⟩
    clear hm hn hne hnb hP hQ hglt ht HA_0 HB_0 hx
    have HF1 := Lib.hid (HF.out.later hb1)
    have HM1 := Lib.hid (HM.out.keep hb1)
    have HN1 := Lib.hid (HN.out.keep hb1)
    clear hb1
    have a1 : w1.cell? ⟨W.heap.size, 1, none⟩ = some (.slice ao la ca) := HF1.out.cell 0 1 rfl rfl
    have a3 : w1.cell? ⟨W.heap.size + 1, 1, none⟩ = some (.slice bo lb cb) := HF1.out.cell 1 1 rfl rfl
    go_wp2_with fail
    refine (gcd16_any _ _ _ _ _ _ m n _ HM1.out HN1.out (by omega) (by omega) hac hacm hbc hbcm).mono ?_
    rintro e w2 ⟨g_o, gl, gc, rfl, hglc, hgcm, hg2, hb2⟩
    have hgl : gl ≤ 1000000 := Nat.le_trans (hg2.len_le HGL.out) hlb
    clear a1 a3
    have HF2 := Lib.hid (HF1.out.later hb2)
    have HM2 := Lib.hid (HM1.out.keep hb2)
    have HN2 := Lib.hid (HN1.out.keep hb2)
    have HG2 := Lib.hid hg2
    clear hb2 hg2
    have a1 : w2.cell? ⟨W.heap.size, 1, none⟩ = some (.slice ao la ca) := HF2.out.cell 0 1 rfl rfl
    have a3 : w2.cell? ⟨W.heap.size + 1, 1, none⟩ = some (.slice bo lb cb) := HF2.out.cell 1 1 rfl rfl
    go_wp2_with fail
    refine (divMod_any _ _ _ _ _ _ m (Nat.gcd m n) _ HM2.out HG2.out hgp (by omega) (by omega)).mono ?_
    rintro e w3 ⟨p_o, pl, pc, z_o, zl, zc, rfl, hpc, hpm, _, _, hp3, _, hb3⟩
    clear a1 a3
    have HF3 := Lib.hid (HF2.out.later hb3)
    have HN3 := Lib.hid (HN2.out.keep hb3)
    have HG3 := Lib.hid (HG2.out.keep hb3)
    have HP3 := Lib.hid hp3
    clear hb3 hp3
    have a1 : w3.cell? ⟨W.heap.size, 1, none⟩ = some (.slice ao la ca) := HF3.out.cell 0 1 rfl rfl
    have a3 : w3.cell? ⟨W.heap.size + 1, 1, none⟩ = some (.slice bo lb cb) := HF3.out.cell 1 1 rfl rfl
    go_wp2_with fail
    refine (divMod_any _ _ _ _ _ _ n (Nat.gcd m n) _ HN3.out HG3.out hgp (by omega) (by omega)).mono ?_
    rintro e w4 ⟨q_o, ql, qc, y_o, yl, yc, rfl, hqc, hqm, _, _, hq4, _, hb4⟩
    clear a1 a3
    have HF4 := Lib.hid (HF3.out.later hb4)
    have HP4 := Lib.hid (HP3.out.keep hb4)
    have HQ4 := Lib.hid hq4
    clear hb4 hq4
    have a0 : w4.cell? ⟨W.heap.size, 0, none⟩ = some (.bool na) := HF4.out.cell 0 0 rfl rfl
    have a2 : w4.cell? ⟨W.heap.size + 1, 0, none⟩ = some (.bool nb) := HF4.out.cell 1 0 rfl rfl
    go_wp2_with fail
    refine (made_any _ _ _ _ _ _ HP4.out hpc hpm).mono ?_
    rintro e w5 ⟨s1, uo, ul, uc, rfl, huc, hum, hz5, hb5⟩
    clear a0 a2
    have HF5 := Lib.hid (HF4.out.later hb5)
    have HZ5 := Lib.hid hz5
    have HQ5 := Lib.hid (HQ4.out.keep hb5)
    clear hz5 hb5
    go_wp2_with fail
    refine (made_any _ _ _ _ _ _ HQ5.out hqc hqm).mono ?_
    rintro e w6 ⟨s2, vo, vl, vc, rfl, hvc, hvm, hz6, hb6⟩
    have HF6 := Lib.hid (HF5.out.later hb6)
    have HZ6 := Lib.hid (HZ5.out.keep hb6)
    have HY6 := Lib.hid hz6
    clear hz6 hb6
    have g0 : w6.cell? ⟨W.heap.size + 2, 0, none⟩ = some (.bool false) := HF6.out.cell 2 0 rfl rfl
    have g1 : w6.cell? ⟨W.heap.size + 2, 1, none⟩ = some (.slice none 0 0) := HF6.out.cell 2 1 rfl rfl
    have g2 : w6.cell? ⟨W.heap.size + 2, 2, none⟩ = some (.bool false) := HF6.out.cell 2 2 rfl rfl
    have g3 : w6.cell? ⟨W.heap.size + 2, 3, none⟩ = some (.slice none 0 0) := HF6.out.cell 2 3 rfl rfl
    have gf0 : w6.frozen? ⟨W.heap.size + 2, 0, none⟩ = false := HF6.out.frozen 2 0 rfl
    have gf1 : w6.frozen? ⟨W.heap.size + 2, 1, none⟩ = false := HF6.out.frozen 2 1 rfl
    have gf2 : w6.frozen? ⟨W.heap.size + 2, 2, none⟩ = false := HF6.out.frozen 2 2 rfl
    have gf3 : w6.frozen? ⟨W.heap.size + 2, 3, none⟩ = false := HF6.out.frozen 2 3 rfl
    go_wp2
    obtain ⟨e0, e1, e2, e3, k1, k2, hbel⟩ := HF6.out.finK (c1 := uc) (c2 := vc) 2 rfl HZ6.out HY6.out
    exact bodyPost_ret (v := .agg #[.bool s1, .slice uo ul uc, .bool s2, .slice vo vl vc]) (by simp [results, Tryz.results52, go_sem, e0, e1, e2, e3]) rfl ⟨s1, uo, ul, uc, s2, vo, vl, vc, rfl, huc, hum, hvc, hvm, by rw [HP.out]; exact k1, by rw [HQ.out]; exact k2, hbel⟩

/-- OutK with a bound for the number of digits -/
def OutKB (W : World) (p : Int) (q : Int) (e : Ending) (w' : World) : Prop :=
  ∃ s1 o1 l1 c1 s2 o2 l2 c2, e = .returned (.agg #[.bool s1, .slice o1 l1 c1, .bool s2, .slice o2 l2 c2]) ∧ l1 ≤ 100000 ∧ l2 ≤ 100000 ∧ l1 ≤ c1 ∧ c1 ≤ 9223372036854775807 ∧ l2 ≤ c2 ∧ c2 ≤ 9223372036854775807 ∧ Z16 w' s1 o1 l1 p ∧ Z16 w' s2 o2 l2 q ∧ Below W.heap.size W w'

theorem low_B (na nb : Bool) (ao bo : Option Addr) (la lb ca cb : Nat) (x y : Int) (W : World) (ha : Z16 W na ao la x) (hb : Z16 W nb bo lb y) (hla : la ≤ 100000) (hlb : lb ≤ 100000) (hac : la ≤ ca) (hacm : ca ≤ 9223372036854775807) (hbc : lb ≤ cb) (hbcm : cb ≤ 9223372036854775807) (hy : y ≠ 0) :
    Calls Tryz.prog 52 #[.agg #[.bool na, .slice ao la ca], .agg #[.bool nb, .slice bo lb cb]] W (OutKB W (lowP x y) (lowQ x y : Int)) := by
  have h1 := ha.n16.lt
  have h2 := hb.n16.lt
  refine (low_any na nb ao bo la lb ca cb x y W ha hb (by omega) (by omega) hac hacm hbc hbcm hy).mono fun e w h => ?_
  obtain ⟨s1, o1, l1, c1, s2, o2, l2, c2, rfl, k1, k2, k3, k4, hz1, hz2, hbel⟩ := h
  refine ⟨s1, o1, l1, c1, s2, o2, l2, c2, rfl, ?_, ?_, k1, k2, k3, k4, hz1, hz2, hbel⟩
  · refine Nat.le_trans (hz1.n16.len_le (Nat.lt_of_le_of_lt ?_ h1)) hla
    unfold lowP; rw [sgn_natAbs]; exact Nat.div_le_self _ _
  · refine Nat.le_trans (hz2.n16.len_le (Nat.lt_of_le_of_lt ?_ h2)) hlb
    rw [Int.natAbs_natCast]; exact Nat.div_le_self _ _
end Go.Proofs.YtcgnmihabkgecaaGreat

/- The specification's operations of fractions. -/
set_option linter.unusedVariables false
namespace Go.Proofs.YtcgnmihabkgecaaGreat
open Go.RowKit Go.Proofs

/-- OutJ with a bound for the number of digits -/
def OutJL (W : World) (z : Int) (L : Nat) (e : Ending) (w' : World) : Prop := ∃ neg ao len cap, e = .returned (.agg #[.bool neg, .slice ao len cap]) ∧ len ≤ L ∧ len ≤ cap ∧ cap ≤ 9223372036854775807 ∧ Z16 w' neg ao len z ∧ Below W.heap.size W w'

theorem OutJ.len {W w' : World} {z : Int} {L : Nat} {e : Ending} (h : OutJ W z e w') (hL : z.natAbs < B16 ^ L) : OutJL W z L e w' := by
  obtain ⟨neg, ao, len, cap, rfl, h1, h2, hz, hb⟩ := h
  exact ⟨neg, ao, len, cap, rfl, hz.n16.len_le hL, h1, h2, hz, hb⟩

theorem mul16_lt {x y : Int} {a b : Nat} (hx : x.natAbs < B16 ^ a) (hy : y.natAbs < B16 ^ b) : (x * y).natAbs < B16 ^ (a + b) := by
  rw [Int.natAbs_mul, Nat.pow_add]
  exact Nat.mul_lt_mul'' hx hy

theorem add16_lt {x y : Int} {a b : Nat} (hx : x.natAbs < B16 ^ a) (hy : y.natAbs < B16 ^ b) : (x + y).natAbs < B16 ^ (a + b + 1) := by
  have h3 : (x + y).natAbs ≤ x.natAbs + y.natAbs := Int.natAbs_add_le x y
  have ha : B16 ^ a ≤ B16 ^ (a + b) := Nat.pow_le_pow_right B16_pos (by omega)
  have hb : B16 ^ b ≤ B16 ^ (a + b) := Nat.pow_le_pow_right B16_pos (by omega)
  rw [Nat.pow_succ, B16_eq] at *
  omega

theorem mulJ_L (na nb : Bool) (ao bo : Option Addr) (la lb ca cb : Nat) (x y : Int) (W : World) (ha : Z16 W na ao la x) (hb : Z16 W nb bo lb y) (hla : la ≤ 1000000) (hlb : lb ≤ 1000000) :
    Calls Tryz.prog 97 #[.agg #[.bool na, .slice ao la ca], .agg #[.bool nb, .slice bo lb cb]] W (OutJL W (x * y) (la + lb)) :=
  (mulZ16_any na nb ao bo la lb ca cb x y W ha hb (by omega) (by omega)).mono fun e w h => h.len (mul16_lt ha.n16.lt hb.n16.lt)
theorem addJ_L (na nb : Bool) (ao bo : Option Addr) (la lb ca cb : Nat) (x y : Int) (W : World) (ha : Z16 W na ao la x) (hb : Z16 W nb bo lb y) (hla : la ≤ 1000000) (hlb : lb ≤ 1000000) :
    Calls Tryz.prog 115 #[.agg #[.bool na, .slice ao la ca], .agg #[.bool nb, .slice bo lb cb]] W (OutJL W (x + y) (la + lb + 1)) :=
  (plus16_any na nb ao bo la lb ca cb x y W ha hb (by omega) (by omega)).mono fun e w h => h.len (add16_lt ha.n16.lt hb.n16.lt)
theorem subJ_L (na nb : Bool) (ao bo : Option Addr) (la lb ca cb : Nat) (x y : Int) (W : World) (ha : Z16 W na ao la x) (hb : Z16 W nb bo lb y) (hla : la ≤ 1000000) (hlb : lb ≤ 1000000) (hlc : lb ≤ cb) (hcm : cb ≤ 9223372036854775807) :
    Calls Tryz.prog 86 #[.agg #[.bool na, .slice ao la ca], .agg #[.bool nb, .slice bo lb cb]] W (OutJL W (x - y) (la + lb + 1)) :=
  (subZ16_any na nb ao bo la lb ca cb x y W ha hb (by omega) (by omega) hlc hcm).mono fun e w h => h.len (by
    rw [Int.sub_eq_add_neg]; exact add16_lt ha.n16.lt (by rw [Int.natAbs_neg]; exact hb.n16.lt))

theorem cell_set4 (w : World) (g b o : Nat) (u v x y : Value) (h : b ≠ g) : ((((w.setCell ⟨g, 0, none⟩ u).setCell ⟨g, 1, none⟩ v).setCell ⟨g, 2, none⟩ x).setCell ⟨g, 3, none⟩ y).cell? ⟨b, o, none⟩ = w.cell? ⟨b, o, none⟩ := by
  have e : ((((w.setCell ⟨g, 0, none⟩ u).setCell ⟨g, 1, none⟩ v).setCell ⟨g, 2, none⟩ x).setCell ⟨g, 3, none⟩ y).heap[b]? = w.heap[b]? := by
    rw [Below.heap_setCell _ _ _ _ h, Below.heap_setCell _ _ _ _ h, Below.heap_setCell _ _ _ _ h, Below.heap_setCell _ _ _ _ h]
  simp only [World.cell?, e]

end Go.Proofs.YtcgnmihabkgecaaGreat

/- The laws' helper same. -/
set_option linter.unusedVariables false
set_option linter.unusedSimpArgs false
namespace Go.Proofs.YtcgnmihabkgecaaGreat
open Go.RowKit Go.Proofs

theorem fits_cast (q : Nat) : Fits (q : Int) ↔ blen q ≤ 16384 := by unfold Fits; rw [Int.natAbs_natCast]

set_option maxHeartbeats 1000000 in
theorem refFitsQ_any (s1 s2 : Bool) (o1 o2 : Option Addr) (l1 l2 c1 c2 : Nat) (p : Int) (q : Nat) (W : World) (h1 : Z16 W s1 o1 l1 p) (h2 : Z16 W s2 o2 l2 (q : Int)) (hl1 : l1 ≤ 1000000) (hl2 : l2 ≤ 1000000) :
    Calls Tryz.prog 41 #[.agg #[.bool s1, .slice o1 l1 c1, .bool s2, .slice o2 l2 c2]] W (fun e w' => ((FitsQ p q ∧ e = .returned (.bool true)) ∨ (¬ FitsQ p q ∧ e = .returned (.bool false))) ∧ Below W.heap.size W w') := by
  have hf : Fr W (W.alloc (.cells #[.bool s1, .slice o1 l1 c1, .bool s2, .slice o2 l2 c2] 35)) [(35, #[.bool s1, .slice o1 l1 c1, .bool s2, .slice o2 l2 c2])] := (Fr.nil W).alloc rfl _ _
  have HF := Lib.hid hf
  have HP := Lib.hid (h1.keep hf.below)
  have HQ := Lib.hid (h2.keep hf.below)
  clear hf h1 h2
  go_enter Tryz.func41, Tryz.ntmps41
  go_wp2_with fail
  refine (fits16_any _ _ _ _ p _ HP.out (by omega)).mono ?_
  rintro e w1 ⟨⟨hfp, rfl⟩ | ⟨hfp, rfl⟩, hb⟩
  · have HF1 := Lib.hid (HF.out.later hb)
    have HQ1 := Lib.hid (HQ.out.keep hb)
    have HFP := Lib.hid hfp
    clear hb hfp
    have c2' : w1.cell? ⟨W.heap.size, 2, none⟩ = some (.bool s2) := HF1.out.cell 0 2 rfl rfl
    have c3' : w1.cell? ⟨W.heap.size, 3, none⟩ = some (.slice o2 l2 c2) := HF1.out.cell 0 3 rfl rfl
    go_wp2_with fail
    refine (fits16_any _ _ _ _ (q : Int) _ HQ1.out (by omega)).mono ?_
    rintro e w2 ⟨⟨hfq, rfl⟩ | ⟨hfq, rfl⟩, hb⟩
    · have HB := Lib.hid (below_then HF1.out.below hb)
      have HFQ := Lib.hid hfq
      clear hb hfq
      go_wp2
      go_ret
      exact ⟨.inl ⟨⟨HFP.out, (fits_cast q).1 HFQ.out⟩, rfl⟩, HB.out⟩
    · have HB := Lib.hid (below_then HF1.out.below hb)
      have HFQ := Lib.hid hfq
      clear hb hfq
      go_wp2
      go_ret
      exact ⟨.inr ⟨fun h => HFQ.out ((fits_cast q).2 h.2), rfl⟩, HB.out⟩
  · have HB := Lib.hid (below_then HF.out.below hb)
    have HFP := Lib.hid hfp
    clear hb hfp
    go_wp2
    go_ret
    exact ⟨.inr ⟨fun h => HFP.out h.1, rfl⟩, HB.out⟩

theorem textQ_zero : textQ 0 1 = [48] := by unfold textQ; rw [if_pos rfl]; rfl

set_option maxHeartbeats 2000000 in
theorem same_any (na s1 s2 : Bool) (ao bo o1 o2 : Option Addr) (la lb l1 l2 ca cb c1 c2 : Nat) (p er P : Int) (q Q : Nat) (W : World) (hf0 : Q32 W na ao la bo lb P Q) (hla : la ≤ 512) (hlb : lb ≤ 512) (h1 : Z16 W s1 o1 l1 p) (h2 : Z16 W s2 o2 l2 (q : Int)) (hl1 : l1 ≤ 1000000) (hl2 : l2 ≤ 1000000) (ht : ToldQ p q er P Q) :
    Calls Tryz.prog 11 #[.agg #[.bool na, .slice ao la ca, .slice bo lb cb], .int .i64 er, .agg #[.bool s1, .slice o1 l1 c1, .bool s2, .slice o2 l2 c2]] W (fun e w' => e = .returned (.bool true) ∧ Below W.heap.size W w') := by
  have hf : Fr W ((W.alloc (.cells #[.bool na, .slice ao la ca, .slice bo lb cb] 27)).alloc (.cells #[.bool s1, .slice o1 l1 c1, .bool s2, .slice o2 l2 c2] 35))
      [(27, #[.bool na, .slice ao la ca, .slice bo lb cb]), (35, #[.bool s1, .slice o1 l1 c1, .bool s2, .slice o2 l2 c2])] := ((Fr.nil W).alloc rfl _ _).alloc (by simp) _ _
  have HF := Lib.hid hf
  have HX := Lib.hid (hf0.keep hf.below)
  have HP := Lib.hid (h1.keep hf.below)
  have HQ := Lib.hid (h2.keep hf.below)
  clear hf h1 h2 hf0
  rcases ht with ⟨hfit, rfl, rfl, rfl⟩ | ⟨hfit, rfl, rfl, rfl⟩
  · have HFIT := Lib.hid hfit
    clear hfit
    go_enter Tryz.func11, Tryz.ntmps11
    go_wp2_with fail
    refine ((refFitsQ_any _ _ _ _ _ _ _ _ P Q _ HP.out HQ.out hl1 hl2).mono fun e w h => (⟨(h.1.resolve_right fun k => k.1 HFIT.out).2, h.2⟩ : e = .returned (.bool true) ∧ _)).mono ?_
    rintro e w1 ⟨rfl, hb⟩
    have HF1 := Lib.hid (HF.out.later hb)
    have HX1 := Lib.hid (HX.out.keep hb)
    have HP1 := Lib.hid (HP.out.keep hb)
    have HQ1 := Lib.hid (HQ.out.keep hb)
    clear hb
    have qq0 : w1.cell? ⟨W.heap.size, 0, none⟩ = some (.bool na) := HF1.out.cell 0 0 rfl rfl
    have qq1 : w1.cell? ⟨W.heap.size, 1, none⟩ = some (.slice ao la ca) := HF1.out.cell 0 1 rfl rfl
    have qq2 : w1.cell? ⟨W.heap.size, 2, none⟩ = some (.slice bo lb cb) := HF1.out.cell 0 2 rfl rfl
    have qq3 : w1.cell? ⟨W.heap.size + 1, 0, none⟩ = some (.bool s1) := HF1.out.cell 1 0 rfl rfl
    have qq4 : w1.cell? ⟨W.heap.size + 1, 1, none⟩ = some (.slice o1 l1 c1) := HF1.out.cell 1 1 rfl rfl
    have qq5 : w1.cell? ⟨W.heap.size + 1, 2, none⟩ = some (.bool s2) := HF1.out.cell 1 2 rfl rfl
    have qq6 : w1.cell? ⟨W.heap.size + 1, 3, none⟩ = some (.slice o2 l2 c2) := HF1.out.cell 1 3 rfl rfl
    go_wp2_with fail
    go_region_held3 (fun w' => w'.cell? ⟨W.heap.size, 0, none⟩ = some (.bool na) ∧ w'.cell? ⟨W.heap.size, 1, none⟩ = some (.slice ao la ca) ∧ w'.cell? ⟨W.heap.size, 2, none⟩ = some (.slice bo lb cb) ∧ w'.cell? ⟨W.heap.size + 1, 0, none⟩ = some (.bool s1) ∧ w'.cell? ⟨W.heap.size + 1, 1, none⟩ = some (.slice o1 l1 c1) ∧ w'.cell? ⟨W.heap.size + 1, 2, none⟩ = some (.bool s2) ∧ w'.cell? ⟨W.heap.size + 1, 3, none⟩ = some (.slice o2 l2 c2)) (go_keep)
      (first | (go_at_call 42; refine (text16Q_any _ _ _ _ _ _ _ _ P Q _ HPr0.out HQr0.out (by omega) (by omega)).mono ?_; rintro e rw1 ⟨rfl, hb⟩; have hbb := hb; have FPr1 := Lib.hid (FPr0.out.later hbb); have HXr1 := Lib.hid (HXr0.out.keep hbb); have HPr1 := Lib.hid (HPr0.out.keep hbb); have HQr1 := Lib.hid (HQr0.out.keep hbb); clear hb hbb; have r1c0 : rw1.cell? ⟨W.heap.size, 0, none⟩ = some (.bool na) := FPr1.out.cell 0 0 rfl rfl; have r1c1 : rw1.cell? ⟨W.heap.size, 1, none⟩ = some (.slice ao la ca) := FPr1.out.cell 0 1 rfl rfl; have r1c2 : rw1.cell? ⟨W.heap.size, 2, none⟩ = some (.slice bo lb cb) := FPr1.out.cell 0 2 rfl rfl; have r1c3 : rw1.cell? ⟨W.heap.size + 1, 0, none⟩ = some (.bool s1) := FPr1.out.cell 1 0 rfl rfl; have r1c4 : rw1.cell? ⟨W.heap.size + 1, 1, none⟩ = some (.slice o1 l1 c1) := FPr1.out.cell 1 1 rfl rfl; have r1c5 : rw1.cell? ⟨W.heap.size + 1, 2, none⟩ = some (.bool s2) := FPr1.out.cell 1 2 rfl rfl; have r1c6 : rw1.cell? ⟨W.heap.size + 1, 3, none⟩ = some (.slice o2 l2 c2) := FPr1.out.cell 1 3 rfl rfl) | (go_at_call 10; refine (ratString_any _ _ _ _ _ _ _ P Q w1.drew (HX1.out.keep (Below.refl _ _).drew) (by omega) (by omega)).mono ?_; rintro e rw0 ⟨rfl, hb⟩; have hbb := below_of_drew hb; have FPr0 := Lib.hid (HF1.out.later hbb); have HXr0 := Lib.hid (HX1.out.keep hbb); have HPr0 := Lib.hid (HP1.out.keep hbb); have HQr0 := Lib.hid (HQ1.out.keep hbb); clear hb hbb; have r0c0 : rw0.cell? ⟨W.heap.size, 0, none⟩ = some (.bool na) := FPr0.out.cell 0 0 rfl rfl; have r0c1 : rw0.cell? ⟨W.heap.size, 1, none⟩ = some (.slice ao la ca) := FPr0.out.cell 0 1 rfl rfl; have r0c2 : rw0.cell? ⟨W.heap.size, 2, none⟩ = some (.slice bo lb cb) := FPr0.out.cell 0 2 rfl rfl; have r0c3 : rw0.cell? ⟨W.heap.size + 1, 0, none⟩ = some (.bool s1) := FPr0.out.cell 1 0 rfl rfl; have r0c4 : rw0.cell? ⟨W.heap.size + 1, 1, none⟩ = some (.slice o1 l1 c1) := FPr0.out.cell 1 1 rfl rfl; have r0c5 : rw0.cell? ⟨W.heap.size + 1, 2, none⟩ = some (.bool s2) := FPr0.out.cell 1 2 rfl rfl; have r0c6 : rw0.cell? ⟨W.heap.size + 1, 3, none⟩ = some (.slice o2 l2 c2) := FPr0.out.cell 1 3 rfl rfl))
    go_wp2
    go_ret
    exact ⟨rfl, FPr1.out.below⟩
  · have HFIT := Lib.hid hfit
    clear hfit
    go_enter Tryz.func11, Tryz.ntmps11
    go_wp2_with fail
    refine ((refFitsQ_any _ _ _ _ _ _ _ _ p q _ HP.out HQ.out hl1 hl2).mono fun e w h => (⟨(h.1.resolve_left fun k => HFIT.out k.1).2, h.2⟩ : e = .returned (.bool false) ∧ _)).mono ?_
    rintro e w1 ⟨rfl, hb⟩
    have HF1 := Lib.hid (HF.out.later hb)
    have HX1 := Lib.hid (HX.out.keep hb)
    clear hb
    have c0 : w1.cell? ⟨W.heap.size, 0, none⟩ = some (.bool na) := HF1.out.cell 0 0 rfl rfl
    have c1' : w1.cell? ⟨W.heap.size, 1, none⟩ = some (.slice ao la ca) := HF1.out.cell 0 1 rfl rfl
    have c2' : w1.cell? ⟨W.heap.size, 2, none⟩ = some (.slice bo lb cb) := HF1.out.cell 0 2 rfl rfl
    go_wp2_with fail
    refine ((ratString_any _ _ _ _ _ _ _ 0 1 _ HX1.out (by omega) (by omega)).mono fun e w h => (textQ_zero ▸ h : StrPost [48] w1 e w)).mono ?_
    rintro e w2 ⟨rfl, hb⟩
    have HB := Lib.hid (below_then HF1.out.below hb)
    clear hb
    go_wp2
    go_ret
    exact ⟨rfl, HB.out⟩
end Go.Proofs.YtcgnmihabkgecaaGreat
