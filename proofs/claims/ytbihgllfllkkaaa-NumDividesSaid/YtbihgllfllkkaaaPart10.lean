/- Part 10 of the contracts: RefW, RefDiv, DivL. -/
import Derived.Deep.RegionHeld3
import Derived.IntWalk
import Derived.StillTailTactics
import Derived.Deep.Cut
import Derived.Test.YtbihgllfllkkaaaPart9

/- The specification's divMod. -/
set_option linter.unusedVariables false
namespace Go.Proofs.Ytbihgllfllkkaaa
open Go.RowKit

/-- Out16, in new memory -/
def Out16N (w : World) (n : Nat) (e : Ending) (w' : World) : Prop := ∃ ao len cap, e = .returned (.slice ao len cap) ∧ len ≤ cap ∧ cap ≤ 9223372036854775807 ∧ N16 w' ao len n ∧ Below w.heap.size w w' ∧ (0 < len → ∃ g, ao = some ⟨g, 0, none⟩ ∧ w.heap.size ≤ g)

theorem Own.loc {k : IntKind} {w : World} {base e n : Nat} {v : Value} {xs : List Nat} (h : Own k w base e v n xs) : ∀ ao cap, v = .slice ao n cap → 0 < n → ∃ g, ao = some ⟨g, 0, none⟩ ∧ base ≤ g := by
  intro ao cap hv hn
  rcases h.cases with ⟨_, h0, _⟩ | ⟨g, cap', h1, h2, _⟩
  · omega
  · rw [hv] at h1
    cases h1
    exact ⟨g, rfl, h2⟩

theorem N16.setOther {w : World} {ao : Option Addr} {len n q i : Nat} {u : Value} (h : N16 w ao len n) (hl : 0 < len → ∃ g, ao = some ⟨g, 0, none⟩ ∧ g ≠ q) : N16 (w.setCell ⟨q, i, none⟩ u) ao len n := by
  obtain ⟨xs, ⟨hx, b, off, h0, hc⟩, h2⟩ := h
  refine ⟨xs, ⟨hx, b, off, h0, fun j hj => ?_⟩, h2⟩
  obtain ⟨g, hg, hne⟩ := hl (by omega)
  have h1 := h0 (by omega)
  rw [hg] at h1
  cases h1
  rw [← hc j hj]
  exact World.cell?_of_block (a := ⟨_, 0 + j, none⟩) (Below.heap_setCell _ _ _ _ hne)

set_option maxHeartbeats 1000000 in
theorem sub16_new (ao bo : Option Addr) (la lb ca cb : Nat) (m n : Nat) (W : World) (ha : N16 W ao la m) (hb : N16 W bo lb n) (hla : la ≤ 1000000000) (hnm : n ≤ m) :
    Calls Try.prog 45 #[.slice ao la ca, .slice bo lb cb] W (Out16N W (m - n)) := by
  obtain ⟨xa, ha, hda, hta, hva⟩ := ha
  obtain ⟨xb, hb, hdb, htb, hvb⟩ := hb
  have HA := Lib.hid ha
  have HB := Lib.hid hb
  have HDA := Lib.hid hda
  have HDB := Lib.hid hdb
  have HTB := Lib.hid htb
  have HVA := Lib.hid hva
  have HVB := Lib.hid hvb
  have HNM := Lib.hid hnm
  clear ha hb hda hdb hta htb hva hvb hnm
  go_enter Try.func45, Try.ntmps45
  go_wp2
  go_loopw [5, 6, 7] (fun ov cv iv wr => Sub16Rel la xa xb W ov cv iv wr) (fun ov cv iv _ => la - (intOf iv).toNat)
  case atStart => exact ⟨0, 0, [], rfl, rfl, Own.nil _ _ _ _, Dig.nil _, by omega, by omega, by simp [val], Below.refl _ _⟩
  case round =>
    obtain ⟨c, i, zs, rfl, rfl, hown, hd, hc, hi, hv, hbel⟩ := hrel
    have GO := Lib.hid hown
    have GD := Lib.hid hd
    have GV := Lib.hid hv
    have GW := Lib.hid hbel
    clear hown hd hv hbel
    by_cases hil : i = la
    · subst hil
      have hloc := GO.out.loc
      obtain ⟨oo, cap, rfl, hlc, hcm, hsl⟩ := GO.out.sl
      have HS := Lib.hid hsl
      have HLOC := Lib.hid (hloc oo cap rfl)
      clear hsl hloc
      go_wp2_with fail
      refine (trim16_raw _ _ _ zs _ HS.out hlc hcm).mono ?_
      rintro e w1 ⟨⟨ao', k, rfl, hk, ha', ht, hz⟩, rfl⟩
      have HT := Lib.hid ht
      have HZ := Lib.hid hz
      have HAA := Lib.hid ha'
      clear ht hz ha'
      go_wp2
      go_ret
      exact ⟨ao', k, cap, rfl, by omega, hcm, ⟨zs.take k, trim_sl HS.out hk HAA.out, GD.out.take _, HT.out, by rw [val_take_of_zeros HZ.out]; exact sub16_end HA.out.len GO.out.len GD.out HDB.out HTB.out HDA.out HVA.out HVB.out HNM.out GV.out⟩, GW.out, fun hk0 => by
        obtain ⟨g', hg1, hg2⟩ := HLOC.out (by omega)
        exact ⟨g', (HAA.out hk0).trans hg1, hg2⟩⟩
    · have t1 : (i : Int) < (la : Int) := by omega
      have t0 : (0 : Int) ≤ (i : Int) := by omega
      have hx := HDA.out.get B16_pos i
      have hy := HDB.out.get B16_pos i
      obtain ⟨x, hxe⟩ : ∃ x, x = xa[i]?.getD 0 := ⟨_, rfl⟩
      obtain ⟨y, hye⟩ : ∃ x, x = xb[i]?.getD 0 := ⟨_, rfl⟩
      rw [← hxe] at hx
      rw [← hye] at hy
      rw [B16_eq] at hx hy
      obtain ⟨hxl, b, off, h0, hcc⟩ := HA.out.keep GW.out
      obtain rfl := h0 (by omega)
      have hci := hcc i (by omega)
      rw [← hxe] at hci
      have HX := Lib.hid hxe
      have HY := Lib.hid hye
      have HBr := Lib.hid (HB.out.keep GW.out)
      clear hxe hye hxl h0 hcc
      by_cases hlt : x < y + c
      · have t2 : (x : Int) - (y : Int) - (c : Int) < 0 := by omega
        go_wp2_with fail
        go_quiet ((go_at_call 78; exact at_quiet _ _ _ xb _ i y _ _ HBr.out rfl HY.out))
        go_wp2_with (at_builtin; refine wpList_app rfl _ _ 25 rfl W.heap.size 3 .i64 8 Try.underlying25 (by kernel_rfl) _ i zs rfl GO.out _ (x + 65536 - y - c) rfl (by omega) (by omega) (by omega) GW.out.size ?_; intro v' w2 hown' hbel')
        go_roundw
        case rel => exact sub16_rel 1 GO.out.len GD.out (by omega) HX.out HY.out (by rw [B16_eq]; omega) (by omega) (by rw [B16_eq]; omega) GV.out GW.out hown' ((below_drewN1 (Below.refl _ _) _).trans hbel') _ _ rfl rfl
        case measure => simp only [intOf]; omega
      · have t2 : ¬ (x : Int) - (y : Int) - (c : Int) < 0 := by omega
        go_wp2_with fail
        go_quiet ((go_at_call 78; exact at_quiet _ _ _ xb _ i y _ _ HBr.out rfl HY.out))
        go_wp2_with (at_builtin; refine wpList_app rfl _ _ 25 rfl W.heap.size 3 .i64 8 Try.underlying25 (by kernel_rfl) _ i zs rfl GO.out _ (x - y - c) rfl (by omega) (by omega) (by omega) GW.out.size ?_; intro v' w2 hown' hbel')
        go_roundw
        case rel => exact sub16_rel 0 GO.out.len GD.out (by omega) HX.out HY.out (by rw [B16_eq]; omega) (by omega) (by rw [B16_eq]; omega) GV.out GW.out hown' ((below_drewN1 (Below.refl _ _) _).trans hbel') _ _ rfl rfl
        case measure => simp only [intOf]; omega

theorem dm_bit {A i : Nat} : A / 2 ^ i = 2 * (A / 2 ^ (i + 1)) + A / 2 ^ i % 2 := by
  rw [Nat.pow_succ, ← Nat.div_div_eq_div_mul]
  omega

theorem dm_digit {qs : List Nat} (hd : Dig B16 qs) (i Q : Nat) (h : val B16 qs = 2 ^ (i + 1) * Q) (hj : i / 16 < qs.length) : qs[i / 16]?.getD 0 + 2 ^ (i % 16) < 65536 := by
  have hx := hd.get B16_pos (i / 16)
  have e : i = 16 * (i / 16) + i % 16 := (Nat.div_add_mod i 16).symm
  have hlt : i % 16 < 16 := Nat.mod_lt _ (by decide)
  have h1 : val B16 qs / B16 ^ (i / 16) = qs[i / 16]?.getD 0 + B16 * val B16 (qs.drop (i / 16 + 1)) := by
    rw [val_split B16 qs (i / 16) (by omega), Nat.add_mul_div_left _ _ (Nat.pow_pos B16_pos), Nat.div_eq_of_lt, Nat.zero_add, drop_eq_cons qs _ hj, val_cons]
    have := val_lt B16_pos (hd.take (i / 16))
    rwa [List.length_take, Nat.min_eq_left (by omega)] at this
  have h2 : val B16 qs / B16 ^ (i / 16) = 2 ^ (i % 16 + 1) * Q := by
    rw [h, B16_pow]
    conv => lhs; rw [show i + 1 = 16 * (i / 16) + (i % 16 + 1) by omega]
    rw [Nat.pow_add, Nat.mul_assoc, Nat.mul_div_cancel_left _ (Nat.pow_pos (by decide))]
  rw [h1] at h2
  generalize i % 16 = t at *
  generalize qs[i / 16]?.getD 0 = x at *
  have h3 : B16 = 2 ^ (t + 1) * 2 ^ (15 - t) := by rw [← Nat.pow_add, show t + 1 + (15 - t) = 16 by omega]; rfl
  -- x is a multiple of 2^(t+1)
  have h4 : x % 2 ^ (t + 1) = 0 := by
    have : (x + 2 ^ (t + 1) * (2 ^ (15 - t) * val B16 (qs.drop (i / 16 + 1)))) % 2 ^ (t + 1) = 0 := by
      rw [← Nat.mul_assoc, ← h3, h2]; exact Nat.mul_mod_right _ _
    rwa [Nat.add_mul_mod_self_left] at this
  obtain ⟨y, hy⟩ := Nat.dvd_of_mod_eq_zero h4
  have h5 : 2 ^ (t + 1) * y < 2 ^ (t + 1) * 2 ^ (15 - t) := by rw [← h3, ← hy]; exact hx
  have h6 := Nat.lt_of_mul_lt_mul_left h5
  have h7 : 2 ^ (t + 1) * (y + 1) ≤ 2 ^ (t + 1) * 2 ^ (15 - t) := Nat.mul_le_mul_left _ h6
  rw [← h3, B16_eq, Nat.mul_add, Nat.mul_one, ← hy] at h7
  have h8 : 0 < 2 ^ t := Nat.pow_pos (by decide)
  rw [Nat.pow_succ] at h7
  omega

theorem dm_set {qs : List Nat} (i : Nat) (hj : i / 16 < qs.length) : val B16 (qs.set (i / 16) (qs[i / 16]?.getD 0 + 2 ^ (i % 16))) = val B16 qs + 2 ^ i := by
  have h := val_set B16 qs (i / 16) (qs[i / 16]?.getD 0 + 2 ^ (i % 16)) hj
  have e : 2 ^ i = B16 ^ (i / 16) * 2 ^ (i % 16) := by rw [B16_pow, ← Nat.pow_add, Nat.div_add_mod]
  rw [Nat.mul_add] at h
  omega

theorem dm_less {A D Q R b i : Nat} (h : A / 2 ^ i = 2 * (A / 2 ^ (i + 1)) + A / 2 ^ i % 2) (hg : A / 2 ^ (i + 1) = D * Q + R) (hb : b = A / 2 ^ i % 2) : A / 2 ^ i = D * (2 * Q) + (2 * R + b) := by
  rw [hg, ← hb] at h
  rw [h, Nat.mul_left_comm D 2 Q]
  omega

theorem dm_more {A D Q R b i : Nat} (h : A / 2 ^ i = 2 * (A / 2 ^ (i + 1)) + A / 2 ^ i % 2) (hg : A / 2 ^ (i + 1) = D * Q + R) (hb : b = A / 2 ^ i % 2) (hl : ¬ 2 * R + b < D) : A / 2 ^ i = D * (2 * Q + 1) + (2 * R + b - D) := by
  rw [dm_less h hg hb, Nat.mul_add]
  omega

def DmRel (la lb A D : Nat) (W : World) (rv iv : Value) (wr : World) : Prop :=
  ∃ (k R Q : Nat) (qs : List Nat) (ro : Option Addr) (rl rc : Nat), iv = .int .i64 ((k : Int) - 1) ∧ rv = .slice ro rl rc ∧ N16 wr ro rl R ∧ R < D ∧ A / 2 ^ k = D * Q + R ∧ Blk .i64 wr W.heap.size 3 qs ∧ qs.length = la ∧ Dig B16 qs ∧ val B16 qs = 2 ^ k * Q ∧ k ≤ 16 * la ∧ rl ≤ rc ∧ rc ≤ 9223372036854775807 ∧ Below W.heap.size W wr

def DmPost (A D : Nat) (W : World) (e : Ending) (w' : World) : Prop :=
  ∃ qo ql qc ro rl rc, e = .returned (.tuple #[.slice qo ql qc, .slice ro rl rc]) ∧ ql ≤ qc ∧ qc ≤ 9223372036854775807 ∧ rl ≤ rc ∧ rc ≤ 9223372036854775807 ∧ N16 w' qo ql (A / D) ∧ N16 w' ro rl (A % D) ∧ Below W.heap.size W w'

set_option maxRecDepth 8000 in
set_option maxHeartbeats 2000000 in
theorem divMod_any (ao bo : Option Addr) (la lb ca cb A D : Nat) (W : World) (ha : N16 W ao la A) (hb : N16 W bo lb D) (hD : 0 < D) (hla : la ≤ 100000000) (hlb : lb ≤ 100000000) :
    Calls Try.prog 42 #[.slice ao la ca, .slice bo lb cb] W (DmPost A D W) := by
  have HA := Lib.hid ha
  have HB := Lib.hid hb
  have HDL := Lib.hid hb.lt
  have hk : blen A ≤ 16 * la := by
    have h := ha.lt
    rw [B16_pow] at h
    exact blen_le.2 h
  have HBL := Lib.hid (blen_lt A)
  clear ha hb
  go_enter Try.func42, Try.ntmps42
  go_wp2_with (at_make; refine wpList_mk rfl _ 25 rfl 3 .i64 8 Try.underlying25 (by kernel_rfl) _ la rfl rfl (by omega) (by omega) ?_; intro w1 hB1 hb1 hz1)
  refine (bitLen16_raw _ _ _ _ _ (HA.out.keep hb1) (by omega)).mono ?_
  rintro e w2 ⟨rfl, hw⟩
  obtain rfl : w1 = w2 := hw
  obtain ⟨k0, hk0⟩ : ∃ k, k = blen A := ⟨_, rfl⟩
  rw [← hk0] at hk ⊢
  have HK0 := Lib.hid hk0
  clear hk0
  go_wp2
  go_loopw [7, 8] (fun rv iv wr => DmRel la lb A D W rv iv wr) (fun rv iv _ => (intOf iv + 1).toNat)
  case atStart =>
    refine ⟨k0, 0, 0, _, none, 0, 0, rfl, rfl, N16.nil _ _, hD, ?_, hB1, by simp, Dig.replicate B16_pos _, by rw [val_replicate]; simp, hk, by omega, by omega, hb1⟩
    rw [HK0.out, Nat.div_eq_of_lt HBL.out]; simp
  case round =>
    obtain ⟨k, R, Q, qs, ro, rl, rc, rfl, rfl, hr, hR, hdiv, hq, hql, hqd, hqv, hk2, hlc, hcm, hbel⟩ := hrel
    have GR := Lib.hid hr
    have GD := Lib.hid hdiv
    have GQ := Lib.hid hq
    have GL := Lib.hid hql
    have GQD := Lib.hid hqd
    have GV := Lib.hid hqv
    have GW := Lib.hid hbel
    have GRD := Lib.hid hR
    have hrl : rl ≤ lb := hr.len_le (Nat.lt_trans hR HDL.out)
    clear hr hdiv hq hql hqd hqv hbel hR
    by_cases hk00 : k = 0
    · subst hk00
      have HSQ := Lib.hid (GQ.out.whole GL.out)
      go_wp2_with fail
      refine (trim16_raw _ _ _ _ _ HSQ.out (by omega) (by omega)).mono ?_
      rintro e w3 ⟨⟨ao', m, rfl, hm, ha', ht, hzz⟩, hw⟩
      obtain rfl : wr = w3 := hw
      have HT := Lib.hid ht
      have HZ := Lib.hid hzz
      have HAA := Lib.hid ha'
      clear ht hzz ha'
      go_wp2
      go_ret2
      have hd := GD.out
      have hv := GV.out
      simp only [Nat.pow_zero, Nat.div_one, Nat.one_mul] at hd hv
      have e1 : A / D = Q := by rw [hd, Nat.mul_add_div hD, Nat.div_eq_of_lt GRD.out, Nat.add_zero]
      have e2 : A % D = R := by rw [hd, Nat.mul_add_mod, Nat.mod_eq_of_lt GRD.out]
      refine ⟨ao', m, la, ro, rl, rc, rfl, hm, by omega, hlc, hcm, ⟨qs.take m, trim_sl HSQ.out hm HAA.out, GQD.out.take _, HT.out, by rw [val_take_of_zeros HZ.out, hv, e1]⟩, by rw [e2]; exact GR.out, GW.out⟩
    · obtain ⟨i, rfl⟩ : ∃ i, k = i + 1 := ⟨k - 1, by omega⟩
      have e1 : (((i + 1 : Nat) : Int) - 1) = (i : Int) := by omega
      rw [e1]
      clear e1 hk00
      have b0 : (0 : Int) ≤ (i : Int) := by omega
      go_wp2_with fail
      refine (shl1_any _ _ _ R wr GR.out (by omega)).mono ?_
      rintro e w3 ⟨so, sl, sc, rfl, hslc, hscm, hs, hb3⟩
      have HS := Lib.hid hs
      have HB3 := Lib.hid hb3
      have hsl : sl ≤ lb + 1 := by
        refine hs.len_le ?_
        have h1 := HDL.out
        have h2 := GRD.out
        rw [Nat.pow_succ, B16_eq]
        rw [B16_eq] at h1
        generalize 65536 ^ lb = p at *
        omega
      clear hs hb3
      go_wp2_with fail
      refine (bit_any _ _ _ A i _ _ ((HA.out.keep GW.out).keep HB3.out) rfl (by omega) (by omega)).mono ?_
      rintro e w4 ⟨rfl, mm, hw4⟩
      obtain ⟨b, hbe⟩ : ∃ b, b = A / 2 ^ i % 2 := ⟨_, rfl⟩
      have hb2 : b < 2 := by rw [hbe]; exact Nat.mod_lt _ (by decide)
      rw [← hbe]
      have HBE := Lib.hid hbe
      have HS4 : Hid (N16 w4 so sl (2 * R)) := by rw [hw4]; exact HS.out.keep (below_drewN1 (Below.refl _ _) mm)
      have HB4 : Hid (Below wr.heap.size wr w4) := by rw [hw4]; exact below_drewN1 HB3.out mm
      clear hw4 hbe
      have hbb : b = 0 ∨ b = 1 := by omega
      rcases hbb with hbv | hbv
      · have tb : ¬ (b : Int) = 1 := by omega
        have HS5 : Hid (N16 w4 so sl (2 * R + b)) := by rw [hbv]; exact HS4.out
        have HQ5 := Lib.hid (GQ.out.below HB4.out GQ.out.lt)
        have HW5 := Lib.hid (GW.out.trans (HB4.out.mono GW.out.size))
        go_wp2_with fail
        refine (cmp16_any _ _ _ _ _ _ (2 * R + b) D _ HS5.out (HB.out.keep HW5.out) (by omega) (by omega)).mono ?_
        rintro e w7 ⟨rfl, hd7⟩
        have HQ7 : Hid (Blk .i64 w7 W.heap.size 3 qs) := HQ5.out.of_block (by obtain ⟨_, rfl⟩ := hd7; rfl)
        have HW7 := Lib.hid (HW5.out.trans hd7.below)
        have HS7 := Lib.hid (HS5.out.keep hd7.below)
        clear hd7
        have HDB := Lib.hid (dm_bit (A := A) (i := i))
        by_cases hlt : 2 * R + b < D
        · rw [cmpN_lt hlt]
          go_wp2
          refine ⟨⟨i, 2 * R + b, 2 * Q, qs, so, sl, sc, rfl, rfl, HS7.out, hlt, dm_less HDB.out GD.out HBE.out, HQ7.out, GL.out, GQD.out, by rw [GV.out, Nat.pow_succ, Nat.mul_assoc], by omega, by omega, by omega, HW7.out⟩, by simp only [intOf]; omega⟩
        · obtain ⟨cc, hcc⟩ : ∃ c, c = cmpN (2 * R + b) D := ⟨_, rfl⟩
          have hc0 : 0 ≤ cc := by
            rw [hcc]; unfold cmpN; rw [if_neg hlt]; split <;> decide
          rw [← hcc]
          clear hcc
          go_wp2_with fail
          refine (sub16_new _ _ _ _ _ _ (2 * R + b) D _ HS7.out (HB.out.keep HW7.out) (by omega) (by omega)).mono ?_
          rintro e w8 ⟨xo, xl, xc, rfl, hxlc, hxcm, hx, hb8, hloc⟩
          have HX := Lib.hid hx
          have HLOC := Lib.hid hloc
          have HW8 := Lib.hid (HW7.out.trans (hb8.mono HW7.out.size))
          have HQ8 := Lib.hid (HQ7.out.below hb8 HQ7.out.lt)
          have HNE : Hid (0 < xl → ∃ g, xo = some ⟨g, 0, none⟩ ∧ g ≠ W.heap.size) := fun h => by
            obtain ⟨g, h1, h2⟩ := hloc h
            have h3 := HQ7.out.lt
            exact ⟨g, h1, by omega⟩
          clear hx hloc hb8
          obtain ⟨j, hj⟩ : ∃ j, j = i / 16 := ⟨_, rfl⟩
          obtain ⟨t, htt⟩ : ∃ t, t = i % 16 := ⟨_, rfl⟩
          have hjla : j < la := by omega
          have ht16 : t ≤ 16 := by omega
          have hxp := dm_digit GQD.out i Q GV.out (by rw [GL.out, ← hj]; exact hjla)
          have HSET := Lib.hid (dm_set i (by rw [GL.out, ← hj]; exact hjla) (qs := qs))
          rw [← hj, ← htt] at hxp HSET
          have c1 := HQ8.out.cell j (by rw [GL.out]; exact hjla)
          have fz1 := HQ8.out.frozen j
          obtain ⟨x, hxe⟩ : ∃ x, x = qs[j]?.getD 0 := ⟨_, rfl⟩
          obtain ⟨p, hp⟩ : ∃ p, p = 2 ^ t := ⟨_, rfl⟩
          rw [← hxe, ← hp] at hxp HSET
          rw [← hxe] at c1
          have HP := Lib.hid hp
          have e1 : (i : Int) / 16 = (j : Int) := by omega
          have e2 : (i : Int) % 16 = (t : Int) := by omega
          have e3 : (i : Int).tmod 16 = (t : Int) := by rw [Int.tmod_eq_emod_of_nonneg (Int.natCast_nonneg _)]; exact e2
          have e4 : (i : Int).tdiv 16 = (j : Int) := by rw [Int.tdiv_eq_ediv_of_nonneg (Int.natCast_nonneg _)]; exact e1
          have b2 : (j : Int) < (la : Int) := by omega
          have b3 : (0 : Int) ≤ (j : Int) := by omega
          clear hxe hp hj htt
          have q1 : IntKind.i64.wrap (j : Int) = (j : Int) := IntWalk.i64_in _ (by omega)
          have q2 : IntKind.i64.wrap (t : Int) = (t : Int) := IntWalk.i64_in _ (by omega)
          have q3 : IntKind.i64.wrap ((x : Int) + (p : Int)) = (x : Int) + (p : Int) := IntWalk.i64_in _ (by omega)
          go_upto_region 11 with fail
          go_still_tail 10, (by kernel_rfl)
          still_call (show Calls _ _ _ _ (fun e w'' => e = .returned (.int .i64 (p : Int)) ∧ w'' = _) from (power_any _ t _ (by first | rfl | exact e2 | exact e3) ht16).mono fun e w h => ⟨by rw [h.1, ← HP.out], h.2.symm⟩)
          repeat still_step
          refine wpStill_nil ?_
          have HQ9 : Hid (Blk .i64 w8.drew W.heap.size 3 qs) := HQ8.out
          have HX9 : Hid (N16 w8.drew xo xl (2 * R + b - D)) := HX.out.keep (Below.refl _ _).drew
          have HW9 : Hid (Below W.heap.size W w8.drew) := below_drewN1 HW8.out 1
          have c9 : w8.drew.cell? ⟨W.heap.size, j, none⟩ = some (.int .i64 (x : Int)) := c1
          have fz9 : w8.drew.frozen? ⟨W.heap.size, j, none⟩ = false := fz1
          change wpList _ _ _ _ _ w8.drew
          generalize w8.drew = w9 at HQ9 HX9 HW9 c9 fz9 ⊢
          clear c1 fz1
          go_wp2_with fail
          refine ⟨⟨i, 2 * R + b - D, 2 * Q + 1, qs.set j (x + p), xo, xl, xc, rfl, rfl, HX9.out.setOther HNE.out, by have := GRD.out; omega, dm_more HDB.out GD.out HBE.out hlt, HQ9.out.set _ _ _ (Int.natCast_add _ _).symm, by rw [List.length_set]; exact GL.out, GQD.out.set _ (by rw [B16_eq]; exact hxp), ?_, by omega, hxlc, hxcm, HW9.out.setCell (Nat.le_refl _) _⟩, by simp only [intOf]; omega⟩
          rw [HSET.out, GV.out, Nat.pow_succ]
          generalize 2 ^ i = u
          grind
      · have tb : (b : Int) = 1 := by omega
        go_wp2_with fail
        refine (of_any 1 1 _ rfl (by omega)).mono ?_
        rintro e w5 ⟨no, nl, nc, rfl, hnlc, hncm, hn1, hb5⟩
        have hnl : nl ≤ 1 := hn1.len_le (by rw [B16_eq]; decide)
        have HN1 := Lib.hid hn1
        have HB5 := Lib.hid hb5
        clear hn1 hb5
        go_wp2_with fail
        refine (add_any _ _ _ _ _ _ (2 * R) 1 _ (HS4.out.keep HB5.out) HN1.out (by omega) (by omega)).mono ?_
        rintro e w6 ⟨tto, tl, tc, rfl, htlc, htcm, ht, hb6⟩
        have htl : tl ≤ lb + 1 := by
          refine ht.len_le ?_
          have h1 := HDL.out
          have h2 := GRD.out
          rw [Nat.pow_succ, B16_eq]
          rw [B16_eq] at h1
          generalize 65536 ^ lb = p at *
          omega
        have HS6 : Hid (N16 w6 tto tl (2 * R + b)) := by rw [hbv]; exact ht
        have HB6 := Lib.hid ((HB4.out.trans (HB5.out.mono HB4.out.size)).trans (hb6.mono (Nat.le_trans HB4.out.size HB5.out.size)))
        clear ht hb6
        have HQ5 := Lib.hid (GQ.out.below HB6.out GQ.out.lt)
        have HW5 := Lib.hid (GW.out.trans (HB6.out.mono GW.out.size))
        go_wp2_with fail
        refine (cmp16_any _ _ _ _ _ _ (2 * R + b) D _ HS6.out (HB.out.keep HW5.out) (by omega) (by omega)).mono ?_
        rintro e w7 ⟨rfl, hd7⟩
        have HQ7 : Hid (Blk .i64 w7 W.heap.size 3 qs) := HQ5.out.of_block (by obtain ⟨_, rfl⟩ := hd7; rfl)
        have HW7 := Lib.hid (HW5.out.trans hd7.below)
        have HS7 := Lib.hid (HS6.out.keep hd7.below)
        clear hd7
        have HDB := Lib.hid (dm_bit (A := A) (i := i))
        by_cases hlt : 2 * R + b < D
        · rw [cmpN_lt hlt]
          go_wp2
          refine ⟨⟨i, 2 * R + b, 2 * Q, qs, tto, tl, tc, rfl, rfl, HS7.out, hlt, dm_less HDB.out GD.out HBE.out, HQ7.out, GL.out, GQD.out, by rw [GV.out, Nat.pow_succ, Nat.mul_assoc], by omega, by omega, by omega, HW7.out⟩, by simp only [intOf]; omega⟩
        · obtain ⟨cc, hcc⟩ : ∃ c, c = cmpN (2 * R + b) D := ⟨_, rfl⟩
          have hc0 : 0 ≤ cc := by
            rw [hcc]; unfold cmpN; rw [if_neg hlt]; split <;> decide
          rw [← hcc]
          clear hcc
          go_wp2_with fail
          refine (sub16_new _ _ _ _ _ _ (2 * R + b) D _ HS7.out (HB.out.keep HW7.out) (by omega) (by omega)).mono ?_
          rintro e w8 ⟨xo, xl, xc, rfl, hxlc, hxcm, hx, hb8, hloc⟩
          have HX := Lib.hid hx
          have HLOC := Lib.hid hloc
          have HW8 := Lib.hid (HW7.out.trans (hb8.mono HW7.out.size))
          have HQ8 := Lib.hid (HQ7.out.below hb8 HQ7.out.lt)
          have HNE : Hid (0 < xl → ∃ g, xo = some ⟨g, 0, none⟩ ∧ g ≠ W.heap.size) := fun h => by
            obtain ⟨g, h1, h2⟩ := hloc h
            have h3 := HQ7.out.lt
            exact ⟨g, h1, by omega⟩
          clear hx hloc hb8
          obtain ⟨j, hj⟩ : ∃ j, j = i / 16 := ⟨_, rfl⟩
          obtain ⟨t, htt⟩ : ∃ t, t = i % 16 := ⟨_, rfl⟩
          have hjla : j < la := by omega
          have ht16 : t ≤ 16 := by omega
          have hxp := dm_digit GQD.out i Q GV.out (by rw [GL.out, ← hj]; exact hjla)
          have HSET := Lib.hid (dm_set i (by rw [GL.out, ← hj]; exact hjla) (qs := qs))
          rw [← hj, ← htt] at hxp HSET
          have c1 := HQ8.out.cell j (by rw [GL.out]; exact hjla)
          have fz1 := HQ8.out.frozen j
          obtain ⟨x, hxe⟩ : ∃ x, x = qs[j]?.getD 0 := ⟨_, rfl⟩
          obtain ⟨p, hp⟩ : ∃ p, p = 2 ^ t := ⟨_, rfl⟩
          rw [← hxe, ← hp] at hxp HSET
          rw [← hxe] at c1
          have HP := Lib.hid hp
          have e1 : (i : Int) / 16 = (j : Int) := by omega
          have e2 : (i : Int) % 16 = (t : Int) := by omega
          have e3 : (i : Int).tmod 16 = (t : Int) := by rw [Int.tmod_eq_emod_of_nonneg (Int.natCast_nonneg _)]; exact e2
          have e4 : (i : Int).tdiv 16 = (j : Int) := by rw [Int.tdiv_eq_ediv_of_nonneg (Int.natCast_nonneg _)]; exact e1
          have b2 : (j : Int) < (la : Int) := by omega
          have b3 : (0 : Int) ≤ (j : Int) := by omega
          clear hxe hp hj htt
          have q1 : IntKind.i64.wrap (j : Int) = (j : Int) := IntWalk.i64_in _ (by omega)
          have q2 : IntKind.i64.wrap (t : Int) = (t : Int) := IntWalk.i64_in _ (by omega)
          have q3 : IntKind.i64.wrap ((x : Int) + (p : Int)) = (x : Int) + (p : Int) := IntWalk.i64_in _ (by omega)
          go_upto_region 11 with fail
          go_still_tail 10, (by kernel_rfl)
          still_call (show Calls _ _ _ _ (fun e w'' => e = .returned (.int .i64 (p : Int)) ∧ w'' = _) from (power_any _ t _ (by first | rfl | exact e2 | exact e3) ht16).mono fun e w h => ⟨by rw [h.1, ← HP.out], h.2.symm⟩)
          repeat still_step
          refine wpStill_nil ?_
          have HQ9 : Hid (Blk .i64 w8.drew W.heap.size 3 qs) := HQ8.out
          have HX9 : Hid (N16 w8.drew xo xl (2 * R + b - D)) := HX.out.keep (Below.refl _ _).drew
          have HW9 : Hid (Below W.heap.size W w8.drew) := below_drewN1 HW8.out 1
          have c9 : w8.drew.cell? ⟨W.heap.size, j, none⟩ = some (.int .i64 (x : Int)) := c1
          have fz9 : w8.drew.frozen? ⟨W.heap.size, j, none⟩ = false := fz1
          change wpList _ _ _ _ _ w8.drew
          generalize w8.drew = w9 at HQ9 HX9 HW9 c9 fz9 ⊢
          clear c1 fz1
          go_wp2_with fail
          refine ⟨⟨i, 2 * R + b - D, 2 * Q + 1, qs.set j (x + p), xo, xl, xc, rfl, rfl, HX9.out.setOther HNE.out, by have := GRD.out; omega, dm_more HDB.out GD.out HBE.out hlt, HQ9.out.set _ _ _ (Int.natCast_add _ _).symm, by rw [List.length_set]; exact GL.out, GQD.out.set _ (by rw [B16_eq]; exact hxp), ?_, by omega, hxlc, hxcm, HW9.out.setCell (Nat.le_refl _) _⟩, by simp only [intOf]; omega⟩
          rw [HSET.out, GV.out, Nat.pow_succ]
          generalize 2 ^ i = u
          grind
end Go.Proofs.Ytbihgllfllkkaaa

/- The specification's Div. -/
set_option linter.unusedVariables false
namespace Go.Proofs.Ytbihgllfllkkaaa
open Go.RowKit

def DivJ (x y : Int) (W : World) (e : Ending) (w' : World) : Prop :=
  ∃ s1 uo ul uc s2 vo vl vc, e = .returned (.tuple #[.agg #[.bool s1, .slice uo ul uc], .agg #[.bool s2, .slice vo vl vc]]) ∧ ul ≤ uc ∧ uc ≤ 9223372036854775807 ∧ vl ≤ vc ∧ vc ≤ 9223372036854775807 ∧ Z16 w' s1 uo ul (x / y) ∧ Z16 w' s2 vo vl (x % y) ∧ Below W.heap.size W w'

set_option maxRecDepth 4000 in
set_option maxHeartbeats 2000000 in
theorem divZ16_any (na nb : Bool) (ao bo : Option Addr) (la lb ca cb : Nat) (x y : Int) (W : World) (ha : Z16 W na ao la x) (hb : Z16 W nb bo lb y) (hla : la ≤ 10000000) (hlb : lb ≤ 10000000) (hy : y ≠ 0) :
    Calls Try.prog 13 #[.agg #[.bool na, .slice ao la ca], .agg #[.bool nb, .slice bo lb cb]] W (DivJ x y W) := by
  have hf : Fr W ((((W.alloc (.cells #[.bool na, .slice ao la ca] 27)).alloc (.cells #[.bool nb, .slice bo lb cb] 27)).alloc (.cells #[.bool false, .slice none 0 0] 27)).alloc (.cells #[.bool false, .slice none 0 0] 27))
      [(27, #[.bool na, .slice ao la ca]), (27, #[.bool nb, .slice bo lb cb]), (27, #[.bool false, .slice none 0 0]), (27, #[.bool false, .slice none 0 0])] :=
    ((((Fr.nil W).alloc rfl _ _).alloc (by simp) _ _).alloc (by simp) _ _).alloc (by simp) _ _
  have hlb0 : lb ≠ 0 := fun h => hy (hb.zero.2 h)
  obtain ⟨m, hm, rfl, hmn⟩ := ha
  obtain ⟨n, hn, rfl, hnn⟩ := hb
  have hn0 : n ≠ 0 := fun h => hlb0 (hn.zero.1 h)
  have HM := Lib.hid hm
  have HN := Lib.hid hn
  have HN0 := Lib.hid hn0
  clear hm hn hn0 hy hmn hnn
  go_enter Try.func13, Try.ntmps13
  go_wp2_with fail
  obtain ⟨W3, hW3⟩ : ∃ W3, W3 = (((W.alloc (.cells #[.bool na, .slice ao la ca] 27)).alloc (.cells #[.bool nb, .slice bo lb cb] 27)).alloc (.cells #[.bool false, .slice none 0 0] 27)).alloc (.cells #[.bool false, .slice none 0 0] 27) := ⟨_, rfl⟩
  rw [← hW3] at hf ⊢
  clear hW3
  have HF := Lib.hid hf
  clear hf
  refine (divMod_any _ _ _ _ _ _ m n _ (HM.out.keep HF.out.below) (HN.out.keep HF.out.below) (Nat.pos_of_ne_zero HN0.out) (by omega) (by omega)).mono ?_
  rintro e w1 ⟨qo, ql, qc, ro, rl, rc, rfl, hqlc, hqcm, hrlc, hrcm, hq1, hr1, hb1⟩
  have hql : ql ≤ 10000000 := Nat.le_trans (hq1.len_le (Nat.lt_of_le_of_lt (Nat.div_le_self _ _) HM.out.lt)) hla
  have hrl : rl ≤ 10000000 := Nat.le_trans (hr1.len_le (Nat.lt_trans (Nat.mod_lt _ (Nat.pos_of_ne_zero HN0.out)) HN.out.lt)) hlb
  have hrz := hr1.zero
  have HF1 := Lib.hid (HF.out.later hb1)
  have HQ := Lib.hid hq1
  have HR := Lib.hid hr1
  have HRZ := Lib.hid hrz
  clear hq1 hr1 hb1 hrz
  have c0 : w1.cell? ⟨W.heap.size, 0, none⟩ = some (.bool na) := HF1.out.cell 0 0 rfl rfl
  cases na with
  | false =>
    have HXQ := Lib.hid (div_cases false nb m n HN0.out (.inl rfl)).1
    have HXR := Lib.hid (div_cases false nb m n HN0.out (.inl rfl)).2
    have e0 : w1.cell? ⟨W.heap.size, 0, none⟩ = some (.bool false) := HF1.out.cell 0 0 rfl rfl
    have e1 : w1.cell? ⟨W.heap.size + 1, 0, none⟩ = some (.bool nb) := HF1.out.cell 1 0 rfl rfl
    go_wp2_with fail
    refine (made_any _ _ _ _ _ _ HQ.out hqlc hqcm).mono ?_
    rintro e w5 ⟨s1, uo, ul, uc, rfl, huc, hum, hz5, hb5⟩
    have HF5 := Lib.hid (HF1.out.later hb5)
    have HZ5 := Lib.hid hz5
    have HR5 := Lib.hid (HR.out.keep hb5)
    clear hz5 hb5
    go_wp2_with fail
    refine (made_any _ _ _ _ _ _ HR5.out hrlc hrcm).mono ?_
    rintro e w6 ⟨s2, vo, vl, vc, rfl, hvc, hvm, hz6, hb6⟩
    have HF6 := Lib.hid (HF5.out.later hb6)
    have HZ6 := Lib.hid (HZ5.out.keep hb6)
    have HY6 := Lib.hid hz6
    clear hz6 hb6
    have g0 : w6.cell? ⟨W.heap.size + 1 + 1, 0, none⟩ = some (.bool false) := HF6.out.cell 2 0 rfl rfl
    have g1 : w6.cell? ⟨W.heap.size + 1 + 1, 1, none⟩ = some (.slice none 0 0) := HF6.out.cell 2 1 rfl rfl
    have g2 : w6.frozen? ⟨W.heap.size + 1 + 1, 0, none⟩ = false := HF6.out.frozen 2 0 rfl
    have g3 : w6.frozen? ⟨W.heap.size + 1 + 1, 1, none⟩ = false := HF6.out.frozen 2 1 rfl
    have g4 : w6.cell? ⟨W.heap.size + 1 + 1 + 1, 0, none⟩ = some (.bool false) := HF6.out.cell 3 0 rfl rfl
    have g5 : w6.cell? ⟨W.heap.size + 1 + 1 + 1, 1, none⟩ = some (.slice none 0 0) := HF6.out.cell 3 1 rfl rfl
    have g6 : w6.frozen? ⟨W.heap.size + 1 + 1 + 1, 0, none⟩ = false := HF6.out.frozen 3 0 rfl
    have g7 : w6.frozen? ⟨W.heap.size + 1 + 1 + 1, 1, none⟩ = false := HF6.out.frozen 3 1 rfl
    go_wp2
    obtain ⟨k0, k1, hz, _, hfr⟩ := HF6.out.finJ (cap := uc) 2 rfl HZ6.out
    have hy2 := ((HY6.out.setFr HF6.out 2 0 rfl rfl (.bool s1)).setFr (HF6.out.set 2 0 rfl (.bool s1)) 2 1 rfl rfl (.slice uo ul uc))
    obtain ⟨k2, k3, hy3, hbel, hfr2⟩ := hfr.finJ (cap := vc) 3 rfl hy2
    have hz3 := ((hz.setFr hfr 3 0 rfl rfl (.bool s2)).setFr (hfr.set 3 0 rfl (.bool s2)) 3 1 rfl rfl (.slice vo vl vc))
    have k4 := hfr2.cell 2 0 (v := .bool s1) rfl rfl
    have k5 := hfr2.cell 2 1 (v := .slice uo ul uc) rfl rfl
    exact bodyPost_ret (v := .tuple #[.agg #[.bool s1, .slice uo ul uc], .agg #[.bool s2, .slice vo vl vc]]) (by simp [results, Try.results13, go_sem, k2, k3, k4, k5]) rfl ⟨s1, uo, ul, uc, s2, vo, vl, vc, rfl, huc, hum, hvc, hvm, by rw [HXQ.out, bne_false]; exact hz3, by rw [HXR.out]; exact hy3, hbel⟩
  | true =>
    by_cases hr0 : rl = 0
    · have HXQ := Lib.hid (div_cases true nb m n HN0.out (.inr (HRZ.out.2 hr0))).1
      have HXR := Lib.hid (div_cases true nb m n HN0.out (.inr (HRZ.out.2 hr0))).2
      have q1 : ¬ (0 : Int) < (rl : Int) := by omega
      have q3 : decide (0 < rl) = false := by simp; omega
      clear hr0
      have e0 : w1.cell? ⟨W.heap.size, 0, none⟩ = some (.bool true) := HF1.out.cell 0 0 rfl rfl
      have e1 : w1.cell? ⟨W.heap.size + 1, 0, none⟩ = some (.bool nb) := HF1.out.cell 1 0 rfl rfl
      go_wp2_with fail
      refine (made_any _ _ _ _ _ _ HQ.out hqlc hqcm).mono ?_
      rintro e w5 ⟨s1, uo, ul, uc, rfl, huc, hum, hz5, hb5⟩
      have HF5 := Lib.hid (HF1.out.later hb5)
      have HZ5 := Lib.hid hz5
      have HR5 := Lib.hid (HR.out.keep hb5)
      clear hz5 hb5
      go_wp2_with fail
      refine (made_any _ _ _ _ _ _ HR5.out hrlc hrcm).mono ?_
      rintro e w6 ⟨s2, vo, vl, vc, rfl, hvc, hvm, hz6, hb6⟩
      have HF6 := Lib.hid (HF5.out.later hb6)
      have HZ6 := Lib.hid (HZ5.out.keep hb6)
      have HY6 := Lib.hid hz6
      clear hz6 hb6
      have g0 : w6.cell? ⟨W.heap.size + 1 + 1, 0, none⟩ = some (.bool false) := HF6.out.cell 2 0 rfl rfl
      have g1 : w6.cell? ⟨W.heap.size + 1 + 1, 1, none⟩ = some (.slice none 0 0) := HF6.out.cell 2 1 rfl rfl
      have g2 : w6.frozen? ⟨W.heap.size + 1 + 1, 0, none⟩ = false := HF6.out.frozen 2 0 rfl
      have g3 : w6.frozen? ⟨W.heap.size + 1 + 1, 1, none⟩ = false := HF6.out.frozen 2 1 rfl
      have g4 : w6.cell? ⟨W.heap.size + 1 + 1 + 1, 0, none⟩ = some (.bool false) := HF6.out.cell 3 0 rfl rfl
      have g5 : w6.cell? ⟨W.heap.size + 1 + 1 + 1, 1, none⟩ = some (.slice none 0 0) := HF6.out.cell 3 1 rfl rfl
      have g6 : w6.frozen? ⟨W.heap.size + 1 + 1 + 1, 0, none⟩ = false := HF6.out.frozen 3 0 rfl
      have g7 : w6.frozen? ⟨W.heap.size + 1 + 1 + 1, 1, none⟩ = false := HF6.out.frozen 3 1 rfl
      go_wp2
      obtain ⟨k0, k1, hz, _, hfr⟩ := HF6.out.finJ (cap := uc) 2 rfl HZ6.out
      have hy2 := ((HY6.out.setFr HF6.out 2 0 rfl rfl (.bool s1)).setFr (HF6.out.set 2 0 rfl (.bool s1)) 2 1 rfl rfl (.slice uo ul uc))
      obtain ⟨k2, k3, hy3, hbel, hfr2⟩ := hfr.finJ (cap := vc) 3 rfl hy2
      have hz3 := ((hz.setFr hfr 3 0 rfl rfl (.bool s2)).setFr (hfr.set 3 0 rfl (.bool s2)) 3 1 rfl rfl (.slice vo vl vc))
      have k4 := hfr2.cell 2 0 (v := .bool s1) rfl rfl
      have k5 := hfr2.cell 2 1 (v := .slice uo ul uc) rfl rfl
      exact bodyPost_ret (v := .tuple #[.agg #[.bool s1, .slice uo ul uc], .agg #[.bool s2, .slice vo vl vc]]) (by simp [results, Try.results13, go_sem, k2, k3, k4, k5]) rfl ⟨s1, uo, ul, uc, s2, vo, vl, vc, rfl, huc, hum, hvc, hvm, by rw [HXQ.out, bne_true]; exact hz3, by rw [HXR.out]; exact hy3, hbel⟩
    · have hmr : m % n ≠ 0 := fun h => hr0 (HRZ.out.1 h)
      have HXQ := Lib.hid (div_up nb m n HN0.out hmr).1
      have HXR := Lib.hid (div_up nb m n HN0.out hmr).2
      have q1 : (0 : Int) < (rl : Int) := by omega
      have q3 : decide (0 < rl) = true := by simp; omega
      clear hr0 hmr
      go_wp2_with fail
      refine (of_any 1 1 _ rfl (by omega)).mono ?_
      rintro e w2 ⟨no, nl, nc, rfl, hnlc, hncm, hn1, hb2⟩
      have hnl : nl ≤ 1 := hn1.len_le (by rw [B16_eq]; decide)
      have HF2 := Lib.hid (HF1.out.later hb2)
      have HQ2 := Lib.hid (HQ.out.keep hb2)
      have HR2 := Lib.hid (HR.out.keep hb2)
      have HONE := Lib.hid hn1
      clear hn1 hb2
      go_wp2_with fail
      refine (add_any _ _ _ _ _ _ (m / n) 1 _ HQ2.out HONE.out (by omega) (by omega)).mono ?_
      rintro e w3 ⟨so, sl, sc, rfl, hslc, hscm, hs3, hb3⟩
      have HF3 := Lib.hid (HF2.out.later hb3)
      have HQ3 := Lib.hid hs3
      have HR3 := Lib.hid (HR2.out.keep hb3)
      clear hs3 hb3
      have c1 : w3.cell? ⟨W.heap.size + 1, 1, none⟩ = some (.slice bo lb cb) := HF3.out.cell 1 1 rfl rfl
      go_wp2_with fail
      refine (sub16_new _ _ _ _ _ _ n (m % n) _ (HN.out.keep HF3.out.below) HR3.out (by omega) (Nat.le_of_lt (Nat.mod_lt _ (Nat.pos_of_ne_zero HN0.out)))).mono ?_
      rintro e w4 ⟨to_, tl, tc, rfl, htlc, htcm, hd4, hb4, _⟩
      have HF4 := Lib.hid (HF3.out.later hb4)
      have HQ4 := Lib.hid (HQ3.out.keep hb4)
      have HR4 := Lib.hid hd4
      clear hd4 hb4
      have e0 : w4.cell? ⟨W.heap.size, 0, none⟩ = some (.bool true) := HF4.out.cell 0 0 rfl rfl
      have e1 : w4.cell? ⟨W.heap.size + 1, 0, none⟩ = some (.bool nb) := HF4.out.cell 1 0 rfl rfl
      go_wp2_with fail
      refine (made_any _ _ _ _ _ _ HQ4.out hslc hscm).mono ?_
      rintro e w5 ⟨s1, uo, ul, uc, rfl, huc, hum, hz5, hb5⟩
      have HF5 := Lib.hid (HF4.out.later hb5)
      have HZ5 := Lib.hid hz5
      have HR5 := Lib.hid (HR4.out.keep hb5)
      clear hz5 hb5
      go_wp2_with fail
      refine (made_any _ _ _ _ _ _ HR5.out htlc htcm).mono ?_
      rintro e w6 ⟨s2, vo, vl, vc, rfl, hvc, hvm, hz6, hb6⟩
      have HF6 := Lib.hid (HF5.out.later hb6)
      have HZ6 := Lib.hid (HZ5.out.keep hb6)
      have HY6 := Lib.hid hz6
      clear hz6 hb6
      have g0 : w6.cell? ⟨W.heap.size + 1 + 1, 0, none⟩ = some (.bool false) := HF6.out.cell 2 0 rfl rfl
      have g1 : w6.cell? ⟨W.heap.size + 1 + 1, 1, none⟩ = some (.slice none 0 0) := HF6.out.cell 2 1 rfl rfl
      have g2 : w6.frozen? ⟨W.heap.size + 1 + 1, 0, none⟩ = false := HF6.out.frozen 2 0 rfl
      have g3 : w6.frozen? ⟨W.heap.size + 1 + 1, 1, none⟩ = false := HF6.out.frozen 2 1 rfl
      have g4 : w6.cell? ⟨W.heap.size + 1 + 1 + 1, 0, none⟩ = some (.bool false) := HF6.out.cell 3 0 rfl rfl
      have g5 : w6.cell? ⟨W.heap.size + 1 + 1 + 1, 1, none⟩ = some (.slice none 0 0) := HF6.out.cell 3 1 rfl rfl
      have g6 : w6.frozen? ⟨W.heap.size + 1 + 1 + 1, 0, none⟩ = false := HF6.out.frozen 3 0 rfl
      have g7 : w6.frozen? ⟨W.heap.size + 1 + 1 + 1, 1, none⟩ = false := HF6.out.frozen 3 1 rfl
      go_wp2
      obtain ⟨k0, k1, hz, _, hfr⟩ := HF6.out.finJ (cap := uc) 2 rfl HZ6.out
      have hy2 := ((HY6.out.setFr HF6.out 2 0 rfl rfl (.bool s1)).setFr (HF6.out.set 2 0 rfl (.bool s1)) 2 1 rfl rfl (.slice uo ul uc))
      obtain ⟨k2, k3, hy3, hbel, hfr2⟩ := hfr.finJ (cap := vc) 3 rfl hy2
      have hz3 := ((hz.setFr hfr 3 0 rfl rfl (.bool s2)).setFr (hfr.set 3 0 rfl (.bool s2)) 3 1 rfl rfl (.slice vo vl vc))
      have k4 := hfr2.cell 2 0 (v := .bool s1) rfl rfl
      have k5 := hfr2.cell 2 1 (v := .slice uo ul uc) rfl rfl
      exact bodyPost_ret (v := .tuple #[.agg #[.bool s1, .slice uo ul uc], .agg #[.bool s2, .slice vo vl vc]]) (by simp [results, Try.results13, go_sem, k2, k3, k4, k5]) rfl ⟨s1, uo, ul, uc, s2, vo, vl, vc, rfl, huc, hum, hvc, hvm, by rw [HXQ.out, bne_true]; exact hz3, by rw [HXR.out]; exact hy3, hbel⟩
end Go.Proofs.Ytbihgllfllkkaaa

/- Facts for NumDivides. -/
set_option linter.unusedVariables false
namespace Go.Proofs.Ytbihgllfllkkaaa
open Go.RowKit Go.Proofs

theorem fits_div {x y : Int} (h : Fits x) : Fits (x / y) := bl_div (k := 16384) h
theorem fits_mod {x y : Int} (h : Fits y) (hy : y ≠ 0) : Fits (x % y) := bl_mod (k := 16384) h hy

theorem string_zero (W : World) : Calls Try.prog 11 #[.agg #[.bool false, .slice none 0 0]] W (fun e w' => e = .returned (.string { data := #[48] }) ∧ Below W.heap.size W w') :=
  (string_any false none 0 0 0 W (Z32.nil _) (by omega)).mono fun e w h => h
end Go.Proofs.Ytbihgllfllkkaaa
