/- Part 5 of the contracts: RefA, RefB, RefC, RefD. -/
import Derived.Test.YtcgnmihabkgecaaGreatPart4

/- The specification's numbers: rows of digits to the base 2^16. at, trim, of, add. -/
set_option linter.unusedVariables false
namespace Go.Proofs.YtcgnmihabkgecaaGreat
open Go.RowKit

def B16 : Nat := 65536
theorem B16_eq : B16 = 65536 := rfl
theorem B16_pos : 0 < B16 := by decide
theorem B16_gt : 1 < B16 := by decide

/-- The slice is the digits to the base 2^16 of n, without a zero at the top. -/
def N16 (w : World) (ao : Option Addr) (len : Nat) (n : Nat) : Prop := ∃ xs, Sl .i64 w ao len xs ∧ Dig B16 xs ∧ Top xs ∧ val B16 xs = n

theorem N16.keep {w w' : World} {ao : Option Addr} {len n : Nat} (h : N16 w ao len n) (hb : Below w.heap.size w w') : N16 w' ao len n := by
  obtain ⟨xs, h1, h2⟩ := h
  exact ⟨xs, h1.keep hb, h2⟩
theorem N16.nil (w : World) (ao : Option Addr) : N16 w ao 0 0 := ⟨[], Sl.nil _ _ _, Dig.nil _, Top.nil, rfl⟩
theorem N16.zero {w : World} {ao : Option Addr} {len n : Nat} (h : N16 w ao len n) : n = 0 ↔ len = 0 := by
  obtain ⟨xs, h1, h2, h3, rfl⟩ := h
  rw [val_zero_iff B16_pos h3, ← h1.len, List.length_eq_zero_iff]
theorem N16.lt {w : World} {ao : Option Addr} {len n : Nat} (h : N16 w ao len n) : n < B16 ^ len := by
  obtain ⟨xs, h1, h2, h3, rfl⟩ := h
  have := val_lt B16_pos h2
  rwa [h1.len] at this
theorem N16.len_le {w : World} {ao : Option Addr} {len n k : Nat} (h : N16 w ao len n) (hn : n < B16 ^ k) : len ≤ k := by
  obtain ⟨xs, h1, h2, h3, rfl⟩ := h
  rw [← h1.len]
  exact len_le_of_lt B16_gt h3 hn

def Out16 (w : World) (n : Nat) (e : Ending) (w' : World) : Prop := ∃ ao len cap, e = .returned (.slice ao len cap) ∧ len ≤ cap ∧ cap ≤ 9223372036854775807 ∧ N16 w' ao len n ∧ Below w.heap.size w w'

set_option maxHeartbeats 400000 in
theorem at_any (ao : Option Addr) (len cap : Nat) (xs : List Nat) (I : Int) (i : Nat) (w : World) (hs : Sl .i64 w ao len xs) (hI : I = (i : Int)) :
    Calls Tryz.prog 109 #[.slice ao len cap, .int .i64 I] w fun e w' => e = .returned (.int .i64 ((xs[i]?.getD 0 : Nat) : Int)) ∧ w = w' := by
  subst hI
  obtain ⟨hx, b, off, h0, hc⟩ := hs
  have hX := Lib.hid hx
  clear hx
  by_cases hil : i < len
  · obtain rfl := h0 (by omega)
    have hci := hc i hil
    clear hc h0
    go_enter Tryz.func109, Tryz.ntmps109
    go_wp2
    go_ret
    exact ⟨rfl, rfl⟩
  · have hn : xs[i]?.getD 0 = 0 := by rw [List.getElem?_eq_none (by have := hX.out; omega)]; rfl
    rw [hn]
    clear hn h0 hc
    go_enter Tryz.func109, Tryz.ntmps109
    go_wp2
    go_ret
    exact ⟨rfl, rfl⟩

def Trim16Post (ao : Option Addr) (len cap : Nat) (xs : List Nat) (e : Ending) : Prop :=
  ∃ ao' n, e = .returned (.slice ao' n cap) ∧ n ≤ len ∧ (0 < n → ao' = ao) ∧ Top (xs.take n) ∧ (∀ j, n ≤ j → xs[j]?.getD 0 = 0)

set_option maxHeartbeats 400000 in
theorem trim16_raw (ao : Option Addr) (len cap : Nat) (xs : List Nat) (w : World) (hs : Sl .i64 w ao len xs) (hcap : len ≤ cap) (hl : cap ≤ 9223372036854775807) :
    Calls Tryz.prog 95 #[.slice ao len cap] w fun e w' => Trim16Post ao len cap xs e ∧ w = w' := by
  obtain ⟨hx, b, off, h0, hc⟩ := hs
  have hX := Lib.hid hx
  clear hx
  go_enter Tryz.func95, Tryz.ntmps95
  go_wp2
  go_loop [3] (fun t => ∃ n : Nat, n ≤ len ∧ t = .int .i64 n ∧ ∀ j, n ≤ j → xs[j]?.getD 0 = 0) (fun t => (intOf t).toNat)
  case atStart => exact ⟨len, Nat.le_refl _, rfl, fun j hj => by rw [List.getElem?_eq_none (by have := hX.out; omega)]; rfl⟩
  case round =>
    obtain ⟨n, hn, rfl, hz⟩ := hrel
    have hZ := Lib.hid hz
    clear hz
    have hX2 := hX.out
    by_cases h1 : n = 0
    · subst h1
      clear hX2
      go_wp2
      go_ret
      exact ⟨⟨_, 0, rfl, by omega, fun h => by omega, by simpa using Top.nil, hZ.out⟩, rfl⟩
    · have hlen : 0 < len := by omega
      obtain rfl := h0 hlen
      obtain ⟨m, rfl⟩ : ∃ m, n = m + 1 := ⟨n - 1, by omega⟩
      have hcell := hc m (by omega)
      clear hc h0
      obtain ⟨x, hxe⟩ : ∃ x, x = xs[m]?.getD 0 := ⟨_, rfl⟩
      rw [← hxe] at hcell
      have hE := Lib.hid hxe
      clear hxe hX2
      by_cases hx0 : x = 0
      · subst hx0
        go_wp2
        go_round
        case rel => exact ⟨m, by omega, by go_num, fun j hj => (by
          by_cases hj' : j = m
          · subst hj'; exact hE.out.symm
          · exact hZ.out j (by omega))⟩
        case measure => simp [intOf]
      · have hb : ((x : Int) == 0) = false := by simp; omega
        go_wp2
        go_ret
        exact ⟨⟨_, m + 1, rfl, hn, fun _ => rfl, top_take (by have := hX.out; omega) (Or.inr (by have := hE.out; simp only [Nat.add_sub_cancel]; omega)), hZ.out⟩, rfl⟩

def OfRel (n : Nat) (W : World) (nv ov : Value) (wr : World) : Prop :=
  ∃ (r k : Nat) (zs : List Nat), nv = .int .i64 (r : Int) ∧ Own .i64 wr W.heap.size 3 ov k zs ∧ Dig B16 zs ∧ val B16 zs + B16 ^ k * r = n ∧ (r = 0 → Top zs) ∧ r ≤ n ∧ Below W.heap.size W wr

theorem of_len {n k r : Nat} {zs : List Nat} (hv : val B16 zs + B16 ^ k * r = n) (hn : n ≤ 9223372036854775807) (hr : 0 < r) : k ≤ 4 := by
  have h1 : B16 ^ k * 1 ≤ B16 ^ k * r := Nat.mul_le_mul_left _ hr
  have h2 : B16 ^ k < B16 ^ 4 := by
    have : B16 ^ 4 = 18446744073709551616 := by decide
    omega
  have := (Nat.pow_lt_pow_iff_right B16_gt).1 h2
  omega

set_option maxHeartbeats 400000 in
theorem of_any (N : Int) (n : Nat) (W : World) (hN : N = (n : Int)) (hn : n ≤ 9223372036854775807) :
    Calls Tryz.prog 83 #[.int .i64 N] W (Out16 W n) := by
  subst hN
  have HN := Lib.hid hn
  go_enter Tryz.func83, Tryz.ntmps83
  go_wp2
  go_loopw [0, 3] (fun nv ov wr => OfRel n W nv ov wr) (fun nv ov _ => (intOf nv).toNat)
  case atStart => exact ⟨n, 0, [], rfl, Own.nil _ _ _ _, Dig.nil _, by simp [val], fun _ => Top.nil, Nat.le_refl _, Below.refl _ _⟩
  case round =>
    obtain ⟨r, k, zs, rfl, hown, hd, hv, ht, hrn, hbel⟩ := hrel
    have HO := Lib.hid hown
    have HD := Lib.hid hd
    have HV := Lib.hid hv
    have HT := Lib.hid ht
    have HB := Lib.hid hbel
    clear hown hd hv ht hbel
    by_cases hr0 : r = 0
    · subst hr0
      obtain ⟨ao, cap, rfl, hlc, hcm, hsl⟩ := HO.out.sl
      have HS := Lib.hid hsl
      clear hsl
      go_wp2
      go_ret
      have := HV.out
      exact ⟨ao, k, cap, rfl, hlc, hcm, ⟨zs, HS.out, HD.out, (by first | exact HT.out rfl | exact HT.out trivial), by simpa using this⟩, HB.out⟩
    · have t1 : (0 : Int) < (r : Int) := by omega
      have hk4 : k ≤ 4 := of_len HV.out HN.out (by omega)
      go_wp2_with (at_builtin; refine wpList_app rfl _ _ 31 rfl W.heap.size 3 .i64 8 Tryz.underlying31 (by kernel_rfl) _ k zs rfl HO.out _ (r % B16) rfl (by rw [B16_eq]; omega) (by omega) (by omega) HB.out.size ?_; intro v' w2 hown' hbel')
      go_roundw
      case rel =>
        refine ⟨r / B16, k + 1, zs ++ [r % B16], congrArg (Value.int _) (by rw [B16_eq]; omega), hown', HD.out.append (Dig.cons (Nat.mod_lt _ B16_pos) (Dig.nil _)), ?_, ?_, Nat.le_trans (Nat.div_le_self _ _) hrn, HB.out.trans hbel'⟩
        · rw [val_snoc, HO.out.len, Nat.pow_succ]
          have h1 := HV.out
          have h2 := Nat.mod_add_div r B16
          generalize r % B16 = d at *
          generalize r / B16 = q at *
          generalize B16 ^ k = p at *
          grind
        · intro hq _
          have : r % B16 = r := Nat.mod_eq_of_lt (by rw [Nat.div_eq_zero_iff] at hq; rcases hq with h | h; exact absurd h (by decide); exact h)
          simp
          omega
      case measure => simp only [intOf]; omega

def AddRel (la lb : Nat) (xa xb : List Nat) (W : World) (ov cv iv : Value) (wr : World) : Prop :=
  ∃ (c i : Nat) (zs : List Nat), cv = .int .i64 (c : Int) ∧ iv = .int .i64 (i : Int) ∧ Own .i64 wr W.heap.size 3 ov i zs ∧ Dig B16 zs ∧ c ≤ 1 ∧ i ≤ max la lb + 1 ∧
    val B16 zs + c * B16 ^ i = val B16 (xa.take i) + val B16 (xb.take i) ∧ (la < i → lb < i → B16 ^ (i - 1) ≤ val B16 zs) ∧ Below W.heap.size W wr

theorem add_rel {la lb i c x y : Nat} {xa xb zs : List Nat} {W wr w2 : World} {v' : Value} (hlz : zs.length = i) (hd : Dig B16 zs) (hc : c ≤ 1) (hi : i ≤ max la lb) (hla : xa.length = la) (hlb : xb.length = lb) (hx : x = xa[i]?.getD 0) (hy : y = xb[i]?.getD 0) (hxb : x < B16) (hyb : y < B16)
    (hgo : i < la ∨ i < lb ∨ 0 < c)
    (hv : val B16 zs + c * B16 ^ i = val B16 (xa.take i) + val B16 (xb.take i)) (hb : Below W.heap.size W wr) (ho : Own .i64 w2 W.heap.size 3 v' (i + 1) (zs ++ [(c + (x + y)) % B16])) (hb2 : Below W.heap.size wr w2)
    (C I : Int) (hC : C = (((c + (x + y)) / B16 : Nat) : Int)) (hI : I = (i : Int) + 1) : AddRel la lb xa xb W v' (.int .i64 C) (.int .i64 I) w2 := by
  rw [B16_eq] at hxb hyb
  have e := Nat.mod_add_div (c + (x + y)) B16
  refine ⟨(c + (x + y)) / B16, i + 1, zs ++ [(c + (x + y)) % B16], by rw [hC], by rw [hI]; rfl, ho, hd.append (Dig.cons (Nat.mod_lt _ B16_pos) (Dig.nil _)), by rw [B16_eq]; omega, by omega, ?_, ?_, hb.trans hb2⟩
  · rw [val_snoc, hlz, val_take_succ, val_take_succ, ← hx, ← hy, Nat.pow_succ]
    generalize (c + (x + y)) % B16 = d at *
    generalize (c + (x + y)) / B16 = q at *
    generalize B16 ^ i = p at *
    grind
  · intro h1 h2
    have hx0 : x = 0 := by rw [hx, List.getElem?_eq_none (by omega)]; rfl
    have hy0 : y = 0 := by rw [hy, List.getElem?_eq_none (by omega)]; rfl
    have hc1 : c = 1 := by omega
    subst hx0 hy0 hc1
    rw [val_snoc, hlz]
    have : (1 + (0 + 0)) % B16 = 1 := by decide
    rw [this]
    simp

set_option maxHeartbeats 1000000 in
theorem add_any (ao bo : Option Addr) (la lb ca cb : Nat) (m n : Nat) (W : World) (ha : N16 W ao la m) (hb : N16 W bo lb n) (hla : la ≤ 1000000000) (hlb : lb ≤ 1000000000) :
    Calls Tryz.prog 84 #[.slice ao la ca, .slice bo lb cb] W (Out16 W (m + n)) := by
  obtain ⟨xa, ha, hda, hta, rfl⟩ := ha
  obtain ⟨xb, hb, hdb, htb, rfl⟩ := hb
  have HA := Lib.hid ha
  have HB := Lib.hid hb
  have HDA := Lib.hid hda
  have HDB := Lib.hid hdb
  have HTA := Lib.hid hta
  have HTB := Lib.hid htb
  clear ha hb hda hdb hta htb
  go_enter Tryz.func84, Tryz.ntmps84
  go_wp2
  go_loopw [5, 6, 7] (fun ov cv iv wr => AddRel la lb xa xb W ov cv iv wr) (fun ov cv iv _ => la + lb + 2 - (intOf iv).toNat)
  case atStart => exact ⟨0, 0, [], rfl, rfl, Own.nil _ _ _ _, Dig.nil _, by omega, by omega, by simp [val], fun h => by omega, Below.refl _ _⟩
  case round =>
    obtain ⟨c, i, zs, rfl, rfl, hown, hd, hc, hi, hv, htop, hbel⟩ := hrel
    have GO := Lib.hid hown
    have GD := Lib.hid hd
    have GV := Lib.hid hv
    have GT := Lib.hid htop
    have GW := Lib.hid hbel
    clear hown hd hv htop hbel
    by_cases hgo : i < la ∨ i < lb ∨ 0 < c
    · have hx := HDA.out.get B16_pos i
      have hy := HDB.out.get B16_pos i
      have him : i ≤ max la lb := by
        rcases hgo with h | h | h
        · omega
        · omega
        · rcases Nat.lt_or_ge (max la lb) i with h4 | h4
          · exfalso
            have h1 := val_lt B16_pos HDA.out
            have h2 := val_lt B16_pos HDB.out
            rw [HA.out.len] at h1
            rw [HB.out.len] at h2
            have h3 := GV.out
            rw [List.take_of_length_le (by rw [HA.out.len]; omega), List.take_of_length_le (by rw [HB.out.len]; omega)] at h3
            have h5 : B16 ^ la ≤ B16 ^ (i - 1) := Nat.pow_le_pow_right B16_pos (by omega)
            have h6 : B16 ^ lb ≤ B16 ^ (i - 1) := Nat.pow_le_pow_right B16_pos (by omega)
            have h7 : B16 ^ i = B16 ^ (i - 1) * B16 := by rw [← Nat.pow_succ]; congr 1; omega
            obtain rfl : c = 1 := by omega
            rw [h7, B16_eq] at h3
            rw [B16_eq] at h1 h2 h5 h6
            omega
          · exact h4
      obtain ⟨x, hxe⟩ : ∃ x, x = xa[i]?.getD 0 := ⟨_, rfl⟩
      obtain ⟨y, hye⟩ : ∃ x, x = xb[i]?.getD 0 := ⟨_, rfl⟩
      rw [← hxe] at hx
      rw [← hye] at hy
      have HXB := Lib.hid hx
      have HYB := Lib.hid hy
      rw [B16_eq] at hx hy
      have HX := Lib.hid hxe
      have HY := Lib.hid hye
      have HAr := Lib.hid (HA.out.keep GW.out)
      have HBr := Lib.hid (HB.out.keep GW.out)
      clear hxe hye
      have hrest : i < la ∨ (¬ i < la ∧ (i < lb ∨ (¬ i < lb ∧ 0 < c))) := by omega
      rcases hrest with h1 | ⟨h1, h2 | ⟨h2, h3⟩⟩
      · have t1 : (i : Int) < (la : Int) := by omega
        go_wp2_with fail
        refine (at_any _ _ _ xa _ i _ HAr.out rfl).mono ?_
        rw [← HX.out]
        rintro e w1 ⟨rfl, rfl⟩
        go_wp2_with fail
        refine (at_any _ _ _ xb _ i _ HBr.out rfl).mono ?_
        rw [← HY.out]
        rintro e w1 ⟨rfl, rfl⟩
        go_wp2_with (at_builtin; refine wpList_app rfl _ _ 31 rfl W.heap.size 3 .i64 8 Tryz.underlying31 (by kernel_rfl) _ i zs rfl GO.out _ ((c + (x + y)) % B16) rfl (by rw [B16_eq]; omega) (by omega) (by omega) GW.out.size ?_; intro v' w2 hown' hbel')
        go_roundw
        case rel => exact add_rel GO.out.len GD.out hc him HA.out.len HB.out.len HX.out HY.out HXB.out HYB.out hgo GV.out GW.out hown' hbel' _ _ (by rw [B16_eq]; omega) rfl
        case measure => simp only [intOf]; omega
      · have t1 : ¬ (i : Int) < (la : Int) := by omega
        have t2 : (i : Int) < (lb : Int) := by omega
        go_wp2_with fail
        refine (at_any _ _ _ xa _ i _ HAr.out rfl).mono ?_
        rw [← HX.out]
        rintro e w1 ⟨rfl, rfl⟩
        go_wp2_with fail
        refine (at_any _ _ _ xb _ i _ HBr.out rfl).mono ?_
        rw [← HY.out]
        rintro e w1 ⟨rfl, rfl⟩
        go_wp2_with (at_builtin; refine wpList_app rfl _ _ 31 rfl W.heap.size 3 .i64 8 Tryz.underlying31 (by kernel_rfl) _ i zs rfl GO.out _ ((c + (x + y)) % B16) rfl (by rw [B16_eq]; omega) (by omega) (by omega) GW.out.size ?_; intro v' w2 hown' hbel')
        go_roundw
        case rel => exact add_rel GO.out.len GD.out hc him HA.out.len HB.out.len HX.out HY.out HXB.out HYB.out hgo GV.out GW.out hown' hbel' _ _ (by rw [B16_eq]; omega) rfl
        case measure => simp only [intOf]; omega
      · have t1 : ¬ (i : Int) < (la : Int) := by omega
        have t2 : ¬ (i : Int) < (lb : Int) := by omega
        have t3 : (0 : Int) < (c : Int) := by omega
        go_wp2_with fail
        refine (at_any _ _ _ xa _ i _ HAr.out rfl).mono ?_
        rw [← HX.out]
        rintro e w1 ⟨rfl, rfl⟩
        go_wp2_with fail
        refine (at_any _ _ _ xb _ i _ HBr.out rfl).mono ?_
        rw [← HY.out]
        rintro e w1 ⟨rfl, rfl⟩
        go_wp2_with (at_builtin; refine wpList_app rfl _ _ 31 rfl W.heap.size 3 .i64 8 Tryz.underlying31 (by kernel_rfl) _ i zs rfl GO.out _ ((c + (x + y)) % B16) rfl (by rw [B16_eq]; omega) (by omega) (by omega) GW.out.size ?_; intro v' w2 hown' hbel')
        go_roundw
        case rel => exact add_rel GO.out.len GD.out hc him HA.out.len HB.out.len HX.out HY.out HXB.out HYB.out hgo GV.out GW.out hown' hbel' _ _ (by rw [B16_eq]; omega) rfl
        case measure => simp only [intOf]; omega
    · have t1 : ¬ (i : Int) < (la : Int) := by omega
      have t2 : ¬ (i : Int) < (lb : Int) := by omega
      obtain rfl : c = 0 := by omega
      obtain ⟨oo, cap, rfl, hlc, hcm, hsl⟩ := GO.out.sl
      have HS := Lib.hid hsl
      clear hsl
      go_wp2
      go_ret
      have hval : val B16 zs = val B16 xa + val B16 xb := by
        have h := GV.out
        rw [List.take_of_length_le (l := xa) (by rw [HA.out.len]; omega), List.take_of_length_le (l := xb) (by rw [HB.out.len]; omega)] at h
        omega
      have hzl := GO.out.len
      refine ⟨oo, i, cap, rfl, hlc, hcm, ⟨zs, HS.out, GD.out, top_of_ge B16_pos GD.out (fun hne => ?_), hval⟩, GW.out⟩
      rw [hzl]
      by_cases h5 : la < i
      · by_cases h6 : lb < i
        · exact GT.out h5 h6
        · have : i = lb := by omega
          have := val_ge (B := B16) HTB.out (by intro e; have := HB.out.len; rw [e] at this; simp at this; exact hne (List.eq_nil_of_length_eq_zero (by omega)))
          rw [HB.out.len] at this
          rw [hval, ‹i = lb›]; omega
      · have : i = la := by omega
        have := val_ge (B := B16) HTA.out (by intro e; have := HA.out.len; rw [e] at this; simp at this; exact hne (List.eq_nil_of_length_eq_zero (by omega)))
        rw [HA.out.len] at this
        rw [hval, ‹i = la›]; omega
end Go.Proofs.YtcgnmihabkgecaaGreat

/- The specification's integers: made, Of, bitLen, BitLen, Sign. -/
set_option linter.unusedVariables false
namespace Go.Proofs.YtcgnmihabkgecaaGreat
open Go.RowKit

def Z16 (w : World) (neg : Bool) (ao : Option Addr) (len : Nat) (z : Int) : Prop := ∃ n, N16 w ao len n ∧ z = sgn neg n ∧ (neg = true → n ≠ 0)

theorem Z16.keep {w w' : World} {neg : Bool} {ao : Option Addr} {len : Nat} {z : Int} (h : Z16 w neg ao len z) (hb : Below w.heap.size w w') : Z16 w' neg ao len z := by
  obtain ⟨n, h1, h2⟩ := h
  exact ⟨n, h1.keep hb, h2⟩

theorem Z16.n16 {w : World} {neg : Bool} {ao : Option Addr} {len : Nat} {z : Int} (h : Z16 w neg ao len z) : N16 w ao len z.natAbs := by
  obtain ⟨n, h1, rfl, _⟩ := h
  rw [sgn_natAbs]; exact h1

theorem Z16.neg_eq {w : World} {neg : Bool} {ao : Option Addr} {len : Nat} {z : Int} (h : Z16 w neg ao len z) : neg = decide (z < 0) := by
  obtain ⟨n, h1, rfl, h3⟩ := h
  cases neg with
  | true => have := h3 rfl; simp only [sgn, if_true]; symm; simp; omega
  | false => simp [sgn]

theorem Z16.zero {w : World} {neg : Bool} {ao : Option Addr} {len : Nat} {z : Int} (h : Z16 w neg ao len z) : z = 0 ↔ len = 0 := by
  rw [← h.n16.zero]; omega

theorem N16.setFr {W w : World} {bs : List (Nat × Array Value)} {ao : Option Addr} {len n : Nat} (h : N16 w ao len n) (hf : Fr W w bs) (i j : Nat) {T : Nat} {c : Array Value} (hi : bs[i]? = some (T, c)) (hc : noInts c = true) (u : Value) :
    N16 (w.setCell ⟨W.heap.size + i, j, none⟩ u) ao len n := by
  obtain ⟨xs, h1, h2⟩ := h
  exact ⟨xs, h1.setBox (hf.box i T c hi) (noInts_get hc) j u, h2⟩

theorem Z16.setFr {W w : World} {bs : List (Nat × Array Value)} {neg : Bool} {ao : Option Addr} {len : Nat} {z : Int} (h : Z16 w neg ao len z) (hf : Fr W w bs) (i j : Nat) {T : Nat} {c : Array Value} (hi : bs[i]? = some (T, c)) (hc : noInts c = true) (u : Value) :
    Z16 (w.setCell ⟨W.heap.size + i, j, none⟩ u) neg ao len z := by
  obtain ⟨n, h1, h2⟩ := h
  exact ⟨n, h1.setFr hf i j hi hc u, h2⟩

/-- an integer of the specification is stored in the call's own block number i -/
theorem Fr.finJ {W w : World} {bs : List (Nat × Array Value)} {neg : Bool} {ao : Option Addr} {len cap : Nat} {z : Int} (hf : Fr W w bs) (i : Nat) {T : Nat} {e0 : Bool} {a1 : Option Addr} {l1 c1 : Nat}
    (hi : bs[i]? = some (T, #[.bool e0, .slice a1 l1 c1])) (h : Z16 w neg ao len z) :
    let w' := (w.setCell ⟨W.heap.size + i, 0, none⟩ (.bool neg)).setCell ⟨W.heap.size + i, 1, none⟩ (.slice ao len cap)
    w'.cell? ⟨W.heap.size + i, 0, none⟩ = some (.bool neg) ∧ w'.cell? ⟨W.heap.size + i, 1, none⟩ = some (.slice ao len cap) ∧ Z16 w' neg ao len z ∧ Below W.heap.size W w' ∧ Fr W w' (bs.set i (T, #[.bool neg, .slice ao len cap])) := by
  have hl := (List.getElem?_eq_some_iff.1 hi).1
  have k1 := hf.set i 0 hi (.bool neg)
  have i1 : (bs.set i (T, #[.bool neg, .slice a1 l1 c1]))[i]? = some (T, #[.bool neg, .slice a1 l1 c1]) := List.getElem?_set_self hl
  have q1 := h.setFr hf i 0 hi rfl (.bool neg)
  have k2 := k1.set i 1 i1 (.slice ao len cap)
  have i2 : ((bs.set i (T, #[.bool neg, .slice a1 l1 c1])).set i (T, #[.bool neg, .slice ao len cap]))[i]? = some (T, #[.bool neg, .slice ao len cap]) := List.getElem?_set_self (by simpa using hl)
  have q2 := q1.setFr k1 i 1 i1 rfl (.slice ao len cap)
  refine ⟨k2.cell i 0 i2 rfl, k2.cell i 1 i2 rfl, q2, k2.below, ?_⟩
  have := k2
  rw [List.set_set] at this
  exact this

def OutJ (W : World) (z : Int) (e : Ending) (w' : World) : Prop := ∃ neg ao len cap, e = .returned (.agg #[.bool neg, .slice ao len cap]) ∧ len ≤ cap ∧ cap ≤ 9223372036854775807 ∧ Z16 w' neg ao len z ∧ Below W.heap.size W w'

/-- made of a row that may have zeros at its top -/
theorem made_raw (s : Bool) (ao : Option Addr) (len cap n : Nat) (xs : List Nat) (W : World) (h : Sl .i64 W ao len xs) (hd : Dig B16 xs) (hv : val B16 xs = n) (hcap : len ≤ cap) (hl : cap ≤ 9223372036854775807) :
    Calls Tryz.prog 53 #[.bool s, .slice ao len cap] W (OutJ W (sgn s n)) := by
  have HS := Lib.hid (h.keep (box_below W 33 #[.bool false, .slice none 0 0]))
  have H0 := Lib.hid h
  have HD := Lib.hid hd
  have HV := Lib.hid hv
  clear h hd hv
  go_enter Tryz.func53, Tryz.ntmps53
  go_wp2_with fail
  refine (trim16_raw _ _ _ xs _ HS.out hcap hl).mono ?_
  rintro e w1 ⟨⟨ao', m, rfl, hm, ha', ht, hz⟩, rfl⟩
  have hN : N16 W ao' m n := ⟨xs.take m, trim_sl H0.out hm ha', HD.out.take _, ht, by rw [val_take_of_zeros hz]; exact HV.out⟩
  have hnz := hN.zero
  have HN := Lib.hid hN
  have HNZ := Lib.hid hnz
  have hmc : m ≤ cap := by omega
  clear ha' ht hz hN hnz
  cases s with
  | false =>
    go_wp2
    exact bodyPost_ret (v := .agg #[.bool false, .slice ao' m cap]) (by simp [results, Tryz.results53, go_sem]) rfl ⟨false, ao', m, cap, rfl, hmc, hl, ⟨n, HN.out.keep (box_below _ _ _), rfl, by simp⟩, box_below _ _ _⟩
  | true =>
    by_cases h0 : m = 0
    · have q3 : decide (0 < m) = false := by simp; omega
      have q1 : ¬ (0 : Int) < (m : Int) := by omega
      have hn0 := Lib.hid (HNZ.out.2 h0)
      clear h0
      go_wp2
      exact bodyPost_ret (v := .agg #[.bool false, .slice ao' m cap]) (by simp [results, Tryz.results53, go_sem]) rfl ⟨false, ao', m, cap, rfl, hmc, hl, ⟨n, HN.out.keep (box_below _ _ _), by rw [hn0.out]; rfl, by simp⟩, box_below _ _ _⟩
    · have q3 : decide (0 < m) = true := by simp; omega
      have q1 : (0 : Int) < (m : Int) := by omega
      have hn0 : Hid (n ≠ 0) := fun h => h0 (HNZ.out.1 h)
      clear h0
      go_wp2
      exact bodyPost_ret (v := .agg #[.bool true, .slice ao' m cap]) (by simp [results, Tryz.results53, go_sem]) rfl ⟨true, ao', m, cap, rfl, hmc, hl, ⟨n, HN.out.keep (box_below _ _ _), rfl, fun _ => hn0.out⟩, box_below _ _ _⟩

theorem made_any (s : Bool) (ao : Option Addr) (len cap n : Nat) (W : World) (h : N16 W ao len n) (hcap : len ≤ cap) (hl : cap ≤ 9223372036854775807) :
    Calls Tryz.prog 53 #[.bool s, .slice ao len cap] W (OutJ W (sgn s n)) := by
  obtain ⟨xs, h1, h2, h3, h4⟩ := h
  exact made_raw s ao len cap n xs W h1 h2 h4 hcap hl

set_option maxHeartbeats 800000 in
theorem refOf_any (z : Int) (W : World) (h1 : -9223372036854775808 ≤ z) (h2 : z ≤ 9223372036854775807) :
    Calls Tryz.prog 36 #[.int .i64 z] W (OutJ W z) := by
  have hf : Fr W (W.alloc (.cells #[.bool false, .slice none 0 0] 33)) [(33, #[.bool false, .slice none 0 0])] := (Fr.nil W).alloc rfl _ _
  have HF := Lib.hid hf
  clear hf
  by_cases h0 : 0 ≤ z
  · obtain ⟨n, rfl⟩ : ∃ n : Nat, z = (n : Int) := ⟨z.toNat, by omega⟩
    have b1 : (n : Int) ≤ 9223372036854775807 := h2
    go_enter Tryz.func36, Tryz.ntmps36
    go_wp2_with fail
    refine (of_any _ n _ rfl (by omega)).mono ?_
    rintro e w1 ⟨ao, len, cap, rfl, hlc, hcm, hn1, hb1⟩
    have HF1 := Lib.hid (HF.out.later hb1)
    have HN := Lib.hid hn1
    clear hn1 hb1
    go_wp2_with fail
    refine (made_any false ao len cap n w1 HN.out hlc hcm).mono ?_
    rintro e w2 ⟨neg, uo, ul, uc, rfl, huc, hum, hz2, hb2⟩
    have HF2 := Lib.hid (HF1.out.later hb2)
    have HZ2 := Lib.hid hz2
    clear hz2 hb2
    have g0 : w2.cell? ⟨W.heap.size, 0, none⟩ = some (.bool false) := HF2.out.cell 0 0 rfl rfl
    have g1 : w2.cell? ⟨W.heap.size, 1, none⟩ = some (.slice none 0 0) := HF2.out.cell 0 1 rfl rfl
    have g2 : w2.frozen? ⟨W.heap.size, 0, none⟩ = false := HF2.out.frozen 0 0 rfl
    have g3 : w2.frozen? ⟨W.heap.size, 1, none⟩ = false := HF2.out.frozen 0 1 rfl
    go_wp2
    obtain ⟨e0, e1, hz, hbel, _⟩ := HF2.out.finJ (cap := uc) 0 rfl HZ2.out
    exact bodyPost_ret (v := .agg #[.bool neg, .slice uo ul uc]) (by simp only [Nat.add_zero] at e0 e1; simp [results, Tryz.results36, go_sem, e0, e1]) rfl ⟨neg, uo, ul, uc, rfl, huc, hum, hz, hbel⟩
  · have b0 : z < 0 := by omega
    clear h0
    go_enter Tryz.func36, Tryz.ntmps36
    go_wp2_with fail
    refine (of_any _ (-(z + 1)).toNat _ (by omega) (by omega)).mono ?_
    rintro e w1 ⟨ao, len, cap, rfl, hlc, hcm, hn1, hb1⟩
    have hl1 : len ≤ 4 := hn1.len_le (by have : B16 ^ 4 = 18446744073709551616 := by decide
                                         omega)
    have HF1 := Lib.hid (HF.out.later hb1)
    have HN := Lib.hid hn1
    clear hn1 hb1
    go_wp2_with fail
    refine (of_any 1 1 _ rfl (by omega)).mono ?_
    rintro e w2 ⟨bo, bl, bc, rfl, hlc2, hcm2, hn2, hb2⟩
    have hl2 : bl ≤ 1 := hn2.len_le (by decide)
    have HF2 := Lib.hid (HF1.out.later hb2)
    have HN2 := Lib.hid (HN.out.keep hb2)
    have HB2 := Lib.hid hn2
    clear hn2 hb2
    go_wp2_with fail
    refine (add_any _ _ _ _ _ _ _ _ _ HN2.out HB2.out (by omega) (by omega)).mono ?_
    rintro e w3 ⟨so, sl, sc, rfl, hlc3, hcm3, hn3, hb3⟩
    have HF3 := Lib.hid (HF2.out.later hb3)
    have HN3 := Lib.hid hn3
    clear hn3 hb3
    go_wp2_with fail
    refine (made_any true so sl sc _ w3 HN3.out hlc3 hcm3).mono ?_
    rintro e w4 ⟨neg, uo, ul, uc, rfl, huc, hum, hz4, hb4⟩
    have HF4 := Lib.hid (HF3.out.later hb4)
    have hz5 : Z16 w4 neg uo ul z := by
      have e : sgn true ((-(z + 1)).toNat + 1) = z := by rw [sgn_true]; omega
      rw [e] at hz4
      exact hz4
    have HZ4 := Lib.hid hz5
    clear hz4 hb4 hz5
    have g0 : w4.cell? ⟨W.heap.size, 0, none⟩ = some (.bool false) := HF4.out.cell 0 0 rfl rfl
    have g1 : w4.cell? ⟨W.heap.size, 1, none⟩ = some (.slice none 0 0) := HF4.out.cell 0 1 rfl rfl
    have g2 : w4.frozen? ⟨W.heap.size, 0, none⟩ = false := HF4.out.frozen 0 0 rfl
    have g3 : w4.frozen? ⟨W.heap.size, 1, none⟩ = false := HF4.out.frozen 0 1 rfl
    go_wp2
    obtain ⟨e0, e1, hz, hbel, _⟩ := HF4.out.finJ (cap := uc) 0 rfl HZ4.out
    exact bodyPost_ret (v := .agg #[.bool neg, .slice uo ul uc]) (by simp only [Nat.add_zero] at e0 e1; simp [results, Tryz.results36, go_sem, e0, e1]) rfl ⟨neg, uo, ul, uc, rfl, huc, hum, hz, hbel⟩

set_option maxHeartbeats 400000 in
theorem sign16_any (neg : Bool) (ao : Option Addr) (len cap : Nat) (z : Int) (W : World) (h : Z16 W neg ao len z) :
    Calls Tryz.prog 56 #[.agg #[.bool neg, .slice ao len cap]] W (fun e w' => e = .returned (.int .i64 z.sign) ∧ Below W.heap.size W w') := by
  have hne := h.neg_eq
  have hz := h.zero
  cases neg with
  | true =>
    have hs : z.sign = -1 := Int.sign_eq_neg_one_of_neg (by simpa using hne.symm)
    rw [hs]
    clear h hne hz hs
    go_enter Tryz.func56, Tryz.ntmps56
    go_wp2
    go_ret
    exact ⟨rfl, box_below _ _ _⟩
  | false =>
    have hnn : 0 ≤ z := by have := hne.symm; simp at this; omega
    by_cases hl : 0 < len
    · have hs : z.sign = 1 := Int.sign_eq_one_of_pos (by omega)
      rw [hs]
      have b1 : (0 : Int) < (len : Int) := by omega
      have b2 : decide (0 < len) = true := by simp; omega
      clear h hne hz hs hl
      go_enter Tryz.func56, Tryz.ntmps56
      go_wp2
      go_ret
      exact ⟨rfl, box_below _ _ _⟩
    · have hs : z.sign = 0 := by rw [show z = 0 by omega]; rfl
      rw [hs]
      have b1 : ¬ (0 : Int) < (len : Int) := by omega
      have b2 : decide (0 < len) = false := by simp; omega
      clear h hne hz hs hl
      go_enter Tryz.func56, Tryz.ntmps56
      go_wp2
      go_ret
      exact ⟨rfl, box_below _ _ _⟩

theorem blen_half {t : Nat} (h : 0 < t) : blen t = blen (t / 2) + 1 := by
  by_cases h1 : t = 1
  · subst h1; decide
  · have a := blen_low (n := t / 2) (by omega)
    have b := blen_lt (t / 2)
    have c : blen (t / 2) ≠ 0 := by intro e; rw [e] at b; simp at b; omega
    exact blen_eq (by rw [show blen (t / 2) = (blen (t / 2) - 1) + 1 by omega, Nat.pow_succ]; omega) (by rw [Nat.pow_succ]; omega)

theorem blen_digits16 {n m t l : Nat} (hm : m < 2 ^ (16 * l)) (ht : t ≠ 0) (hn : n = m + 2 ^ (16 * l) * t) : blen n = 16 * l + blen t := by
  have h1 := blen_low ht
  have h2 := blen_lt t
  have h3 : blen t ≠ 0 := by intro e; rw [e] at h2; simp at h2; omega
  have e : blen n = (16 * l + (blen t - 1)) + 1 := by
    apply blen_eq
    · rw [Nat.pow_add]
      have := Nat.mul_le_mul_left (2 ^ (16 * l)) h1
      omega
    · rw [Nat.add_assoc, show blen t - 1 + 1 = blen t by omega, Nat.pow_add]
      have := Nat.mul_le_mul_left (2 ^ (16 * l)) (Nat.succ_le_of_lt h2)
      rw [Nat.succ_eq_add_one, Nat.mul_add] at this
      omega
  omega

theorem B16_pow (k : Nat) : B16 ^ k = 2 ^ (16 * k) := by
  rw [Nat.pow_mul]; rfl

set_option maxHeartbeats 400000 in
theorem bitLen16_raw (ao : Option Addr) (len cap : Nat) (n : Nat) (w : World) (hs : N16 w ao len n) (hl : len ≤ 1000000000) :
    Calls Tryz.prog 110 #[.slice ao len cap] w fun e w' => e = .returned (.int .i64 (blen n : Nat)) ∧ w = w' := by
  obtain ⟨xs, ⟨hx, b, off, h0, hc⟩, hd, ht, hv⟩ := hs
  by_cases hz : len = 0
  · have hn : n = 0 := by
      obtain rfl : xs = [] := List.eq_nil_of_length_eq_zero (by omega)
      exact hv.symm
    rw [hn]
    subst hz
    clear hx hc hv hd ht h0 hl hn
    go_enter Tryz.func110, Tryz.ntmps110
    go_wp2
    go_ret
    exact ⟨rfl, rfl⟩
  · obtain ⟨m, rfl⟩ : ∃ m, len = m + 1 := ⟨len - 1, by omega⟩
    obtain rfl := h0 (by omega)
    have hcell := hc m (by omega)
    have hb := hd.get B16_pos m
    have hne : xs[m]?.getD 0 ≠ 0 := by
      have := ht (by intro e; simp [e] at hx)
      rw [List.getLastD_eq_getLast?, List.getLast?_eq_getElem?, hx] at this
      simpa using this
    have hval : n = val B16 (xs.take m) + 2 ^ (16 * m) * (xs[m]?.getD 0) := by
      rw [← hv, ← B16_pow, ← val_take_succ, List.take_of_length_le (by omega)]
    have hlt : val B16 (xs.take m) < 2 ^ (16 * m) := by
      have := val_lt B16_pos (hd.take m)
      rw [List.length_take, Nat.min_eq_left (by omega), B16_pow] at this
      exact this
    have hfin := blen_digits16 hlt hne hval
    rw [hfin]
    obtain ⟨x, hxe⟩ : ∃ x, x = xs[m]?.getD 0 := ⟨_, rfl⟩
    rw [← hxe] at hcell hb hne ⊢
    rw [B16_eq] at hb
    have hm : m ≤ 1000000000 := by omega
    clear hx hc hv hd ht h0 hl hz hval hlt hfin hxe hne
    go_enter Tryz.func110, Tryz.ntmps110
    go_wp2_with fail
    go_loop [3, 4] (fun nv xv => ∃ (k t : Nat), nv = .int .i64 (k : Int) ∧ xv = .int .i64 (t : Int) ∧ k + blen t = 16 * m + blen x ∧ t < 65536 ∧ k ≤ 16 * m + blen x) (fun nv xv => (intOf xv).toNat)
    case atStart => exact ⟨16 * m, x, by first | rfl | exact congrArg (Value.int _) (by omega), rfl, rfl, hb, by omega⟩
    case round =>
      obtain ⟨k, t, rfl, rfl, hk, ht, hkk⟩ := hrel
      have HK := Lib.hid hk
      have hbx : blen x ≤ 16 := blen_le.2 hb
      have hk32 : k ≤ 16000000016 := by omega
      clear hk hkk hbx
      by_cases ht0 : t = 0
      · subst ht0
        go_wp2
        go_ret
        exact ⟨ret_int (by have := HK.out; rw [blen_zero] at this; omega), rfl⟩
      · have t1 : (0 : Int) < (t : Int) := by omega
        go_wp2
        go_round
        case rel => exact ⟨k + 1, t / 2, by go_num, congrArg (Value.int _) (by omega), by have := HK.out; have := blen_half (t := t) (by omega); omega, by omega, by have := HK.out; have := blen_half (t := t) (by omega); omega⟩
        case measure => simp only [intOf]; omega

set_option maxHeartbeats 400000 in
theorem bitLen16_any (neg : Bool) (ao : Option Addr) (len cap : Nat) (z : Int) (W : World) (h : Z16 W neg ao len z) (hl : len ≤ 1000000000) :
    Calls Tryz.prog 117 #[.agg #[.bool neg, .slice ao len cap]] W (fun e w' => e = .returned (.int .i64 (blen z.natAbs : Nat)) ∧ Below W.heap.size W w') := by
  have HN := Lib.hid (h.n16.keep (box_below W 33 #[.bool neg, .slice ao len cap]))
  clear h
  go_enter Tryz.func117, Tryz.ntmps117
  go_wp2_with (go_at_call 110; refine (bitLen16_raw _ _ _ _ _ HN.out hl).mono ?_; rintro e w1 ⟨rfl, rfl⟩)
  go_ret
  exact ⟨rfl, box_below _ _ _⟩
end Go.Proofs.YtcgnmihabkgecaaGreat

/- The specification's small, text, Text. -/
set_option linter.unusedVariables false
namespace Go.Proofs.YtcgnmihabkgecaaGreat
open Go.RowKit

theorem small_step {B d r i x : Nat} {zs : List Nat} {top : Nat} (hi : i < zs.length) (hd : 0 < d) (h : d * (B ^ (i + 1) * val B (zs.drop (i + 1))) + r * B ^ (i + 1) = B ^ (i + 1) * top) :
    d * (B ^ i * val B ((zs.set i ((r * B + x) / d)).drop i)) + ((r * B + x) % d) * B ^ i = B ^ i * (x + B * top) := by
  have e : (zs.set i ((r * B + x) / d)).drop i = (r * B + x) / d :: zs.drop (i + 1) := by
    rw [drop_eq_cons _ i (by simpa using hi)]
    rw [List.drop_set_of_lt (by omega)]
    simp [List.getElem?_set_self hi]
  rw [e, val_cons]
  have h2 := Nat.div_add_mod (r * B + x) d
  generalize (r * B + x) / d = q at *
  generalize (r * B + x) % d = t at *
  generalize val B (zs.drop (i + 1)) = v at *
  rw [Nat.pow_succ] at h
  generalize B ^ i = p at *
  grind

def SmallRel (g la d : Nat) (xs : List Nat) (W : World) (rv iv : Value) (wr : World) : Prop :=
  ∃ (r i : Nat) (zs : List Nat), rv = .int .i64 (r : Int) ∧ iv = .int .i64 ((i : Int) - 1) ∧ Blk .i64 wr g 3 zs ∧ zs.length = la ∧ Dig B16 zs ∧ i ≤ la ∧ r < d ∧
    d * (B16 ^ i * val B16 (zs.drop i)) + r * B16 ^ i = B16 ^ i * val B16 (xs.drop i) ∧ Below W.heap.size W wr

def SmallPost (n d : Nat) (W : World) (e : Ending) (w' : World) : Prop :=
  ∃ ao len cap, e = .returned (.tuple #[.slice ao len cap, .int .i64 ((n % d : Nat) : Int)]) ∧ len ≤ cap ∧ cap ≤ 9223372036854775807 ∧ (0 < len → ao = some ⟨W.heap.size, 0, none⟩) ∧ N16 w' ao len (n / d) ∧ Below W.heap.size W w'

set_option maxHeartbeats 1000000 in
theorem small_any (ao : Option Addr) (la ca n : Nat) (D : Int) (d : Nat) (W : World) (h : N16 W ao la n) (hD : D = (d : Int)) (hd0 : 0 < d) (hdB : d ≤ 65536) (hla : la ≤ 1000000000) :
    Calls Tryz.prog 138 #[.slice ao la ca, .int .i64 D] W (SmallPost n d W) := by
  subst hD
  obtain ⟨xs, hs, hd, ht, hv⟩ := h
  have HS := Lib.hid hs
  have HD := Lib.hid hd
  have HV := Lib.hid hv
  obtain ⟨hx, b, off, hao, hc⟩ := hs
  have HX := Lib.hid hx
  have HA := Lib.hid hao
  have HC := Lib.hid hc
  have HG := Lib.hid (Nat.le_refl W.heap.size)
  clear hd ht hv hx hao hc
  go_enter Tryz.func138, Tryz.ntmps138
  go_wp2_with (at_make; refine wpList_mk rfl _ 31 rfl 3 .i64 8 Tryz.underlying31 (by kernel_rfl) _ la rfl rfl (by omega) (by omega) ?_; intro w1 hB1 hb1 hz1)
  go_loopw [7, 8] (fun rv iv wr => SmallRel W.heap.size la d xs W rv iv wr) (fun rv iv _ => (intOf iv + 1).toNat)
  case atStart =>
    exact ⟨0, la, _, rfl, rfl, hB1, by simp, Dig.replicate B16_pos _, Nat.le_refl _, hd0, by rw [List.drop_of_length_le (by simp), List.drop_of_length_le (by rw [HX.out]; exact Nat.le_refl _)]; simp [val], hb1⟩
  case round =>
    obtain ⟨r, i, zs, rfl, rfl, hB, hzl, hdz, hi, hr, hv, hbel⟩ := hrel
    have GZ := Lib.hid hB
    have GL := Lib.hid hzl
    have GD := Lib.hid hdz
    have GV := Lib.hid hv
    have GW := Lib.hid hbel
    clear hB hzl hdz hv hbel
    by_cases hi0 : i = 0
    · subst hi0
      have HSl := Lib.hid (GZ.out.whole GL.out)
      go_wp2_with (go_at_call 95; refine (trim16_raw _ _ _ _ _ HSl.out (by omega) (by omega)).mono ?_; rintro e w3 ⟨⟨ao', m, rfl, hm, ha', ht, hzz⟩, rfl⟩)
      go_ret2
      have hv := GV.out
      simp only [Nat.pow_zero, List.drop_zero, Nat.one_mul, Nat.mul_one, HV.out] at hv
      have hq : val B16 zs = n / d := by
        rw [← hv, Nat.mul_add_div hd0, Nat.div_eq_of_lt hr, Nat.add_zero]
      have hm2 : r = n % d := by
        rw [← hv, Nat.mul_add_mod, Nat.mod_eq_of_lt hr]
      exact ⟨ao', m, la, by rw [← hm2]; rfl, hm, by omega, ha', ⟨_, trim_sl HSl.out hm ha', GD.out.take _, ht, by rw [val_take_of_zeros hzz, hq]⟩, GW.out⟩
    · obtain ⟨j, rfl⟩ : ∃ j, i = j + 1 := ⟨i - 1, by omega⟩
      have e1 : (((j + 1 : Nat) : Int) - 1) = (j : Int) := by omega
      rw [e1]
      clear e1
      obtain rfl := HA.out (by omega)
      have c1 := GZ.out.cell j (by rw [GL.out]; omega)
      have f1 := GZ.out.frozen j
      have c2 := cell_later GW.out (HC.out j (by omega))
      have hx := HD.out.get B16_pos j
      obtain ⟨x, hxe⟩ : ∃ x, x = xs[j]?.getD 0 := ⟨_, rfl⟩
      rw [← hxe] at c2 hx
      have HXE := Lib.hid hxe
      rw [B16_eq] at hx
      clear hxe
      have b1 : (0 : Int) ≤ (j : Int) := by omega
      have b2 : (j : Int) < (la : Int) := by omega
      have b3 : (r : Int) < (d : Int) := by omega
      have b4 : (1 : Int) ≤ (d : Int) := by omega
      have hN : r * B16 + x < d * B16 := by
        have : (r + 1) * B16 ≤ d * B16 := Nat.mul_le_mul_right _ hr
        rw [B16_eq] at *
        omega
      have hq : (r * B16 + x) / d < B16 := Nat.div_lt_of_lt_mul hN
      have HQ := Lib.hid hq
      clear hN hq
      go_wp2
      refine ⟨?_, by simp [intOf]⟩
      have ec : ((r : Int) * 65536 + (x : Int)) = ((r * B16 + x : Nat) : Int) := by rw [B16_eq]; omega
      rw [ec]
      refine ⟨(r * B16 + x) % d, j, zs.set j ((r * B16 + x) / d), congrArg (Value.int _) (Int.natCast_emod _ _).symm, rfl, GZ.out.set _ _ _ (Int.natCast_ediv _ _).symm, by simpa using GL.out, GD.out.set _ HQ.out, by omega, Nat.mod_lt _ hd0, ?_, GW.out.setCell (Nat.le_refl _) _⟩
      have hs := small_step (B := B16) (d := d) (r := r) (i := j) (x := x) (zs := zs) (top := val B16 (xs.drop (j + 1))) (by rw [GL.out]; omega) hd0 GV.out
      rw [drop_eq_cons xs j (by rw [HX.out]; omega), val_cons, ← HXE.out]
      exact hs

/-- the number that a slice of the specification's digits reads as: for a loop's measure -/
def readN16 (w : World) : Value → Nat
  | .slice (some a) l _ => val B16 ((List.range l).map fun i => match w.cell? ⟨a.block, a.off + i, none⟩ with | some (.int _ x) => x.toNat | _ => 0)
  | _ => 0

theorem readN16_of {w : World} {ao : Option Addr} {len cap n : Nat} (hn : N16 w ao len n) : readN16 w (.slice ao len cap) = n := by
  obtain ⟨xs, h, _, _, hv⟩ := hn
  rw [← hv]
  obtain ⟨h1, b, off, h2, h3⟩ := h
  by_cases h0 : len = 0
  · obtain rfl : xs = [] := List.eq_nil_of_length_eq_zero (by omega)
    subst h0
    cases ao <;> rfl
  · rw [h2 (by omega)]
    simp only [readN16]
    congr 1
    apply List.ext_getElem
    · simp [h1]
    · intro i h4 h5
      simp only [List.getElem_map, List.getElem_range]
      rw [h3 i (by simpa using h4)]
      simp [List.getElem?_eq_getElem h5]

def TxtRel (n : Nat) (W : World) (av bv : Value) (wr : World) : Prop :=
  ∃ (ao : Option Addr) (len cap k v : Nat) (ts : List Nat), av = .slice ao len cap ∧ len ≤ 1000000000 ∧ N16 wr ao len v ∧ Own .u8 wr W.heap.size 5 bv k (ts.map (48 + ·)) ∧ Dig 10 ts ∧ val 10 ts + 10 ^ ts.length * v = n ∧ (v = 0 → ts ≠ [] ∧ Top ts) ∧ v ≤ n ∧ Below W.heap.size W wr

/-- what the call owns stays so while only blocks that did not exist are made -/
theorem Own.later {k : IntKind} {w w' : World} {base e n : Nat} {v : Value} {xs : List Nat} (h : Own k w base e v n xs) (hb : Below w.heap.size w w') : Own k w' base e v n xs := by
  have hlt := World.ownsRow.lt h
  refine ⟨h.1, ?_⟩
  rcases h.2 with h2 | ⟨g, cap, cur, rfl, hg, hh, r⟩
  · exact .inl h2
  · exact .inr ⟨g, cap, cur, rfl, hg, (hb.block g (Array.getElem?_eq_some_iff.1 hh).1).trans hh, r⟩

def RvRel (base g n cap : Nat) (xs : List Nat) (W : World) (iv jv : Value) (wr : World) : Prop :=
  ∃ (i : Nat) (zs : List Nat), iv = .int .i64 (i : Int) ∧ jv = .int .i64 ((n : Int) - 1 - (i : Int)) ∧ 2 * i ≤ n + 1 ∧ Own .u8 wr base 5 (.slice (some ⟨g, 0, none⟩) n cap) n zs ∧ Turned xs zs i ∧ Below base W wr

theorem text_len16 {n la k : Nat} (h : 10 ^ k ≤ n) (hn : n < B16 ^ la) : k ≤ 16 * la := by
  rw [B16_pow] at hn
  have h1 : 2 ^ k ≤ 10 ^ k := Nat.pow_le_pow_left (by decide) k
  have h2 : 2 ^ k < 2 ^ (16 * la) := by omega
  have := (Nat.pow_lt_pow_iff_right (show 1 < 2 by decide)).1 h2
  omega

theorem pow_len {ts : List Nat} {n v : Nat} (h : val 10 ts + 10 ^ ts.length * v = n) (hv : 0 < v) : 10 ^ ts.length ≤ n := by
  have := Nat.mul_le_mul_left (10 ^ ts.length) hv
  omega

set_option maxHeartbeats 2000000 in
theorem text_any (ao : Option Addr) (la ca n : Nat) (W : World) (ha : N16 W ao la n) (hla : la ≤ 1000000000) :
    Calls Tryz.prog 118 #[.slice ao la ca] W (StrPost (numeral n) W) := by
  have hlt := ha.lt
  have hz := ha.zero
  have HA := Lib.hid ha
  have HLT := Lib.hid hlt
  by_cases h0 : la = 0
  · have hn : n = 0 := hz.2 h0
    have HN : Hid (StrPost (numeral n) W = StrPost [48] W) := by
      rw [hn]; rfl
    rw [HN.out]
    subst h0
    clear ha hlt hz hn HN HLT
    go_enter Tryz.func118, Tryz.ntmps118
    go_wp2
    go_ret
    exact ⟨rfl, Below.refl _ _⟩
  · have hn0 : n ≠ 0 := fun h => h0 (hz.1 h)
    have HN := Lib.hid hn0
    have hb0 : ((la : Int) == 0) = false := by simp; omega
    clear ha hlt hz hn0
    go_enter Tryz.func118, Tryz.ntmps118
    go_wp2
    go_loopw [0, 3] (fun av bv wr => TxtRel n W av bv wr) (fun av bv wr => readN16 wr av)
    case atStart =>
      exact ⟨ao, la, ca, 0, n, [], rfl, hla, HA.out, Own.nil _ _ _ _, Dig.nil _, by simp [val], fun h => absurd h HN.out, Nat.le_refl _, Below.refl _ _⟩
    case round =>
      obtain ⟨ao', len, cap, k, v, ts, rfl, hlen, hn16, hown, hdt, hsum, htop, hvn, hbel⟩ := hrel
      obtain ⟨wo, rfl⟩ : ∃ wo : World, wo = wr := ⟨_, rfl⟩
      have hv0 := hn16.zero
      have hrn := readN16_of (cap := cap) hn16
      have GN := Lib.hid hn16
      have GO := Lib.hid hown
      have GDT := Lib.hid hdt
      have GS := Lib.hid hsum
      have GTOP := Lib.hid htop
      have GW := Lib.hid hbel
      have GR := Lib.hid hrn
      have GV0 := Lib.hid hv0
      have GVN := Lib.hid hvn
      have hkt := GO.out.len
      simp only [List.length_map] at hkt
      have HKT := Lib.hid hkt
      clear hn16 hown hdt hsum htop hbel hrn hv0 hvn hkt
      by_cases hlen0 : len = 0
      · subst hlen0
        have hv : v = 0 := by first | exact GV0.out.2 rfl | exact GV0.out.2 trivial
        have h9 := GTOP.out hv
        have h10 : val 10 ts = n := by
          have := GS.out
          rw [hv] at this
          simpa using this
        have h11 := low_of GDT.out h9.2 h10
        have hnum : numeral n = chars ts.reverse := by
          unfold numeral
          rw [if_neg HN.out, h11]
        have HNUM := Lib.hid hnum
        rcases GO.out.cases with ⟨_, _, h⟩ | ⟨g', cap', rfl, hb', _, _, _, _⟩
        · exact absurd (List.map_eq_nil_iff.1 h) h9.1
        · have hk2 : k ≤ 16 * la + 1 := by
            have h12 := val_ge (B := 10) h9.2 h9.1
            rw [h10] at h12
            have := text_len16 h12 HLT.out
            have : ts.length ≠ 0 := fun h => h9.1 (List.eq_nil_of_length_eq_zero h)
            have := HKT.out
            omega
          have hk3 : k ≤ 16000000001 := by omega
          clear hv h9 h10 h11 hnum hk2
          go_wp2
          go_loopw [5, 6] (fun iv jv wr => RvRel W.heap.size g' k cap' (ts.map (48 + ·)) wo iv jv wr) (fun iv jv _ => k - (intOf iv).toNat)
          case atStart =>
            refine ⟨0, _, rfl, by simp, by omega, GO.out, ⟨rfl, fun t ht => ?_⟩, Below.refl _ _⟩
            rw [if_neg (by omega)]
          case round =>
            obtain ⟨i, zs, rfl, rfl, hi, hB, htn, hbel⟩ := hrel
            have GZ := Lib.hid hB
            have GT := Lib.hid htn
            have GW2 := Lib.hid hbel
            have GX : Hid ((ts.map (48 + ·)).length = k) := by show _ = _; rw [List.length_map]; exact HKT.out
            clear hB htn hbel
            by_cases hlt : 2 * i + 1 < k
            · obtain ⟨j, hj⟩ : ∃ j, i + j + 1 = k := ⟨k - 1 - i, by omega⟩
              have ej : ((k : Int) - 1 - (i : Int)) = (j : Int) := by omega
              rw [ej]
              have HJ := Lib.hid hj
              have hij : i < j := by omega
              have hin : i < k := by omega
              have hjn : j < k := by omega
              have b0 : (i : Int) < (j : Int) := by omega
              have b1 : (0 : Int) ≤ (i : Int) := by omega
              have b2 : (i : Int) < (k : Int) := by omega
              have b3 : (0 : Int) ≤ (j : Int) := by omega
              have b4 : (j : Int) < (k : Int) := by omega
              have hcells : ∀ t, t < k → wr.cell? ⟨g', t, none⟩ = some (.int .u8 ((zs[t]?.getD 0 : Nat) : Int)) ∧ wr.frozen? ⟨g', t, none⟩ = false := by
                rcases GZ.out.cases with ⟨h, _⟩ | ⟨g'', cap'', h, _, _, _, _, h3⟩
                · cases h
                · cases h; exact h3
              obtain ⟨c1, f1⟩ := hcells i hin
              obtain ⟨c2, f2⟩ := hcells j hjn
              clear hcells ej hj
              obtain ⟨x, hxe⟩ : ∃ x, x = zs[i]?.getD 0 := ⟨_, rfl⟩
              obtain ⟨y, hye⟩ : ∃ x, x = zs[j]?.getD 0 := ⟨_, rfl⟩
              rw [← hxe] at c1
              rw [← hye] at c2
              have HXE := Lib.hid hxe
              have HYE := Lib.hid hye
              clear hxe hye
              have hne : i ≠ j := by omega
              go_wp2
              refine ⟨?_, by simp [intOf]; omega⟩
              refine ⟨i + 1, (zs.set i y).set j x, by go_num, congrArg (Value.int _) (by have := HJ.out; omega), by omega, ?_, ?_, ?_⟩
              · have h1 := GZ.out.stored i y hin _ rfl
                exact h1.stored j x hjn _ rfl
              · have h3 := turned_step GT.out hij (by rw [GX.out]; exact HJ.out)
                rw [← HXE.out, ← HYE.out] at h3
                exact h3
              · exact (GW2.out.setCell hb' _).setCell hb' _
            · have b0 : ¬ (i : Int) < (k : Int) - 1 - (i : Int) := by omega
              have htt := turned_end GT.out (by rw [GX.out]; omega)
              have hown5 := GZ.out
              rw [htt, ← List.map_reverse] at hown5
              have hcv := run_convert_bytes_back (P := Tryz.prog) wr 110 9 5 ⟨g', 0, none⟩ cap' (chars ts.reverse) Tryz.underlying110 Tryz.underlying5 Tryz.underlying9 (chars_cells hown5 (fun x hx => GDT.out x (List.mem_reverse.1 hx)))
              have hlc : (chars ts.reverse).length = k := by simp [chars]; exact HKT.out
              rw [hlc] at hcv
              clear hown5 hlc htt
              go_wp2
              go_ret
              exact ⟨by rw [HNUM.out]; rfl, GW.out.trans GW2.out⟩
      · have b1 : (0 : Int) < (len : Int) := by omega
        have hvpos : 0 < v := by have := GV0.out; omega
        have hkb : k ≤ 16 * la := by
          have := text_len16 (pow_len GS.out hvpos) HLT.out
          have := HKT.out
          omega
        go_wp2_with fail
        refine (small_any _ _ _ v _ 10 _ GN.out rfl (by decide) (by decide) hlen).mono ?_
        rintro e w4 ⟨ao4, l4, c4, rfl, hlc4, hcm4, hao4, hn4, hb4⟩
        have hl4 : l4 ≤ 1000000000 := Nat.le_trans (hn4.len_le (Nat.lt_of_le_of_lt (Nat.div_le_self _ _) GN.out.lt)) hlen
        have I1 := Lib.hid hn4
        have I5 := Lib.hid hao4
        have I2 := Lib.hid hb4
        have I3 := Lib.hid (GO.out.later hb4)
        have I4 := Lib.hid (Nat.le_trans GW.out.size hb4.size)
        clear hn4 hb4 hao4
        go_wp2_with (at_builtin; refine wpList_app2 rfl _ _ 110 rfl W.heap.size 5 .u8 1 Tryz.underlying110 (by kernel_rfl) _ k (ts.map (48 + ·)) rfl I3.out _ (48 + v % 10) rfl (by omega) (by omega) (by omega) I4.out ?_; intro v' w6 hown' hbel' hgrow')
        have hn6 : N16 w6 ao4 l4 (v / 10) := by
          obtain ⟨ys, y1, y2⟩ := I1.out
          refine ⟨ys, (y1.keep ((Below.refl _ _).alloc (Nat.le_refl _) _)).grown hgrow' (fun b hl hb => ?_), y2⟩
          rw [I5.out hl] at hb
          cases hb
          intro e
          have := World.ownsRow.lt GO.out wo.heap.size e.symm
          omega
        have hr6 := readN16_of (cap := c4) hn6
        have HR6 := Lib.hid hr6
        have HN6 := Lib.hid hn6
        clear hr6 hn6 hgrow'
        go_roundw
        case rel =>
          have hnew : val 10 (ts ++ [v % 10]) + 10 ^ (ts ++ [v % 10]).length * (v / 10) = n := by
            have h1 := write_step (ts := ts) (v := n) (r := 0) (g := v) (m := 0) (by simpa using GS.out)
            simpa using h1
          refine ⟨ao4, l4, c4, k + 1, v / 10, ts ++ [v % 10], rfl, hl4, HN6.out, by rw [List.map_append]; exact hown', GDT.out.append (Dig.cons (Nat.mod_lt _ (by decide)) (Dig.nil _)), hnew, ?_, by have := GVN.out; omega, GW.out.trans ((I2.out.mono GW.out.size).trans hbel')⟩
          intro hq
          refine ⟨by simp, fun _ => ?_⟩
          simp
          omega
        case measure =>
          rw [HR6.out, GR.out]
          exact Nat.div_lt_self hvpos (by decide)
end Go.Proofs.YtcgnmihabkgecaaGreat

/- The specification's cmp and sub. -/
set_option linter.unusedVariables false
namespace Go.Proofs.YtcgnmihabkgecaaGreat
open Go.RowKit

set_option maxHeartbeats 1000000 in
theorem cmp16_any (ao bo : Option Addr) (la lb ca cb : Nat) (m n : Nat) (w : World) (ha : N16 w ao la m) (hb : N16 w bo lb n) (hla : la ≤ 1000000000) (hlb : lb ≤ 1000000000) :
    Calls Tryz.prog 112 #[.slice ao la ca, .slice bo lb cb] w (CmpPost m n w) := by
  obtain ⟨xs, ⟨hx, b, off, h0, hc⟩, hd, ht, hv⟩ := ha
  obtain ⟨ys, ⟨hy, b', off', h0', hc'⟩, hd', ht', hv'⟩ := hb
  by_cases hl : la = lb
  · subst hl
    have Hx := Lib.hid hx
    have Hy := Lib.hid hy
    have Hv := Lib.hid hv
    have Hv' := Lib.hid hv'
    have Hd := Lib.hid hd
    have Hd' := Lib.hid hd'
    have H0 := Lib.hid h0
    have H0' := Lib.hid h0'
    have HC := Lib.hid hc
    have HC' := Lib.hid hc'
    clear hx hy hv hv' hd hd' ht ht' h0 h0' hc hc'
    go_enter Tryz.func112, Tryz.ntmps112
    go_wp2
    go_loopw [5] (fun t wr => ∃ i : Nat, i ≤ la ∧ t = .int .i64 ((i : Int) - 1) ∧ xs.drop i = ys.drop i ∧ Drew w wr) (fun t _ => (intOf t + 1).toNat)
    case atStart => exact ⟨la, Nat.le_refl _, rfl, by rw [List.drop_of_length_le (by have := Hx.out; omega), List.drop_of_length_le (by have := Hy.out; omega)], Drew.refl _⟩
    case round =>
      obtain ⟨i, hi, rfl, hdr, hw⟩ := hrel
      have HD := Lib.hid hdr
      have HW := Lib.hid hw
      clear hdr hw
      by_cases hi0 : i = 0
      · subst hi0
        go_wp2
        go_ret
        refine ⟨ret_int ?_, HW.out⟩
        rw [cmpN_eq]
        have := HD.out
        simp at this
        rw [← Hv.out, ← Hv'.out, this]
      · obtain ⟨j, rfl⟩ : ∃ j, i = j + 1 := ⟨i - 1, by omega⟩
        have hlen : 0 < la := by omega
        obtain rfl := H0.out hlen
        obtain rfl := H0'.out hlen
        have e1 : (((j + 1 : Nat) : Int) - 1) = (j : Int) := by omega
        rw [e1]
        clear e1
        have c1 := (HW.out.cell ⟨b, off + j, none⟩).trans (HC.out j (by omega))
        have c2 := (HW.out.cell ⟨b', off' + j, none⟩).trans (HC'.out j (by omega))
        have b1 : (0 : Int) ≤ (j : Int) := by omega
        have b2 : (j : Int) < (la : Int) := by omega
        obtain ⟨x, hxe⟩ : ∃ x, x = xs[j]?.getD 0 := ⟨_, rfl⟩
        obtain ⟨y, hye⟩ : ∃ x, x = ys[j]?.getD 0 := ⟨_, rfl⟩
        rw [← hxe] at c1
        rw [← hye] at c2
        have Ex := Lib.hid hxe
        have Ey := Lib.hid hye
        clear hxe hye
        have hjx : j < xs.length := by have := Hx.out; omega
        have hxy : xs.length = ys.length := by rw [Hx.out, Hy.out]
        have HXY := Lib.hid hxy
        have HJX := Lib.hid hjx
        clear hjx hxy
        rcases Nat.lt_trichotomy x y with hlt | heq | hgt
        · have t1 : (x : Int) < (y : Int) := by omega
          go_wp2
          go_quiet (fail)
          go_wp2
          go_ret
          refine ⟨ret_int ?_, HW.out.more _⟩
          have hlt2 := hlt
          rw [Ex.out, Ey.out] at hlt2
          have := val_lt_of_part B16_pos HXY.out Hd.out HJX.out HD.out hlt2
          rw [Hv.out, Hv'.out] at this
          rw [cmpN_lt this]
        · subst heq
          go_wp2
          go_quiet (fail)
          go_wp2
          go_quiet (fail)
          go_wp2
          go_roundw
          case rel => exact ⟨j, by omega, rfl, eq_of_drop HXY.out j HJX.out HD.out (by rw [← Ex.out, ← Ey.out]), by first | exact HW.out.more _ | exact (HW.out.more _).more _⟩
          case measure => simp [intOf]
        · have t1 : (y : Int) < (x : Int) := by omega
          have t2 : ¬ (x : Int) < (y : Int) := by omega
          go_wp2
          go_quiet (fail)
          go_wp2
          go_quiet (fail)
          go_wp2
          go_ret
          refine ⟨ret_int ?_, by first | exact HW.out.more _ | exact (HW.out.more _).more _⟩
          have hlt2 := hgt
          rw [Ex.out, Ey.out] at hlt2
          have := val_lt_of_part B16_pos HXY.out.symm Hd'.out (HXY.out ▸ HJX.out) HD.out.symm hlt2
          rw [Hv.out, Hv'.out] at this
          rw [cmpN_gt this]
  · rcases Nat.lt_or_gt_of_ne hl with hlt | hgt
    · have t1 : (la : Int) < (lb : Int) := by omega
      have hvv := val_lt_of_len B16_pos hd ht' (by omega)
      rw [hv, hv'] at hvv
      have HV := Lib.hid hvv
      clear hx hy hv hv' hd hd' ht ht' h0 h0' hc hc' hvv
      go_enter Tryz.func112, Tryz.ntmps112
      go_wp2
      go_ret
      exact ⟨ret_int (cmpN_lt HV.out).symm, Drew.refl _⟩
    · have t1 : ¬ (la : Int) < (lb : Int) := by omega
      have t2 : (lb : Int) < (la : Int) := by omega
      have hvv := val_lt_of_len B16_pos hd' ht (by omega)
      rw [hv, hv'] at hvv
      have HV := Lib.hid hvv
      clear hx hy hv hv' hd hd' ht ht' h0 h0' hc hc' hvv
      go_enter Tryz.func112, Tryz.ntmps112
      go_wp2
      go_ret
      exact ⟨ret_int (cmpN_gt HV.out).symm, Drew.refl _⟩

/-- at inside a region that draws its order -/
theorem at_quiet (ao : Option Addr) (len cap : Nat) (xs : List Nat) (I : Int) (i y n : Nat) (w : World) (hs : Sl .i64 w ao len xs) (hI : I = (i : Int)) (hy : y = xs[i]?.getD 0) :
    Calls Tryz.prog 109 #[.slice ao len cap, .int .i64 I] (w.drewN n) fun e w'' => e = .returned (.int .i64 (y : Int)) ∧ ∃ m, w'' = w.drewN m :=
  (at_any ao len cap xs I i (w.drewN n) (hs.drewN n) hI).mono fun e w' ⟨h1, h2⟩ => ⟨by rw [h1, hy], n, h2.symm⟩

/-- the loop of sub -/
def Sub16Rel (la : Nat) (xa xb : List Nat) (W : World) (ov cv iv : Value) (wr : World) : Prop :=
  ∃ (c i : Nat) (zs : List Nat), cv = .int .i64 (c : Int) ∧ iv = .int .i64 (i : Int) ∧ Own .i64 wr W.heap.size 3 ov i zs ∧ Dig B16 zs ∧ c ≤ 1 ∧ i ≤ la ∧
    val B16 zs + val B16 (xb.take i) = val B16 (xa.take i) + c * B16 ^ i ∧ Below W.heap.size W wr

theorem sub16_rel {la i c d x y : Nat} {xa xb zs : List Nat} {W wr w2 : World} {v' : Value} (c' : Nat) (hlz : zs.length = i) (hd : Dig B16 zs) (hi : i < la) (hx : x = xa[i]?.getD 0) (hy : y = xb[i]?.getD 0) (hdb : d < B16) (hc' : c' ≤ 1)
    (he : d + y + c = x + c' * B16)
    (hv : val B16 zs + val B16 (xb.take i) = val B16 (xa.take i) + c * B16 ^ i) (hb : Below W.heap.size W wr) (ho : Own .i64 w2 W.heap.size 3 v' (i + 1) (zs ++ [d])) (hb2 : Below W.heap.size wr w2)
    (C I : Int) (hC : C = (c' : Int)) (hI : I = (i : Int) + 1) : Sub16Rel la xa xb W v' (.int .i64 C) (.int .i64 I) w2 := by
  refine ⟨c', i + 1, zs ++ [d], by rw [hC], by rw [hI]; rfl, ho, hd.append (Dig.cons hdb (Dig.nil _)), hc', by omega, ?_, hb.trans hb2⟩
  rw [val_snoc, hlz, val_take_succ, val_take_succ, ← hx, ← hy, Nat.pow_succ]
  generalize B16 ^ i = p at *
  generalize B16 = B at *
  grind

theorem sub16_end {la m n c : Nat} {xa xb zs : List Nat} (hla : xa.length = la) (hlz : zs.length = la) (hd : Dig B16 zs) (hdb : Dig B16 xb) (htb : Top xb) (hda : Dig B16 xa) (ha : val B16 xa = m) (hb : val B16 xb = n) (hnm : n ≤ m)
    (hv : val B16 zs + val B16 (xb.take la) = val B16 (xa.take la) + c * B16 ^ la) : val B16 zs = m - n := by
  have h1 := val_lt B16_pos hda
  rw [hla, ha] at h1
  have h2 : xb.length ≤ la := len_le_of_lt B16_gt htb (by rw [hb]; omega)
  rw [List.take_of_length_le h2, List.take_of_length_le (by omega), ha, hb] at hv
  have h3 := val_lt B16_pos hd
  rw [hlz] at h3
  rcases Nat.eq_zero_or_pos c with h | h
  · subst h; omega
  · have : 1 * B16 ^ la ≤ c * B16 ^ la := Nat.mul_le_mul_right _ h
    omega

set_option maxHeartbeats 1000000 in
theorem sub16_any (ao bo : Option Addr) (la lb ca cb : Nat) (m n : Nat) (W : World) (ha : N16 W ao la m) (hb : N16 W bo lb n) (hla : la ≤ 1000000000) (hnm : n ≤ m) :
    Calls Tryz.prog 113 #[.slice ao la ca, .slice bo lb cb] W (Out16 W (m - n)) := by
  obtain ⟨xa, ha, hda, hta, hva⟩ := ha
  obtain ⟨xb, hb, hdb, htb, hvb⟩ := hb
  have HA := Lib.hid ha
  have HB := Lib.hid hb
  have HDA := Lib.hid hda
  have HDB := Lib.hid hdb
  have HTB := Lib.hid htb
  have HVA := Lib.hid hva
  have HVB := Lib.hid hvb
  have HNM := Lib.hid hnm
  clear ha hb hda hdb hta htb hva hvb hnm
  go_enter Tryz.func113, Tryz.ntmps113
  go_wp2
  go_loopw [5, 6, 7] (fun ov cv iv wr => Sub16Rel la xa xb W ov cv iv wr) (fun ov cv iv _ => la - (intOf iv).toNat)
  case atStart => exact ⟨0, 0, [], rfl, rfl, Own.nil _ _ _ _, Dig.nil _, by omega, by omega, by simp [val], Below.refl _ _⟩
  case round =>
    obtain ⟨c, i, zs, rfl, rfl, hown, hd, hc, hi, hv, hbel⟩ := hrel
    have GO := Lib.hid hown
    have GD := Lib.hid hd
    have GV := Lib.hid hv
    have GW := Lib.hid hbel
    clear hown hd hv hbel
    by_cases hil : i = la
    · subst hil
      obtain ⟨oo, cap, rfl, hlc, hcm, hsl⟩ := GO.out.sl
      have HS := Lib.hid hsl
      clear hsl
      go_wp2_with fail
      refine (trim16_raw _ _ _ zs _ HS.out hlc hcm).mono ?_
      rintro e w1 ⟨⟨ao', k, rfl, hk, ha', ht, hz⟩, rfl⟩
      have HT := Lib.hid ht
      have HZ := Lib.hid hz
      have HAA := Lib.hid ha'
      clear ht hz ha'
      go_wp2
      go_ret
      exact ⟨ao', k, cap, rfl, by omega, hcm, ⟨zs.take k, trim_sl HS.out hk HAA.out, GD.out.take _, HT.out, by rw [val_take_of_zeros HZ.out]; exact sub16_end HA.out.len GO.out.len GD.out HDB.out HTB.out HDA.out HVA.out HVB.out HNM.out GV.out⟩, GW.out⟩
    · have t1 : (i : Int) < (la : Int) := by omega
      have t0 : (0 : Int) ≤ (i : Int) := by omega
      have hx := HDA.out.get B16_pos i
      have hy := HDB.out.get B16_pos i
      obtain ⟨x, hxe⟩ : ∃ x, x = xa[i]?.getD 0 := ⟨_, rfl⟩
      obtain ⟨y, hye⟩ : ∃ x, x = xb[i]?.getD 0 := ⟨_, rfl⟩
      rw [← hxe] at hx
      rw [← hye] at hy
      rw [B16_eq] at hx hy
      obtain ⟨hxl, b, off, h0, hcc⟩ := HA.out.keep GW.out
      obtain rfl := h0 (by omega)
      have hci := hcc i (by omega)
      rw [← hxe] at hci
      have HX := Lib.hid hxe
      have HY := Lib.hid hye
      have HBr := Lib.hid (HB.out.keep GW.out)
      clear hxe hye hxl h0 hcc
      by_cases hlt : x < y + c
      · have t2 : (x : Int) - (y : Int) - (c : Int) < 0 := by omega
        go_wp2_with fail
        go_quiet ((go_at_call 109; exact at_quiet _ _ _ xb _ i y _ _ HBr.out rfl HY.out))
        go_wp2_with (at_builtin; refine wpList_app rfl _ _ 31 rfl W.heap.size 3 .i64 8 Tryz.underlying31 (by kernel_rfl) _ i zs rfl GO.out _ (x + 65536 - y - c) rfl (by omega) (by omega) (by omega) GW.out.size ?_; intro v' w2 hown' hbel')
        go_roundw
        case rel => exact sub16_rel 1 GO.out.len GD.out (by omega) HX.out HY.out (by rw [B16_eq]; omega) (by omega) (by rw [B16_eq]; omega) GV.out GW.out hown' ((below_drewN1 (Below.refl _ _) _).trans hbel') _ _ rfl rfl
        case measure => simp only [intOf]; omega
      · have t2 : ¬ (x : Int) - (y : Int) - (c : Int) < 0 := by omega
        go_wp2_with fail
        go_quiet ((go_at_call 109; exact at_quiet _ _ _ xb _ i y _ _ HBr.out rfl HY.out))
        go_wp2_with (at_builtin; refine wpList_app rfl _ _ 31 rfl W.heap.size 3 .i64 8 Tryz.underlying31 (by kernel_rfl) _ i zs rfl GO.out _ (x - y - c) rfl (by omega) (by omega) (by omega) GW.out.size ?_; intro v' w2 hown' hbel')
        go_roundw
        case rel => exact sub16_rel 0 GO.out.len GD.out (by omega) HX.out HY.out (by rw [B16_eq]; omega) (by omega) (by rw [B16_eq]; omega) GV.out GW.out hown' ((below_drewN1 (Below.refl _ _) _).trans hbel') _ _ rfl rfl
        case measure => simp only [intOf]; omega
end Go.Proofs.YtcgnmihabkgecaaGreat
