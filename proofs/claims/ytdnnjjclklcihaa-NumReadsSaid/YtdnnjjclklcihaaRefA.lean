/- The specification's numbers: rows of digits to the base 2^16. at, trim, of, add. -/
import Derived.Test.YtdnnjjclklcihaaDiv
set_option linter.unusedVariables false
namespace Go.Proofs.Ytdnnjjclklcihaa
open Go.RowKit

def B16 : Nat := 65536
theorem B16_eq : B16 = 65536 := rfl
theorem B16_pos : 0 < B16 := by decide
theorem B16_gt : 1 < B16 := by decide

/-- The slice is the digits to the base 2^16 of n, without a zero at the top. -/
def N16 (w : World) (ao : Option Addr) (len : Nat) (n : Nat) : Prop := ∃ xs, Sl .i64 w ao len xs ∧ Dig B16 xs ∧ Top xs ∧ val B16 xs = n

theorem N16.keep {w w' : World} {ao : Option Addr} {len n : Nat} (h : N16 w ao len n) (hb : Below w.heap.size w w') : N16 w' ao len n := by
  obtain ⟨xs, h1, h2⟩ := h
  exact ⟨xs, h1.keep hb, h2⟩
theorem N16.nil (w : World) (ao : Option Addr) : N16 w ao 0 0 := ⟨[], Sl.nil _ _ _, Dig.nil _, Top.nil, rfl⟩
theorem N16.zero {w : World} {ao : Option Addr} {len n : Nat} (h : N16 w ao len n) : n = 0 ↔ len = 0 := by
  obtain ⟨xs, h1, h2, h3, rfl⟩ := h
  rw [val_zero_iff B16_pos h3, ← h1.len, List.length_eq_zero_iff]
theorem N16.lt {w : World} {ao : Option Addr} {len n : Nat} (h : N16 w ao len n) : n < B16 ^ len := by
  obtain ⟨xs, h1, h2, h3, rfl⟩ := h
  have := val_lt B16_pos h2
  rwa [h1.len] at this
theorem N16.len_le {w : World} {ao : Option Addr} {len n k : Nat} (h : N16 w ao len n) (hn : n < B16 ^ k) : len ≤ k := by
  obtain ⟨xs, h1, h2, h3, rfl⟩ := h
  rw [← h1.len]
  exact len_le_of_lt B16_gt h3 hn

def Out16 (w : World) (n : Nat) (e : Ending) (w' : World) : Prop := ∃ ao len cap, e = .returned (.slice ao len cap) ∧ len ≤ cap ∧ cap ≤ 9223372036854775807 ∧ N16 w' ao len n ∧ Below w.heap.size w w'

set_option maxHeartbeats 400000 in
theorem at_any (ao : Option Addr) (len cap : Nat) (xs : List Nat) (I : Int) (i : Nat) (w : World) (hs : Sl .i64 w ao len xs) (hI : I = (i : Int)) :
    Calls Try.prog 100 #[.slice ao len cap, .int .i64 I] w fun e w' => e = .returned (.int .i64 ((xs[i]?.getD 0 : Nat) : Int)) ∧ w = w' := by
  subst hI
  obtain ⟨hx, b, off, h0, hc⟩ := hs
  have hX := Lib.hid hx
  clear hx
  by_cases hil : i < len
  · obtain rfl := h0 (by omega)
    have hci := hc i hil
    clear hc h0
    go_enter Try.func100, Try.ntmps100
    go_wp2
    go_ret
    exact ⟨rfl, rfl⟩
  · have hn : xs[i]?.getD 0 = 0 := by rw [List.getElem?_eq_none (by have := hX.out; omega)]; rfl
    rw [hn]
    clear hn h0 hc
    go_enter Try.func100, Try.ntmps100
    go_wp2
    go_ret
    exact ⟨rfl, rfl⟩

def Trim16Post (ao : Option Addr) (len cap : Nat) (xs : List Nat) (e : Ending) : Prop :=
  ∃ ao' n, e = .returned (.slice ao' n cap) ∧ n ≤ len ∧ (0 < n → ao' = ao) ∧ Top (xs.take n) ∧ (∀ j, n ≤ j → xs[j]?.getD 0 = 0)

set_option maxHeartbeats 400000 in
theorem trim16_raw (ao : Option Addr) (len cap : Nat) (xs : List Nat) (w : World) (hs : Sl .i64 w ao len xs) (hcap : len ≤ cap) (hl : cap ≤ 9223372036854775807) :
    Calls Try.prog 99 #[.slice ao len cap] w fun e w' => Trim16Post ao len cap xs e ∧ w = w' := by
  obtain ⟨hx, b, off, h0, hc⟩ := hs
  have hX := Lib.hid hx
  clear hx
  go_enter Try.func99, Try.ntmps99
  go_wp2
  go_loop [3] (fun t => ∃ n : Nat, n ≤ len ∧ t = .int .i64 n ∧ ∀ j, n ≤ j → xs[j]?.getD 0 = 0) (fun t => (intOf t).toNat)
  case atStart => exact ⟨len, Nat.le_refl _, rfl, fun j hj => by rw [List.getElem?_eq_none (by have := hX.out; omega)]; rfl⟩
  case round =>
    obtain ⟨n, hn, rfl, hz⟩ := hrel
    have hZ := Lib.hid hz
    clear hz
    have hX2 := hX.out
    by_cases h1 : n = 0
    · subst h1
      clear hX2
      go_wp2
      go_ret
      exact ⟨⟨_, 0, rfl, by omega, fun h => by omega, by simpa using Top.nil, hZ.out⟩, rfl⟩
    · have hlen : 0 < len := by omega
      obtain rfl := h0 hlen
      obtain ⟨m, rfl⟩ : ∃ m, n = m + 1 := ⟨n - 1, by omega⟩
      have hcell := hc m (by omega)
      clear hc h0
      obtain ⟨x, hxe⟩ : ∃ x, x = xs[m]?.getD 0 := ⟨_, rfl⟩
      rw [← hxe] at hcell
      have hE := Lib.hid hxe
      clear hxe hX2
      by_cases hx0 : x = 0
      · subst hx0
        go_wp2
        go_round
        case rel => exact ⟨m, by omega, by go_num, fun j hj => (by
          by_cases hj' : j = m
          · subst hj'; exact hE.out.symm
          · exact hZ.out j (by omega))⟩
        case measure => simp [intOf]
      · have hb : ((x : Int) == 0) = false := by simp; omega
        go_wp2
        go_ret
        exact ⟨⟨_, m + 1, rfl, hn, fun _ => rfl, top_take (by have := hX.out; omega) (Or.inr (by have := hE.out; simp only [Nat.add_sub_cancel]; omega)), hZ.out⟩, rfl⟩

def OfRel (n : Nat) (W : World) (nv ov : Value) (wr : World) : Prop :=
  ∃ (r k : Nat) (zs : List Nat), nv = .int .i64 (r : Int) ∧ Own .i64 wr W.heap.size 3 ov k zs ∧ Dig B16 zs ∧ val B16 zs + B16 ^ k * r = n ∧ (r = 0 → Top zs) ∧ r ≤ n ∧ Below W.heap.size W wr

theorem of_len {n k r : Nat} {zs : List Nat} (hv : val B16 zs + B16 ^ k * r = n) (hn : n ≤ 9223372036854775807) (hr : 0 < r) : k ≤ 4 := by
  have h1 : B16 ^ k * 1 ≤ B16 ^ k * r := Nat.mul_le_mul_left _ hr
  have h2 : B16 ^ k < B16 ^ 4 := by
    have : B16 ^ 4 = 18446744073709551616 := by decide
    omega
  have := (Nat.pow_lt_pow_iff_right B16_gt).1 h2
  omega

set_option maxHeartbeats 400000 in
theorem of_any (N : Int) (n : Nat) (W : World) (hN : N = (n : Int)) (hn : n ≤ 9223372036854775807) :
    Calls Try.prog 65 #[.int .i64 N] W (Out16 W n) := by
  subst hN
  have HN := Lib.hid hn
  go_enter Try.func65, Try.ntmps65
  go_wp2
  go_loopw [0, 3] (fun nv ov wr => OfRel n W nv ov wr) (fun nv ov _ => (intOf nv).toNat)
  case atStart => exact ⟨n, 0, [], rfl, Own.nil _ _ _ _, Dig.nil _, by simp [val], fun _ => Top.nil, Nat.le_refl _, Below.refl _ _⟩
  case round =>
    obtain ⟨r, k, zs, rfl, hown, hd, hv, ht, hrn, hbel⟩ := hrel
    have HO := Lib.hid hown
    have HD := Lib.hid hd
    have HV := Lib.hid hv
    have HT := Lib.hid ht
    have HB := Lib.hid hbel
    clear hown hd hv ht hbel
    by_cases hr0 : r = 0
    · subst hr0
      obtain ⟨ao, cap, rfl, hlc, hcm, hsl⟩ := HO.out.sl
      have HS := Lib.hid hsl
      clear hsl
      go_wp2
      go_ret
      have := HV.out
      exact ⟨ao, k, cap, rfl, hlc, hcm, ⟨zs, HS.out, HD.out, (by first | exact HT.out rfl | exact HT.out trivial), by simpa using this⟩, HB.out⟩
    · have t1 : (0 : Int) < (r : Int) := by omega
      have hk4 : k ≤ 4 := of_len HV.out HN.out (by omega)
      go_wp2_with (at_builtin; refine wpList_app rfl _ _ 26 rfl W.heap.size 3 .i64 8 Try.underlying26 (by kernel_rfl) _ k zs rfl HO.out _ (r % B16) rfl (by rw [B16_eq]; omega) (by omega) (by omega) HB.out.size ?_; intro v' w2 hown' hbel')
      go_roundw
      case rel =>
        refine ⟨r / B16, k + 1, zs ++ [r % B16], congrArg (Value.int _) (by rw [B16_eq]; omega), hown', HD.out.append (Dig.cons (Nat.mod_lt _ B16_pos) (Dig.nil _)), ?_, ?_, Nat.le_trans (Nat.div_le_self _ _) hrn, HB.out.trans hbel'⟩
        · rw [val_snoc, HO.out.len, Nat.pow_succ]
          have h1 := HV.out
          have h2 := Nat.mod_add_div r B16
          generalize r % B16 = d at *
          generalize r / B16 = q at *
          generalize B16 ^ k = p at *
          grind
        · intro hq _
          have : r % B16 = r := Nat.mod_eq_of_lt (by rw [Nat.div_eq_zero_iff] at hq; rcases hq with h | h; exact absurd h (by decide); exact h)
          simp
          omega
      case measure => simp only [intOf]; omega

def AddRel (la lb : Nat) (xa xb : List Nat) (W : World) (ov cv iv : Value) (wr : World) : Prop :=
  ∃ (c i : Nat) (zs : List Nat), cv = .int .i64 (c : Int) ∧ iv = .int .i64 (i : Int) ∧ Own .i64 wr W.heap.size 3 ov i zs ∧ Dig B16 zs ∧ c ≤ 1 ∧ i ≤ max la lb + 1 ∧
    val B16 zs + c * B16 ^ i = val B16 (xa.take i) + val B16 (xb.take i) ∧ (la < i → lb < i → B16 ^ (i - 1) ≤ val B16 zs) ∧ Below W.heap.size W wr

theorem add_rel {la lb i c x y : Nat} {xa xb zs : List Nat} {W wr w2 : World} {v' : Value} (hlz : zs.length = i) (hd : Dig B16 zs) (hc : c ≤ 1) (hi : i ≤ max la lb) (hla : xa.length = la) (hlb : xb.length = lb) (hx : x = xa[i]?.getD 0) (hy : y = xb[i]?.getD 0) (hxb : x < B16) (hyb : y < B16)
    (hgo : i < la ∨ i < lb ∨ 0 < c)
    (hv : val B16 zs + c * B16 ^ i = val B16 (xa.take i) + val B16 (xb.take i)) (hb : Below W.heap.size W wr) (ho : Own .i64 w2 W.heap.size 3 v' (i + 1) (zs ++ [(c + (x + y)) % B16])) (hb2 : Below W.heap.size wr w2)
    (C I : Int) (hC : C = (((c + (x + y)) / B16 : Nat) : Int)) (hI : I = (i : Int) + 1) : AddRel la lb xa xb W v' (.int .i64 C) (.int .i64 I) w2 := by
  rw [B16_eq] at hxb hyb
  have e := Nat.mod_add_div (c + (x + y)) B16
  refine ⟨(c + (x + y)) / B16, i + 1, zs ++ [(c + (x + y)) % B16], by rw [hC], by rw [hI]; rfl, ho, hd.append (Dig.cons (Nat.mod_lt _ B16_pos) (Dig.nil _)), by rw [B16_eq]; omega, by omega, ?_, ?_, hb.trans hb2⟩
  · rw [val_snoc, hlz, val_take_succ, val_take_succ, ← hx, ← hy, Nat.pow_succ]
    generalize (c + (x + y)) % B16 = d at *
    generalize (c + (x + y)) / B16 = q at *
    generalize B16 ^ i = p at *
    grind
  · intro h1 h2
    have hx0 : x = 0 := by rw [hx, List.getElem?_eq_none (by omega)]; rfl
    have hy0 : y = 0 := by rw [hy, List.getElem?_eq_none (by omega)]; rfl
    have hc1 : c = 1 := by omega
    subst hx0 hy0 hc1
    rw [val_snoc, hlz]
    have : (1 + (0 + 0)) % B16 = 1 := by decide
    rw [this]
    simp

set_option maxHeartbeats 1000000 in
theorem add_any (ao bo : Option Addr) (la lb ca cb : Nat) (m n : Nat) (W : World) (ha : N16 W ao la m) (hb : N16 W bo lb n) (hla : la ≤ 1000000000) (hlb : lb ≤ 1000000000) :
    Calls Try.prog 66 #[.slice ao la ca, .slice bo lb cb] W (Out16 W (m + n)) := by
  obtain ⟨xa, ha, hda, hta, rfl⟩ := ha
  obtain ⟨xb, hb, hdb, htb, rfl⟩ := hb
  have HA := Lib.hid ha
  have HB := Lib.hid hb
  have HDA := Lib.hid hda
  have HDB := Lib.hid hdb
  have HTA := Lib.hid hta
  have HTB := Lib.hid htb
  clear ha hb hda hdb hta htb
  go_enter Try.func66, Try.ntmps66
  go_wp2
  go_loopw [5, 6, 7] (fun ov cv iv wr => AddRel la lb xa xb W ov cv iv wr) (fun ov cv iv _ => la + lb + 2 - (intOf iv).toNat)
  case atStart => exact ⟨0, 0, [], rfl, rfl, Own.nil _ _ _ _, Dig.nil _, by omega, by omega, by simp [val], fun h => by omega, Below.refl _ _⟩
  case round =>
    obtain ⟨c, i, zs, rfl, rfl, hown, hd, hc, hi, hv, htop, hbel⟩ := hrel
    have GO := Lib.hid hown
    have GD := Lib.hid hd
    have GV := Lib.hid hv
    have GT := Lib.hid htop
    have GW := Lib.hid hbel
    clear hown hd hv htop hbel
    by_cases hgo : i < la ∨ i < lb ∨ 0 < c
    · have hx := HDA.out.get B16_pos i
      have hy := HDB.out.get B16_pos i
      have him : i ≤ max la lb := by
        rcases hgo with h | h | h
        · omega
        · omega
        · rcases Nat.lt_or_ge (max la lb) i with h4 | h4
          · exfalso
            have h1 := val_lt B16_pos HDA.out
            have h2 := val_lt B16_pos HDB.out
            rw [HA.out.len] at h1
            rw [HB.out.len] at h2
            have h3 := GV.out
            rw [List.take_of_length_le (by rw [HA.out.len]; omega), List.take_of_length_le (by rw [HB.out.len]; omega)] at h3
            have h5 : B16 ^ la ≤ B16 ^ (i - 1) := Nat.pow_le_pow_right B16_pos (by omega)
            have h6 : B16 ^ lb ≤ B16 ^ (i - 1) := Nat.pow_le_pow_right B16_pos (by omega)
            have h7 : B16 ^ i = B16 ^ (i - 1) * B16 := by rw [← Nat.pow_succ]; congr 1; omega
            obtain rfl : c = 1 := by omega
            rw [h7, B16_eq] at h3
            rw [B16_eq] at h1 h2 h5 h6
            omega
          · exact h4
      obtain ⟨x, hxe⟩ : ∃ x, x = xa[i]?.getD 0 := ⟨_, rfl⟩
      obtain ⟨y, hye⟩ : ∃ x, x = xb[i]?.getD 0 := ⟨_, rfl⟩
      rw [← hxe] at hx
      rw [← hye] at hy
      have HXB := Lib.hid hx
      have HYB := Lib.hid hy
      rw [B16_eq] at hx hy
      have HX := Lib.hid hxe
      have HY := Lib.hid hye
      have HAr := Lib.hid (HA.out.keep GW.out)
      have HBr := Lib.hid (HB.out.keep GW.out)
      clear hxe hye
      have hrest : i < la ∨ (¬ i < la ∧ (i < lb ∨ (¬ i < lb ∧ 0 < c))) := by omega
      rcases hrest with h1 | ⟨h1, h2 | ⟨h2, h3⟩⟩
      · have t1 : (i : Int) < (la : Int) := by omega
        go_wp2_with fail
        refine (at_any _ _ _ xa _ i _ HAr.out rfl).mono ?_
        rw [← HX.out]
        rintro e w1 ⟨rfl, rfl⟩
        go_wp2_with fail
        refine (at_any _ _ _ xb _ i _ HBr.out rfl).mono ?_
        rw [← HY.out]
        rintro e w1 ⟨rfl, rfl⟩
        go_wp2_with (at_builtin; refine wpList_app rfl _ _ 26 rfl W.heap.size 3 .i64 8 Try.underlying26 (by kernel_rfl) _ i zs rfl GO.out _ ((c + (x + y)) % B16) rfl (by rw [B16_eq]; omega) (by omega) (by omega) GW.out.size ?_; intro v' w2 hown' hbel')
        go_roundw
        case rel => exact add_rel GO.out.len GD.out hc him HA.out.len HB.out.len HX.out HY.out HXB.out HYB.out hgo GV.out GW.out hown' hbel' _ _ (by rw [B16_eq]; omega) rfl
        case measure => simp only [intOf]; omega
      · have t1 : ¬ (i : Int) < (la : Int) := by omega
        have t2 : (i : Int) < (lb : Int) := by omega
        go_wp2_with fail
        refine (at_any _ _ _ xa _ i _ HAr.out rfl).mono ?_
        rw [← HX.out]
        rintro e w1 ⟨rfl, rfl⟩
        go_wp2_with fail
        refine (at_any _ _ _ xb _ i _ HBr.out rfl).mono ?_
        rw [← HY.out]
        rintro e w1 ⟨rfl, rfl⟩
        go_wp2_with (at_builtin; refine wpList_app rfl _ _ 26 rfl W.heap.size 3 .i64 8 Try.underlying26 (by kernel_rfl) _ i zs rfl GO.out _ ((c + (x + y)) % B16) rfl (by rw [B16_eq]; omega) (by omega) (by omega) GW.out.size ?_; intro v' w2 hown' hbel')
        go_roundw
        case rel => exact add_rel GO.out.len GD.out hc him HA.out.len HB.out.len HX.out HY.out HXB.out HYB.out hgo GV.out GW.out hown' hbel' _ _ (by rw [B16_eq]; omega) rfl
        case measure => simp only [intOf]; omega
      · have t1 : ¬ (i : Int) < (la : Int) := by omega
        have t2 : ¬ (i : Int) < (lb : Int) := by omega
        have t3 : (0 : Int) < (c : Int) := by omega
        go_wp2_with fail
        refine (at_any _ _ _ xa _ i _ HAr.out rfl).mono ?_
        rw [← HX.out]
        rintro e w1 ⟨rfl, rfl⟩
        go_wp2_with fail
        refine (at_any _ _ _ xb _ i _ HBr.out rfl).mono ?_
        rw [← HY.out]
        rintro e w1 ⟨rfl, rfl⟩
        go_wp2_with (at_builtin; refine wpList_app rfl _ _ 26 rfl W.heap.size 3 .i64 8 Try.underlying26 (by kernel_rfl) _ i zs rfl GO.out _ ((c + (x + y)) % B16) rfl (by rw [B16_eq]; omega) (by omega) (by omega) GW.out.size ?_; intro v' w2 hown' hbel')
        go_roundw
        case rel => exact add_rel GO.out.len GD.out hc him HA.out.len HB.out.len HX.out HY.out HXB.out HYB.out hgo GV.out GW.out hown' hbel' _ _ (by rw [B16_eq]; omega) rfl
        case measure => simp only [intOf]; omega
    · have t1 : ¬ (i : Int) < (la : Int) := by omega
      have t2 : ¬ (i : Int) < (lb : Int) := by omega
      obtain rfl : c = 0 := by omega
      obtain ⟨oo, cap, rfl, hlc, hcm, hsl⟩ := GO.out.sl
      have HS := Lib.hid hsl
      clear hsl
      go_wp2
      go_ret
      have hval : val B16 zs = val B16 xa + val B16 xb := by
        have h := GV.out
        rw [List.take_of_length_le (l := xa) (by rw [HA.out.len]; omega), List.take_of_length_le (l := xb) (by rw [HB.out.len]; omega)] at h
        omega
      have hzl := GO.out.len
      refine ⟨oo, i, cap, rfl, hlc, hcm, ⟨zs, HS.out, GD.out, top_of_ge B16_pos GD.out (fun hne => ?_), hval⟩, GW.out⟩
      rw [hzl]
      by_cases h5 : la < i
      · by_cases h6 : lb < i
        · exact GT.out h5 h6
        · have : i = lb := by omega
          have := val_ge (B := B16) HTB.out (by intro e; have := HB.out.len; rw [e] at this; simp at this; exact hne (List.eq_nil_of_length_eq_zero (by omega)))
          rw [HB.out.len] at this
          rw [hval, ‹i = lb›]; omega
      · have : i = la := by omega
        have := val_ge (B := B16) HTA.out (by intro e; have := HA.out.len; rw [e] at this; simp at this; exact hne (List.eq_nil_of_length_eq_zero (by omega)))
        rw [HA.out.len] at this
        rw [hval, ‹i = la›]; omega
end Go.Proofs.Ytdnnjjclklcihaa
