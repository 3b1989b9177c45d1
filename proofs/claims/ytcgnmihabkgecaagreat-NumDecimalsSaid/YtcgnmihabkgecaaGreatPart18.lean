/- Part 18 of the contracts: RefDec, BackF, Ten16. -/
import Derived.IntWalk
import Derived.Deep.Cut
import Derived.Test.YtcgnmihabkgecaaGreatPart17

/- The specification's digits, long. -/
set_option linter.unusedVariables false
namespace Go.Proofs.YtcgnmihabkgecaaGreat
open Go.RowKit Go.Proofs

theorem not_all {xs : List UInt8} {i : Nat} (hi : i < xs.length) (hd : isDig xs[i] = false) : xs.all isDig = false := by
  rw [List.all_eq_false]
  exact ⟨xs[i], List.getElem_mem hi, by simp [hd]⟩

set_option maxHeartbeats 400000 in
theorem digits16_any (xs : List UInt8) (w : World) (hl : xs.length ≤ 1000000000) :
    Calls Tryz.prog 50 #[.string ⟨xs.toArray⟩] w fun e w' => e = .returned (.bool (xs.all isDig)) ∧ w = w' := by
  go_enter Tryz.func50, Tryz.ntmps50
  go_wp2
  go_loop [3] (fun t => ∃ i : Nat, i ≤ xs.length ∧ t = .int .i64 i ∧ (xs.take i).all isDig = true) (fun t => xs.length - (intOf t).toNat)
  case atStart => exact ⟨0, by omega, rfl, by simp⟩
  case round =>
    obtain ⟨i, hi, rfl, hall⟩ := hrel
    have HA := Lib.hid hall
    clear hall
    by_cases hil : i < xs.length
    · have t1 : (i : Int) < (xs.length : Int) := by omega
      have hs : i < (⟨xs.toArray⟩ : ByteArray).size := by rw [str_size]; exact hil
      obtain ⟨c, hc⟩ : ∃ c : Nat, c = xs[i].toNat := ⟨_, rfl⟩
      have hc2 : ((⟨xs.toArray⟩ : ByteArray)[i]'hs).toNat = c := hc.symm
      have HC := Lib.hid hc
      clear hc
      by_cases h1 : c < 48
      · have t2 : ¬ (48 : Int) ≤ ((((⟨xs.toArray⟩ : ByteArray)[i]'hs).toNat : Nat) : Int) := by rw [hc2]; omega
        have HX : Hid (xs.all isDig = false) := not_all hil (by unfold isDig; rw [← HC.out]; simp; omega)
        clear hc2
        go_wp2
        go_ret
        exact ⟨ret_bool HX.out.symm, rfl⟩
      · have t2 : (48 : Int) ≤ ((((⟨xs.toArray⟩ : ByteArray)[i]'hs).toNat : Nat) : Int) := by rw [hc2]; omega
        by_cases h2 : c ≤ 57
        · have t3 : ((((⟨xs.toArray⟩ : ByteArray)[i]'hs).toNat : Nat) : Int) ≤ 57 := by rw [hc2]; omega
          have HX : Hid (isDig xs[i] = true) := by show _ = _; unfold isDig; rw [← HC.out]; simp; omega
          clear hc2
          go_wp2
          go_round
          case rel => exact ⟨i + 1, by omega, by go_num, all_take_succ hil HA.out HX.out⟩
          case measure => simp [intOf]; omega
        · have t3 : ¬ ((((⟨xs.toArray⟩ : ByteArray)[i]'hs).toNat : Nat) : Int) ≤ 57 := by rw [hc2]; omega
          have HX : Hid (xs.all isDig = false) := not_all hil (by unfold isDig; rw [← HC.out]; simp; omega)
          clear hc2
          go_wp2
          go_ret
          exact ⟨ret_bool HX.out.symm, rfl⟩
    · have t1 : ¬ (i : Int) < (xs.length : Int) := by omega
      have HX : Hid (xs.all isDig = true) := by
        show _ = _
        have := HA.out
        rwa [List.take_of_length_le (by omega)] at this
      go_wp2
      go_ret
      exact ⟨ret_bool HX.out.symm, rfl⟩

theorem trim16_n (ao : Option Addr) (len cap n : Nat) (w : World) (h : N16 w ao len n) (hcap : len ≤ cap) (hl : cap ≤ 9223372036854775807) :
    Calls Tryz.prog 95 #[.slice ao len cap] w fun e w' => (∃ ao', e = .returned (.slice ao' len cap) ∧ N16 w' ao' len n) ∧ w = w' := by
  obtain ⟨xs, hs, hd, ht, hv⟩ := h
  refine (trim16_raw ao len cap xs w hs hcap hl).mono fun e w' h => ?_
  obtain ⟨⟨ao', m, rfl, hm, ha, hT, hz⟩, rfl⟩ := h
  have hx := hs.len
  have hml : m = len := by
    apply Classical.byContradiction
    intro hne
    have hne2 : xs ≠ [] := fun e => by rw [e] at hx; simp at hx; omega
    have h1 := ht hne2
    apply h1
    have h2 := hz (xs.length - 1) (by omega)
    rw [List.getLastD_eq_getLast?, List.getLast?_eq_getElem?]
    exact h2
  subst hml
  refine ⟨⟨ao', rfl, ?_⟩, rfl⟩
  by_cases h0 : 0 < m
  · rw [ha h0]; exact ⟨xs, hs, hd, ht, hv⟩
  · have hm0 : m = 0 := by omega
    have hxn : xs = [] := List.eq_nil_of_length_eq_zero (by omega)
    subst hxn hm0
    rw [← hv]
    exact N16.nil _ _

def LngRel (xs : List UInt8) (W : World) (av iv : Value) (wr : World) : Prop :=
  ∃ (i : Nat) (ao : Option Addr) (l c : Nat), iv = .int .i64 ((i : Nat) : Int) ∧ av = .slice ao l c ∧ i ≤ xs.length ∧ l ≤ i ∧ l ≤ c ∧ c ≤ 9223372036854775807 ∧ N16 wr ao l (dec (xs.take i)) ∧ Fr W wr [(33, #[.bool false, .slice none 0 0])]

theorem dec_lt16 {xs : List UInt8} (h : xs.all isDig = true) : dec xs < B16 ^ xs.length := Nat.lt_of_lt_of_le (dec_lt h) (Nat.pow_le_pow_left (by decide) _)

set_option maxRecDepth 4000 in
set_option maxHeartbeats 2000000 in
theorem long16_any (xs : List UInt8) (W : World) (hl : xs.length ≤ 100000000) (hd : xs.all isDig = true) :
    Calls Tryz.prog 51 #[.string ⟨xs.toArray⟩] W (OutJ W (dec xs : Int)) := by
  have hf : Fr W (W.alloc (.cells #[.bool false, .slice none 0 0] 33)) [(33, #[.bool false, .slice none 0 0])] := (Fr.nil W).alloc rfl _ _
  have HST : Hid (LngRel xs W (.slice none 0 0) (.int .i64 0) (W.alloc (.cells #[.bool false, .slice none 0 0] 33))) := ⟨0, none, 0, 0, rfl, rfl, Nat.zero_le _, Nat.zero_le _, Nat.zero_le _, by omega, N16.nil _ _, hf⟩
  have HD := Lib.hid hd
  clear hf hd
  go_enter Tryz.func51, Tryz.ntmps51
  go_wp2_with fail
  go_loopw [3, 4] (fun av iv wr => LngRel xs W av iv wr) (fun _ iv _ => xs.length - (intOf iv).toNat)
  case atStart => exact HST.out
  case round =>
    clear HST
    obtain ⟨i, ao, l, c, rfl, rfl, hi, hli, hlc, hcm, hz, hfr⟩ := hrel
    have HZ := Lib.hid hz
    have HF := Lib.hid hfr
    clear hz hfr
    by_cases hil : i < xs.length
    · have t1 : (i : Int) < (xs.length : Int) := by omega
      have hs : i < (⟨xs.toArray⟩ : ByteArray).size := by rw [str_size]; exact hil
      have hdg : isDig xs[i] = true := List.all_eq_true.1 HD.out _ (List.getElem_mem hil)
      have hdg2 : 48 ≤ xs[i].toNat ∧ xs[i].toNat ≤ 57 := by simpa [isDig] using hdg
      obtain ⟨k, hk⟩ : ∃ k : Nat, k = xs[i].toNat := ⟨_, rfl⟩
      have hc2 : ((⟨xs.toArray⟩ : ByteArray)[i]'hs).toNat = k := hk.symm
      rw [← hk] at hdg2
      obtain ⟨d, hd⟩ : ∃ d, d = k - 48 := ⟨_, rfl⟩
      have hd9 : d ≤ 9 := by omega
      have HN : Hid (dec (xs.take (i + 1)) = dec (xs.take i) * 10 + d) := by show _ = _; rw [dec_take_succ hil, ← hk, Nat.mul_comm, hd]
      have hdi : ∀ j, j ≤ xs.length → dec (xs.take j) < B16 ^ j := by
        intro j hj
        have h := HD.out
        rw [← List.take_append_drop j xs, List.all_append, Bool.and_eq_true] at h
        have := dec_lt16 h.1
        rwa [List.length_take, Nat.min_eq_left hj] at this
      have HL1 := Lib.hid (hdi (i + 1) (by omega))
      have HML : Hid (dec (xs.take i) * 10 < B16 ^ (i + 1)) := by
        show _ < _
        rw [Nat.pow_succ]
        exact Nat.mul_lt_mul'' (hdi i (by omega)) (by decide)
      have t4 : (48 : Int) ≤ ((((⟨xs.toArray⟩ : ByteArray)[i]'hs).toNat : Nat) : Int) := by rw [hc2]; omega
      have t5 : ((((⟨xs.toArray⟩ : ByteArray)[i]'hs).toNat : Nat) : Int) ≤ 57 := by rw [hc2]; omega
      have t6 : (0 : Int) ≤ (i : Int) := by omega
      have t7 : IntKind.u8.wrap ((((⟨xs.toArray⟩ : ByteArray)[i]'hs).toNat : Nat) - 48 : Int) = (d : Int) := by
        rw [hc2, IntWalk.u8_in _ (by omega)]; omega
      have t8 : IntKind.i64.wrap (d : Int) = (d : Int) := IntWalk.i64_in _ (by omega)
      clear hdg hc2 hk hd hdi hdg2
      go_upto_region 5 with fail
      have c0 : wr.cell? ⟨W.heap.size, 0, none⟩ = some (.bool false) := HF.out.cell 0 0 rfl rfl
      have c1 : wr.cell? ⟨W.heap.size, 1, none⟩ = some (.slice none 0 0) := HF.out.cell 0 1 rfl rfl
      go_region_held3 (fun w' => w'.cell? ⟨W.heap.size, 0, none⟩ = some (.bool false) ∧ w'.cell? ⟨W.heap.size, 1, none⟩ = some (.slice none 0 0)) (go_keep)
        (first | (go_at_call 84; refine (add_any _ _ _ _ _ _ (dec (xs.take i) * 10) d _ HZc.out HTc.out (by omega) (by omega)).mono ?_; rintro e v4 ⟨o4, l4, c4, rfl, hc4, hm4, hz, hb⟩; have HFd := Lib.hid (HFc.out.later hb); have HZd := Lib.hid hz; clear hb hz; have g0 : v4.cell? ⟨W.heap.size, 0, none⟩ = some (.bool false) := HFd.out.cell 0 0 rfl rfl; have g1 : v4.cell? ⟨W.heap.size, 1, none⟩ = some (.slice none 0 0) := HFd.out.cell 0 1 rfl rfl) | (go_at_call 83; have HFB := HFb; refine (of_any (d : Int) d v2 rfl (by omega)).mono ?_; rintro e v3 ⟨o3, l3, c3, rfl, hc3, hm3, hz, hb⟩; have HFc := Lib.hid (HFb.out.later hb); have HZc := Lib.hid (HZb.out.keep hb); have HTc := Lib.hid hz; have hl3 : l3 ≤ 1 := hz.len_le (Nat.lt_of_le_of_lt hd9 (by decide)); clear hb hz; have f0 : v3.cell? ⟨W.heap.size, 0, none⟩ = some (.bool false) := HFc.out.cell 0 0 rfl rfl; have f1 : v3.cell? ⟨W.heap.size, 1, none⟩ = some (.slice none 0 0) := HFc.out.cell 0 1 rfl rfl) | (go_at_call 94; refine (mul16_any _ _ _ _ _ _ (dec (xs.take i)) 10 _ HZa.out HTa.out (by omega) (by omega)).mono ?_; rintro e v2 ⟨o2, l2, c2, rfl, hc2, hm2, hz, hb⟩; have HFb := Lib.hid (HFa.out.later hb); have HZb := Lib.hid hz; have hl2 : l2 ≤ i + 1 := hz.len_le HML.out; clear hb hz; have e0 : v2.cell? ⟨W.heap.size, 0, none⟩ = some (.bool false) := HFb.out.cell 0 0 rfl rfl; have e1 : v2.cell? ⟨W.heap.size, 1, none⟩ = some (.slice none 0 0) := HFb.out.cell 0 1 rfl rfl) | (go_at_call 83; refine (of_any 10 10 wr.drew rfl (by omega)).mono ?_; rintro e v1 ⟨o1, l1, c1, rfl, hc1, hm1, hz, hb⟩; have hbb := below_of_drew hb; have HFa := Lib.hid (HF.out.later hbb); have HZa := Lib.hid (HZ.out.keep hbb); have HTa := Lib.hid hz; have hl1 : l1 ≤ 1 := hz.len_le (by decide); clear hb hbb hz; have d0 : v1.cell? ⟨W.heap.size, 0, none⟩ = some (.bool false) := HFa.out.cell 0 0 rfl rfl; have d1 : v1.cell? ⟨W.heap.size, 1, none⟩ = some (.slice none 0 0) := HFa.out.cell 0 1 rfl rfl))
      all_goals go_wp2
      all_goals exact ⟨⟨i + 1, o4, l4, c4, by go_num, rfl, by omega, HZd.out.len_le (by rw [← HN.out]; exact HL1.out), hc4, hm4, by rw [HN.out]; exact HZd.out, HFd.out⟩, by simp only [intOf]; omega⟩
    · have t1 : ¬ (i : Int) < (xs.length : Int) := by omega
      have HE : Hid (dec (xs.take i) = dec xs) := by show _ = _; rw [List.take_of_length_le (by omega)]
      go_wp2_with fail
      refine (trim16_n _ _ _ _ _ HZ.out hlc hcm).mono ?_
      rintro e v1 ⟨⟨o1, rfl, hz⟩, rfl⟩
      rw [HE.out] at hz
      have HZ1 := Lib.hid hz
      clear hz
      go_wp2_with fail
      refine (made_any false _ _ _ (dec xs) _ HZ1.out hlc hcm).mono ?_
      rintro e v2 ⟨n2, o2, l2, c2, rfl, hc2, hm2, hz, hb⟩
      have HF2 := Lib.hid (HF.out.later hb)
      have HZ2 := Lib.hid hz
      clear hb hz
      have g0 : v2.cell? ⟨W.heap.size, 0, none⟩ = some (.bool false) := HF2.out.cell 0 0 rfl rfl
      have g1 : v2.cell? ⟨W.heap.size, 1, none⟩ = some (.slice none 0 0) := HF2.out.cell 0 1 rfl rfl
      have g2 : v2.frozen? ⟨W.heap.size, 0, none⟩ = false := HF2.out.frozen 0 0 rfl
      have g3 : v2.frozen? ⟨W.heap.size, 1, none⟩ = false := HF2.out.frozen 0 1 rfl
      go_wp2
      obtain ⟨e0, e1, hz, hbel, _⟩ := HF2.out.finJ (cap := c2) 0 rfl HZ2.out
      exact bodyPost_ret (v := .agg #[.bool n2, .slice o2 l2 c2]) (by simp only [Nat.add_zero] at e0 e1; simp [results, Tryz.results51, go_sem, e0, e1]) rfl ⟨n2, o2, l2, c2, rfl, hc2, hm2, hz, hbel⟩
end Go.Proofs.YtcgnmihabkgecaaGreat

/- Facts for NumBack: Div by 0, Parse of a numeral. -/
set_option linter.unusedVariables false
namespace Go.Proofs.YtcgnmihabkgecaaGreat
open Go.RowKit Go.Proofs

def DivNone (W : World) (e : Ending) (w' : World) : Prop :=
  e = .returned (.tuple #[.agg #[.bool false, .slice none 0 0], .agg #[.bool false, .slice none 0 0], .int .i64 10]) ∧ Below W.heap.size W w'

set_option maxHeartbeats 1000000 in
theorem div_zero (na nb : Bool) (ao bo : Option Addr) (la ca cb : Nat) (W : World) :
    Calls Tryz.prog 26 #[.agg #[.bool na, .slice ao la ca], .agg #[.bool nb, .slice bo 0 cb]] W (DivNone W) := by
  have hf : Fr W ((((W.alloc (.cells #[.bool na, .slice ao la ca] 25)).alloc (.cells #[.bool nb, .slice bo 0 cb] 25)).alloc (.cells #[.bool false, .slice none 0 0] 25)).alloc (.cells #[.bool false, .slice none 0 0] 25))
      [(25, #[.bool na, .slice ao la ca]), (25, #[.bool nb, .slice bo 0 cb]), (25, #[.bool false, .slice none 0 0]), (25, #[.bool false, .slice none 0 0])] :=
    ((((Fr.nil W).alloc rfl _ _).alloc (by simp) _ _).alloc (by simp) _ _).alloc (by simp) _ _
  have HF := Lib.hid hf
  clear hf
  go_enter Tryz.func26, Tryz.ntmps26
  go_wp2
  exact bodyPost_ret (v := .tuple #[.agg #[.bool false, .slice none 0 0], .agg #[.bool false, .slice none 0 0], .int .i64 10]) (by simp [results, Tryz.results26, go_sem]) rfl ⟨rfl, HF.out.below⟩

theorem parse_back (x : Int) (W : World) (hf : Fits x) : Calls Tryz.prog 123 #[.string ⟨(numeralZ x).toArray⟩] W (OutE W x) := by
  obtain ⟨k, hk⟩ : ∃ k, k = 1024 := ⟨_, rfl⟩
  have hlt : x.natAbs < B32 ^ k := by
    have h2 : blen x.natAbs ≤ 32 * k := Nat.le_trans hf (by omega)
    rw [B32_pow]
    exact blen_le.1 h2
  have hnl := numeralZ_len hlt
  refine ((parse_any (numeralZ x) W (by omega)).mono fun e w h => h.one).mono ?_
  rintro e w ⟨na, po, la, ca, er, z', rfl, hz2, hb2, hx⟩
  rw [numZ_numeralZ] at hx
  rcases hx with ⟨h1, _⟩ | ⟨_, h2, _⟩ | ⟨_, h2, rfl, rfl⟩
  · rw [isNum_numeralZ] at h1; cases h1
  · exact absurd hf h2
  · exact ⟨na, po, la, ca, rfl, fits_len hz2 hf, hz2, hb2⟩

theorem bl_div {x y : Int} {k : Nat} (h : Bl k x) : Bl k (x / y) := by
  unfold Bl at *
  rw [blen_le] at *
  exact Nat.lt_of_le_of_lt (Int.natAbs_ediv_le_natAbs x y) h
theorem bl_mod {x y : Int} {k : Nat} (h : Bl k y) (hy : y ≠ 0) : Bl k (x % y) := by
  unfold Bl at *
  rw [blen_le] at *
  have h1 := Int.emod_nonneg x hy
  have h2 := Int.emod_lt x hy
  omega
theorem bl_back {x y : Int} {k : Nat} (hx : Bl k x) (hy : Bl k y) (h0 : y ≠ 0) : Bl (k + 1) (x / y * y) := by
  have e : x / y * y = x - x % y := by
    have := Int.ediv_mul_add_emod x y
    omega
  rw [e]
  exact hx.sub (bl_mod hy h0)

/-- stores into an own block without numbers leave an integer -/
theorem Z32.setFrom {w : World} {g T : Nat} {c : Array Value} {neg : Bool} {ao : Option Addr} {len : Nat} {z : Int} (h : Z32 w neg ao len z) (us : List Value) (hu : ∀ u ∈ us, isInt u = false) (hb : Box w g T c) (hc : noInts c = true) :
    Z32 (setFrom w g 0 us) neg ao len z := (Stable.z32 0 neg ao len z).setFrom (Nat.zero_le _) us hu w 0 c h hb hc
end Go.Proofs.YtcgnmihabkgecaaGreat

/- The specification's ten. -/
set_option linter.unusedVariables false
namespace Go.Proofs.YtcgnmihabkgecaaGreat
open Go.RowKit Go.Proofs

theorem Z16.setFrom {w : World} {g T : Nat} {c : Array Value} {neg : Bool} {ao : Option Addr} {len : Nat} {z : Int} (h : Z16 w neg ao len z) (us : List Value) (hu : ∀ u ∈ us, isInt u = false) (hb : Box w g T c) (hc : noInts c = true) :
    Z16 (setFrom w g 0 us) neg ao len z := (Stable.z16 0 neg ao len z).setFrom (Nat.zero_le _) us hu w 0 c h hb hc

theorem Fr.farTen {W w : World} {bs : List (Nat × Array Value)} (h : Fr W w bs) {g : Nat} (us : List Value) (hg : W.heap.size + bs.length ≤ g) : Fr W (setFrom w g 0 us) bs := by
  refine ⟨setFrom_below (by omega) us _ _ _ h.below, by rw [setFrom_size]; exact h.size, fun i T c hi => ?_⟩
  have hl := (List.getElem?_eq_some_iff.1 hi).1
  exact (setFrom_other (by omega) us w 0).trans (h.box i T c hi)

theorem ten_lt {i : Nat} (hi : i ≤ 64) : (((10 ^ i : Nat) : Int)).natAbs < B16 ^ 14 := by
  rw [Int.natAbs_natCast]
  have h1 : 10 ^ i ≤ 10 ^ 64 := Nat.pow_le_pow_right (by decide) hi
  have h2 : 10 ^ 64 < B16 ^ 14 := by decide
  omega

def Ten16Rel (n g : Nat) (W : World) (iv : Value) (wr : World) : Prop :=
  ∃ (i : Nat) (s : Bool) (o : Option Addr) (l c : Nat), iv = .int .i64 ((i : Nat) : Int) ∧ i ≤ n ∧ l ≤ c ∧ c ≤ 9223372036854775807 ∧ Box wr g 33 #[.bool s, .slice o l c] ∧ Z16 wr s o l ((10 ^ i : Nat) : Int) ∧ Fr W wr [(33, #[.bool false, .slice none 0 0])]

set_option maxRecDepth 4000 in
set_option maxHeartbeats 2000000 in
theorem ten_any (N : Int) (n : Nat) (W : World) (hN : N = (n : Int)) (hn : n ≤ 64) :
    Calls Tryz.prog 54 #[.int .i64 N] W (OutJ W ((10 ^ n : Nat) : Int)) := by
  subst hN
  have hf : Fr W (W.alloc (.cells #[.bool false, .slice none 0 0] 33)) [(33, #[.bool false, .slice none 0 0])] := (Fr.nil W).alloc rfl _ _
  have HF := Lib.hid hf
  clear hf
  go_enter Tryz.func54, Tryz.ntmps54
  go_wp2_with fail
  refine (refOf_any 1 _ (by omega) (by omega)).mono ?_
  rintro e w1 ⟨s1, o1, l1, c1, rfl, hl1, hc1, hz1, hb1⟩
  have hb2 : Below w1.heap.size w1 (w1.alloc (.cells #[.bool s1, .slice o1 l1 c1] 33)) := box_below _ _ _
  have hbx : Box (w1.alloc (.cells #[.bool s1, .slice o1 l1 c1] 33)) w1.heap.size 33 #[.bool s1, .slice o1 l1 c1] := Box.new _ _ _
  have HF1 := Lib.hid ((HF.out.later hb1).later hb2)
  have HST : Hid (Ten16Rel n w1.heap.size W (.int .i64 0) (w1.alloc (.cells #[.bool s1, .slice o1 l1 c1] 33))) := ⟨0, s1, o1, l1, c1, rfl, Nat.zero_le _, hl1, hc1, hbx, hz1.keep hb2, HF1.out⟩
  have hg : W.heap.size + 1 ≤ w1.heap.size := by have := (HF.out.later hb1).size; simpa using this
  clear hb1 hb2 hbx hz1 HF HF1
  go_wp2_with fail
  go_loopw [4] (fun iv wr => Ten16Rel n w1.heap.size W iv wr) (fun iv _ => n - (intOf iv).toNat)
  case atStart => exact HST.out
  case round =>
    clear HST
    obtain ⟨i, s, o, l, c, rfl, hi, hlc, hcm, hbx, hz, hfr⟩ := hrel
    have hl : l ≤ 14 := hz.n16.len_le (ten_lt (by omega))
    have HB := Lib.hid hbx
    have HZ := Lib.hid hz
    have HF := Lib.hid hfr
    clear hbx hz hfr
    have c0 : wr.cell? ⟨w1.heap.size, 0, none⟩ = some (.bool s) := HB.out.cell 0
    have c1' : wr.cell? ⟨w1.heap.size, 1, none⟩ = some (.slice o l c) := HB.out.cell 1
    by_cases hin : i < n
    · have t1 : (i : Int) < (n : Int) := by omega
      go_upto_region 5 with fail
      go_region_with
        (first | (go_at_call 36; refine (refOf_any 10 wr.drew (by omega) (by omega)).mono ?_; rintro e w2 ⟨s2, o2, l2, c2, rfl, hl2, hc2, hz2, hb⟩; have hbb := below_of_drew hb; have HB2 := Lib.hid (HB.out.below hbb HB.out.lt); have HZ2 := Lib.hid (HZ.out.keep hbb); have HF2 := Lib.hid (HF.out.later hbb); have HT2 := Lib.hid hz2; have hlt2 : l2 ≤ 1 := hz2.n16.len_le (by decide); clear hb hbb hz2; have d0 : w2.cell? ⟨w1.heap.size, 0, none⟩ = some (.bool s) := HB2.out.cell 0; have d1 : w2.cell? ⟨w1.heap.size, 1, none⟩ = some (.slice o l c) := HB2.out.cell 1) | (go_at_call 97; refine (mulJ_L _ _ _ _ _ _ _ _ ((10 ^ i : Nat) : Int) 10 _ HZ2.out HT2.out (by omega) (by omega)).mono ?_; rintro e w3 ⟨s3, o3, l3, c3, rfl, hl3, hlc3, hcm3, hz3, hb⟩; have HB3 := Lib.hid (HB2.out.below hb HB2.out.lt); have HF3 := Lib.hid (HF2.out.later hb); have HZ3 := Lib.hid hz3; clear hb hz3; have f0 : w3.cell? ⟨w1.heap.size, 0, none⟩ = some (.bool s) := HB3.out.cell 0; have f1 : w3.cell? ⟨w1.heap.size, 1, none⟩ = some (.slice o l c) := HB3.out.cell 1; have f2 : w3.frozen? ⟨w1.heap.size, 0, none⟩ = false := HB3.out.frozen 0; have f3 : w3.frozen? ⟨w1.heap.size, 1, none⟩ = false := HB3.out.frozen 1))
      all_goals
        obtain ⟨V, hV⟩ : ∃ V, V = setFrom w3 w1.heap.size 0 [.bool s3, .slice o3 l3 c3] := ⟨_, rfl⟩
        have hui : ∀ u ∈ [Value.bool s3, Value.slice o3 l3 c3], isInt u = false := by simp [isInt]
        have hVf : Fr W V [(33, #[.bool false, .slice none 0 0])] := by rw [hV]; exact HF3.out.farTen _ (by simpa using hg)
        have hVz : Z16 V s3 o3 l3 (((10 ^ i : Nat) : Int) * 10) := by rw [hV]; exact HZ3.out.setFrom _ hui HB3.out rfl
        have hVb : Box V w1.heap.size 33 #[.bool s3, .slice o3 l3 c3] := by rw [hV]; exact setFrom_box0 _ HB3.out rfl
        simp only [setFrom] at hV
        have hpw : ((10 ^ i : Nat) : Int) * 10 = ((10 ^ (i + 1) : Nat) : Int) := by rw [Nat.pow_succ, Int.natCast_mul]; rfl
        rw [hpw] at hVz
        go_wp2_with fail
        try rw [← hV]
        go_roundw
        case rel => exact ⟨i + 1, s3, o3, l3, c3, by go_num, by omega, hlc3, hcm3, hVb, hVz, hVf⟩
        case measure => simp only [intOf]; omega
    · have t1 : ¬ (i : Int) < (n : Int) := by omega
      have hin2 : i = n := by omega
      have HI := Lib.hid hin2
      clear hin2
      have g0 : wr.cell? ⟨W.heap.size, 0, none⟩ = some (.bool false) := HF.out.cell 0 0 rfl rfl
      have g1 : wr.cell? ⟨W.heap.size, 1, none⟩ = some (.slice none 0 0) := HF.out.cell 0 1 rfl rfl
      have g2 : wr.frozen? ⟨W.heap.size, 0, none⟩ = false := HF.out.frozen 0 0 rfl
      have g3 : wr.frozen? ⟨W.heap.size, 1, none⟩ = false := HF.out.frozen 0 1 rfl
      go_wp2
      obtain ⟨e0, e1, hz, hbel, _⟩ := HF.out.finJ (cap := c) 0 rfl HZ.out
      exact bodyPost_ret (v := .agg #[.bool s, .slice o l c]) (by simp only [Nat.add_zero] at e0 e1; simp [results, Tryz.results54, go_sem, e0, e1]) rfl ⟨s, o, l, c, rfl, hlc, hcm, by rw [← HI.out]; exact hz, hbel⟩
end Go.Proofs.YtcgnmihabkgecaaGreat
