/- Part 18 of the contracts: DecB, HalfF. -/
import Derived.Test.YtcgnmihabkgecaaGreatPart17

/- Decimal, for every number of places. -/
set_option linter.unusedVariables false
namespace Go.Proofs.YtcgnmihabkgecaaGreat
open Go.RowKit

/-- the decimal -/
def decTextZ (p : Int) (q k : Nat) : List UInt8 :=
  if p < 0 ∧ nearest (p.natAbs * 10 ^ k) q ≠ 0 then 45 :: pointedZ (numeral (nearest (p.natAbs * 10 ^ k) q)) k else pointedZ (numeral (nearest (p.natAbs * 10 ^ k) q)) k

theorem decTextZ_pos {m q k r : Nat} (_ : True) (_ : True) (h : nearest (m * 10 ^ k) q = r) : decTextZ (sgn false m) q k = pointedZ (numeral r) k := by
  unfold decTextZ
  rw [sgn_natAbs, h, if_neg]
  rintro ⟨h1, _⟩
  have : sgn false m = (m : Int) := rfl
  omega

theorem decTextZ_zero {m q k r : Nat} {s : Bool} (_ : True) (_ : True) (h : nearest (m * 10 ^ k) q = r) (hr : r = 0) : decTextZ (sgn s m) q k = pointedZ (numeral r) k := by
  unfold decTextZ
  rw [sgn_natAbs, h, if_neg]
  rintro ⟨_, h1⟩
  exact h1 hr

theorem decTextZ_neg {m q k r : Nat} (_ : True) (hm : m ≠ 0) (h : nearest (m * 10 ^ k) q = r) (hr : r ≠ 0) : decTextZ (sgn true m) q k = 45 :: pointedZ (numeral r) k := by
  unfold decTextZ
  rw [sgn_natAbs, h, if_pos]
  refine ⟨?_, hr⟩
  show -(m : Int) < 0
  omega

set_option maxRecDepth 100000 in
set_option maxHeartbeats 1600000 in
theorem decimal_all (na : Bool) (ao bo : Option Addr) (la lb ca cb : Nat) (p : Int) (q : Nat) (K : Int) (k : Nat) (W : World) (h : Q32 W na ao la bo lb p q) (hla : la ≤ 100000) (hlb : lb ≤ 100000) (hq0 : q ≠ 0) (hK : K = (k : Int)) (hk : k ≤ 64)
    (hD : DivOk (p.natAbs * 10 ^ k) q) :
    Calls Tryz.prog 22 #[.agg #[.bool na, .slice ao la ca, .slice bo lb cb], .int .i64 K] W (DecPost (decTextZ p q k) W) := by
  subst hK
  have hf : Fr W (W.alloc (.cells #[.bool na, .slice ao la ca, .slice bo lb cb] 27)) [(27, #[.bool na, .slice ao la ca, .slice bo lb cb])] := (Fr.nil W).alloc rfl _ _
  have hqlt : q < B32 ^ (lb + 1) := by
    rcases h.2 with ⟨h1, h2⟩ | ⟨h1, h2⟩
    · rw [h1, h2]; decide
    · exact Nat.lt_of_lt_of_le h1.lt (Nat.pow_le_pow_right B32_pos (by omega))
  have hbl : lb = 0 ∨ 0 < lb := by omega
  have HQ := Lib.hid h
  obtain ⟨⟨m, hm, rfl, hmn⟩, hden⟩ := h
  rw [sgn_natAbs] at hD
  have halt : m * 10 ^ k < B32 ^ (la + 64) := by
    rw [Nat.pow_add]
    have h1 := hm.lt
    have h2 : 10 ^ k < B32 ^ 64 := by
      have : 10 ^ k ≤ 10 ^ 64 := Nat.pow_le_pow_right (by decide) hk
      have h3 : 10 ^ 64 < B32 ^ 64 := by decide
      omega
    exact Nat.mul_lt_mul'' h1 h2
  obtain ⟨a, haq⟩ : ∃ a, a = m * 10 ^ k := ⟨_, rfl⟩
  have HM := Lib.hid hm
  have HMN := Lib.hid hmn
  rw [← haq] at hD halt
  have HAQ := Lib.hid haq
  have HALT := Lib.hid halt
  have HQLT := Lib.hid hqlt
  have HD := Lib.hid hD
  have HQ0 := Lib.hid hq0
  have i1 : ¬ ((k : Int) < 0) := by omega
  have i2 : ¬ (64 < (k : Int)) := by omega
  have hnl : nearest a q < B32 ^ (la + 65) := by
    have h1 : nearest a q ≤ a / q + 1 := by unfold nearest; split <;> omega
    have h2 := Nat.div_le_self a q
    have h3 : B32 ^ (la + 64) * 2 ≤ B32 ^ (la + 65) := by rw [Nat.pow_succ B32 (la + 64)]; exact Nat.mul_le_mul_left _ (by decide)
    omega
  have hln := numeral_len hnl
  have hln2 : (numeral (nearest a q)).length ≤ 1000000000000 := by omega
  have HLN := Lib.hid hln2
  have hpl : ¬ 9223372036854775807 < 1 + (pointedZ (numeral (nearest a q)) k).length := by
    have := pointedZ_len (numeral (nearest a q)) k
    omega
  have HPL := Lib.hid hpl
  have HUPL : Hid (a / q + 1 < B32 ^ (la + 65)) := by
    have h2 := Nat.div_le_self a q
    have h3 : B32 ^ (la + 64) * 2 ≤ B32 ^ (la + 65) := by rw [Nat.pow_succ B32 (la + 64)]; exact Nat.mul_le_mul_left _ (by decide)
    show _ < _
    omega
  clear hm hmn hD halt hqlt hden haq hq0 hnl hln hln2 hpl hbl
  have hfld := field_digits
  go_enter Tryz.func22, Tryz.ntmps22
  go_wp2_with fail
  obtain ⟨W1, hW1⟩ : ∃ W1, W1 = W.alloc (.cells #[.bool na, .slice ao la ca, .slice bo lb cb] 27) := ⟨_, rfl⟩
  rw [← hW1] at hf ⊢
  clear hW1
  have HF := Lib.hid hf
  clear hf
  have c0 : W1.cell? ⟨W.heap.size, 0, none⟩ = some (.bool na) := HF.out.cell 0 0 rfl rfl
  have c1 : W1.cell? ⟨W.heap.size, 1, none⟩ = some (.slice ao la ca) := HF.out.cell 0 1 rfl rfl
  have c2 : W1.cell? ⟨W.heap.size, 2, none⟩ = some (.slice bo lb cb) := HF.out.cell 0 2 rfl rfl
  refine (den_any na ao bo la lb ca cb _ q _ (HQ.out.keep HF.out.below) (by omega)).mono ?_
  rintro e w2 ⟨dneg, dp, dl, dc, rfl, hz2, hb2⟩
  have hd2 := hz2.n32
  rw [Int.natAbs_natCast] at hd2
  have hdl : dl ≤ 100001 := Nat.le_trans (hd2.len_le HQLT.out) (by omega)
  have HF2 := Lib.hid (HF.out.later hb2)
  have HD2 := Lib.hid hd2
  clear hb2 hz2 hd2
  go_wp2_with fail
  have d0 : w2.cell? ⟨W.heap.size, 0, none⟩ = some (.bool na) := HF2.out.cell 0 0 rfl rfl
  have d1 : w2.cell? ⟨W.heap.size, 1, none⟩ = some (.slice ao la ca) := HF2.out.cell 0 1 rfl rfl
  go_region_held3 (fun w' => w'.cell? ⟨W.heap.size, 0, none⟩ = some (.bool na) ∧ w'.cell? ⟨W.heap.size, 1, none⟩ = some (.slice ao la ca)) (go_keep)
    (first | (go_at_call 47; refine (powerOfTen_any _ k w2.drew rfl (by omega)).mono ?_; rintro e w3 ⟨to_, tl, tc, rfl, ht3, htl, hb3⟩; have HB3 := Lib.hid (below_of_drew hb3); have HT3 := Lib.hid ht3; have HF3 := Lib.hid (HF2.out.later HB3.out); clear hb3 ht3; have f0 : w3.cell? ⟨W.heap.size, 0, none⟩ = some (.bool na) := HF3.out.cell 0 0 rfl rfl; have f1 : w3.cell? ⟨W.heap.size, 1, none⟩ = some (.slice ao la ca) := HF3.out.cell 0 1 rfl rfl) | (go_at_call 64; refine (product_any _ _ _ _ _ _ m (10 ^ k) _ (HM.out.keep HF3.out.below) HT3.out (by omega) (by omega)).mono ?_; rintro e w4 ⟨po, pl, pc, rfl, hp4, hb4⟩; have HB4 := Lib.hid (below_then HB3.out hb4); have hp5 : N32 w4 po pl a := (by rw [HAQ.out]; exact hp4); have HP4 := Lib.hid hp5; have HF4 := Lib.hid (HF2.out.later HB4.out); have hpl4 := Nat.le_trans (hp5.len_le HALT.out) (show la + 64 ≤ 100064 by omega); clear hb4 hp4 hp5; have j0 : w4.cell? ⟨W.heap.size, 0, none⟩ = some (.bool na) := HF4.out.cell 0 0 rfl rfl; have j1 : w4.cell? ⟨W.heap.size, 1, none⟩ = some (.slice ao la ca) := HF4.out.cell 0 1 rfl rfl) | (go_at_call 63; refine (HD.out _ _ _ _ _ _ _ HP4.out (HD2.out.keep HB4.out) (by omega) (by omega)).mono ?_; rintro e w5 ⟨qo, ql, qc, ro, rl, rc, rfl, hq5, hr5, hb5⟩; have HB5 := Lib.hid (below_then HB4.out hb5); have HQ5 := Lib.hid hq5; have HR5 := Lib.hid hr5; have HF5 := Lib.hid (HF2.out.later HB5.out); clear hb5 hq5 hr5; have m0 : w5.cell? ⟨W.heap.size, 0, none⟩ = some (.bool na) := HF5.out.cell 0 0 rfl rfl; have m1 : w5.cell? ⟨W.heap.size, 1, none⟩ = some (.slice ao la ca) := HF5.out.cell 0 1 rfl rfl))
  have hql : ql ≤ 1000000000 := Nat.le_trans (HQ5.out.len_le (Nat.lt_of_le_of_lt (Nat.div_le_self _ _) HALT.out)) (by omega)
  have hrl : rl ≤ 1000000 := Nat.le_trans (HR5.out.len_le (Nat.lt_trans (Nat.mod_lt _ (Nat.pos_of_ne_zero HQ0.out)) HQLT.out)) (by omega)
  have HRLT := Lib.hid (Nat.lt_trans (Nat.mod_lt a (Nat.pos_of_ne_zero HQ0.out)) HQLT.out)
  clear c0 c1 c2 d0 d1 f0 f1 j0 j1
  go_wp2_with fail
  refine (sum_any _ _ _ _ _ _ (a % q) (a % q) _ HR5.out HR5.out (by omega) (by omega)).mono ?_
  rintro e w55 ⟨so5, sl5, sc5, rfl, hs5, hb55⟩
  have hsl5 : sl5 ≤ 1000000000 := by
    refine Nat.le_trans (hs5.len_le (k := lb + 2) ?_) (by omega)
    rw [Nat.pow_succ]
    have := HRLT.out
    have h3 : B32 ^ (lb + 1) * 2 ≤ B32 ^ (lb + 1) * B32 := Nat.mul_le_mul_left _ (by decide)
    omega
  have HS5 := Lib.hid hs5
  have HF55 := Lib.hid (HF5.out.later hb55)
  have HD55 := Lib.hid (HD2.out.keep (below_then HB5.out hb55))
  have HQ55 := Lib.hid (HQ5.out.keep hb55)
  clear hs5 hb55 m0 m1
  go_wp2_with fail
  refine (compare_any _ _ _ _ _ _ (a % q + a % q) q _ HS5.out HD55.out hsl5 (by omega)).mono ?_
  rintro e w6 ⟨rfl, hd6⟩
  have HF6 := Lib.hid (HF55.out.later hd6.below)
  have HQ6 := Lib.hid (HQ55.out.keep hd6.below)
  clear hd6
  rcases Nat.lt_trichotomy (a % q + a % q) q with hlt | heq | hgt
  · have hnear : nearest a q = a / q := by unfold nearest; rw [if_neg (by omega)]
    rw [cmpN_lt hlt]
    rw [hnear] at HLN HPL
    have HNEAR : Hid (nearest (m * 10 ^ k) q = a / q) := by rw [← HAQ.out]; exact hnear
    clear hnear hlt
    have HNR := Lib.hid HQ6.out
    have hnrl := hql

    go_wp2_with fail
    refine (writeDigits_any _ _ _ (a / q) _ HNR.out hnrl).mono ?_
    rintro e w9 ⟨rfl, hb9⟩
    have HF9 := Lib.hid (HF6.out.later hb9)
    clear hb9
    go_wp2_with fail
    refine (withPoint_all _ _ k _ rfl hk HLN.out).mono ?_
    rintro e w10 ⟨rfl, hd10⟩
    have HF10 := Lib.hid (HF9.out.later hd10)
    clear hd10
    have z0 : w10.cell? ⟨W.heap.size, 0, none⟩ = some (.bool na) := HF10.out.cell 0 0 rfl rfl
    have hnz := HNR.out.zero
    have HNZ := Lib.hid hnz
    clear hnz hnrl hql hrl hsl5 hpl4 htl hdl hla hlb hk i1 i2 HALT HQLT HUPL HRLT HLN
    cases na with
    | false =>
      go_wp2
      go_ret2
      exact ⟨by rw [decTextZ_pos trivial trivial HNEAR.out]; rfl, HF10.out.below⟩
    | true =>
      by_cases hnl0 : ql = 0
      · have hz := Lib.hid (HNZ.out.2 hnl0)
        have q1 : ¬ (0 : Int) < (ql : Int) := by omega
        have q3 : decide (0 < ql) = false := by simp; omega
        clear hnl0
        go_wp2
        go_ret2
        exact ⟨by rw [decTextZ_zero trivial trivial HNEAR.out hz.out]; rfl, HF10.out.below⟩
      · have hz : Hid ((a / q) ≠ 0) := fun h => hnl0 (HNZ.out.1 h)
        have q1 : (0 : Int) < (ql : Int) := by omega
        have q3 : decide (0 < ql) = true := by simp; omega
        clear hnl0
        have q2 := HPL.out
        go_wp2
        go_ret2
        refine ⟨?_, HF10.out.below⟩
        rw [decTextZ_neg trivial (HMN.out trivial) HNEAR.out hz.out]
        have := bytes_append [45] (pointedZ (numeral (a / q)) k)
        exact congrArg (fun x => Ending.returned (.tuple #[Value.string x, .int .i64 0])) this
  · by_cases hodd : (a / q) % 2 = 1
    · have hnear : nearest a q = a / q + 1 := by unfold nearest; rw [if_pos (by omega)]
      rw [cmpN_eq heq]
      rw [hnear] at HLN HPL
      have HNEAR : Hid (nearest (m * 10 ^ k) q = a / q + 1) := by rw [← HAQ.out]; exact hnear
      have hob : ((a / q) % 2 == 1) = true := by simp [hodd]
      clear hnear heq
      go_wp2_with fail
      refine (isOdd_any _ _ _ (a / q) _ HQ6.out).mono ?_
      rw [hob]
      clear hob hodd
      rintro e w7 ⟨rfl, rfl⟩
      have HONE := Lib.hid (one_slice w6)
      have HF6a := Lib.hid (HF6.out.later (box_below w6 91 #[.int .u32 1]))
      go_wp2_with fail
      refine (sum_any _ _ _ _ _ _ (a / q) 1 _ (HQ6.out.keep (box_below _ _ _)) HONE.out hql (by omega)).mono ?_
      rintro e w8 ⟨so, sl, sc, rfl, hs8, hb8⟩
      have HF8 := Lib.hid (HF6a.out.later hb8)
      have HNR := Lib.hid hs8
      have hnrl : sl ≤ 1000000000 := Nat.le_trans (hs8.len_le HUPL.out) (by omega)
      clear hs8 hb8

      go_wp2_with fail
      refine (writeDigits_any _ _ _ (a / q + 1) _ HNR.out hnrl).mono ?_
      rintro e w9 ⟨rfl, hb9⟩
      have HF9 := Lib.hid (HF8.out.later hb9)
      clear hb9
      go_wp2_with fail
      refine (withPoint_all _ _ k _ rfl hk HLN.out).mono ?_
      rintro e w10 ⟨rfl, hd10⟩
      have HF10 := Lib.hid (HF9.out.later hd10)
      clear hd10
      have z0 : w10.cell? ⟨W.heap.size, 0, none⟩ = some (.bool na) := HF10.out.cell 0 0 rfl rfl
      have hnz := HNR.out.zero
      have HNZ := Lib.hid hnz
      clear hnz hnrl hql hrl hsl5 hpl4 htl hdl hla hlb hk i1 i2 HALT HQLT HUPL HRLT HLN
      cases na with
      | false =>
        go_wp2
        go_ret2
        exact ⟨by rw [decTextZ_pos trivial trivial HNEAR.out]; rfl, HF10.out.below⟩
      | true =>
        by_cases hnl0 : sl = 0
        · have hz := Lib.hid (HNZ.out.2 hnl0)
          have q1 : ¬ (0 : Int) < (sl : Int) := by omega
          have q3 : decide (0 < sl) = false := by simp; omega
          clear hnl0
          go_wp2
          go_ret2
          exact ⟨by rw [decTextZ_zero trivial trivial HNEAR.out hz.out]; rfl, HF10.out.below⟩
        · have hz : Hid ((a / q + 1) ≠ 0) := fun h => hnl0 (HNZ.out.1 h)
          have q1 : (0 : Int) < (sl : Int) := by omega
          have q3 : decide (0 < sl) = true := by simp; omega
          clear hnl0
          have q2 := HPL.out
          go_wp2
          go_ret2
          refine ⟨?_, HF10.out.below⟩
          rw [decTextZ_neg trivial (HMN.out trivial) HNEAR.out hz.out]
          have := bytes_append [45] (pointedZ (numeral (a / q + 1)) k)
          exact congrArg (fun x => Ending.returned (.tuple #[Value.string x, .int .i64 0])) this
    · have hnear : nearest a q = a / q := by unfold nearest; rw [if_neg (by omega)]
      rw [cmpN_eq heq]
      rw [hnear] at HLN HPL
      have HNEAR : Hid (nearest (m * 10 ^ k) q = a / q) := by rw [← HAQ.out]; exact hnear
      have hob : ((a / q) % 2 == 1) = false := by simp [hodd]
      clear hnear heq
      go_wp2_with fail
      refine (isOdd_any _ _ _ (a / q) _ HQ6.out).mono ?_
      rw [hob]
      clear hob hodd
      rintro e w7 ⟨rfl, rfl⟩
      have HNR := Lib.hid HQ6.out
      have hnrl := hql

      go_wp2_with fail
      refine (writeDigits_any _ _ _ (a / q) _ HNR.out hnrl).mono ?_
      rintro e w9 ⟨rfl, hb9⟩
      have HF9 := Lib.hid (HF6.out.later hb9)
      clear hb9
      go_wp2_with fail
      refine (withPoint_all _ _ k _ rfl hk HLN.out).mono ?_
      rintro e w10 ⟨rfl, hd10⟩
      have HF10 := Lib.hid (HF9.out.later hd10)
      clear hd10
      have z0 : w10.cell? ⟨W.heap.size, 0, none⟩ = some (.bool na) := HF10.out.cell 0 0 rfl rfl
      have hnz := HNR.out.zero
      have HNZ := Lib.hid hnz
      clear hnz hnrl hql hrl hsl5 hpl4 htl hdl hla hlb hk i1 i2 HALT HQLT HUPL HRLT HLN
      cases na with
      | false =>
        go_wp2
        go_ret2
        exact ⟨by rw [decTextZ_pos trivial trivial HNEAR.out]; rfl, HF10.out.below⟩
      | true =>
        by_cases hnl0 : ql = 0
        · have hz := Lib.hid (HNZ.out.2 hnl0)
          have q1 : ¬ (0 : Int) < (ql : Int) := by omega
          have q3 : decide (0 < ql) = false := by simp; omega
          clear hnl0
          go_wp2
          go_ret2
          exact ⟨by rw [decTextZ_zero trivial trivial HNEAR.out hz.out]; rfl, HF10.out.below⟩
        · have hz : Hid ((a / q) ≠ 0) := fun h => hnl0 (HNZ.out.1 h)
          have q1 : (0 : Int) < (ql : Int) := by omega
          have q3 : decide (0 < ql) = true := by simp; omega
          clear hnl0
          have q2 := HPL.out
          go_wp2
          go_ret2
          refine ⟨?_, HF10.out.below⟩
          rw [decTextZ_neg trivial (HMN.out trivial) HNEAR.out hz.out]
          have := bytes_append [45] (pointedZ (numeral (a / q)) k)
          exact congrArg (fun x => Ending.returned (.tuple #[Value.string x, .int .i64 0])) this
  · have hnear : nearest a q = a / q + 1 := by unfold nearest; rw [if_pos (by omega)]
    rw [cmpN_gt hgt]
    rw [hnear] at HLN HPL
    have HNEAR : Hid (nearest (m * 10 ^ k) q = a / q + 1) := by rw [← HAQ.out]; exact hnear
    clear hnear hgt
    have HONE := Lib.hid (one_slice w6)
    have HF6a := Lib.hid (HF6.out.later (box_below w6 91 #[.int .u32 1]))
    go_wp2_with fail
    refine (sum_any _ _ _ _ _ _ (a / q) 1 _ (HQ6.out.keep (box_below _ _ _)) HONE.out hql (by omega)).mono ?_
    rintro e w8 ⟨so, sl, sc, rfl, hs8, hb8⟩
    have HF8 := Lib.hid (HF6a.out.later hb8)
    have HNR := Lib.hid hs8
    have hnrl : sl ≤ 1000000000 := Nat.le_trans (hs8.len_le HUPL.out) (by omega)
    clear hs8 hb8

    go_wp2_with fail
    refine (writeDigits_any _ _ _ (a / q + 1) _ HNR.out hnrl).mono ?_
    rintro e w9 ⟨rfl, hb9⟩
    have HF9 := Lib.hid (HF8.out.later hb9)
    clear hb9
    go_wp2_with fail
    refine (withPoint_all _ _ k _ rfl hk HLN.out).mono ?_
    rintro e w10 ⟨rfl, hd10⟩
    have HF10 := Lib.hid (HF9.out.later hd10)
    clear hd10
    have z0 : w10.cell? ⟨W.heap.size, 0, none⟩ = some (.bool na) := HF10.out.cell 0 0 rfl rfl
    have hnz := HNR.out.zero
    have HNZ := Lib.hid hnz
    clear hnz hnrl hql hrl hsl5 hpl4 htl hdl hla hlb hk i1 i2 HALT HQLT HUPL HRLT HLN
    cases na with
    | false =>
      go_wp2
      go_ret2
      exact ⟨by rw [decTextZ_pos trivial trivial HNEAR.out]; rfl, HF10.out.below⟩
    | true =>
      by_cases hnl0 : sl = 0
      · have hz := Lib.hid (HNZ.out.2 hnl0)
        have q1 : ¬ (0 : Int) < (sl : Int) := by omega
        have q3 : decide (0 < sl) = false := by simp; omega
        clear hnl0
        go_wp2
        go_ret2
        exact ⟨by rw [decTextZ_zero trivial trivial HNEAR.out hz.out]; rfl, HF10.out.below⟩
      · have hz : Hid ((a / q + 1) ≠ 0) := fun h => hnl0 (HNZ.out.1 h)
        have q1 : (0 : Int) < (sl : Int) := by omega
        have q3 : decide (0 < sl) = true := by simp; omega
        clear hnl0
        have q2 := HPL.out
        go_wp2
        go_ret2
        refine ⟨?_, HF10.out.below⟩
        rw [decTextZ_neg trivial (HMN.out trivial) HNEAR.out hz.out]
        have := bytes_append [45] (pointedZ (numeral (a / q + 1)) k)
        exact congrArg (fun x => Ending.returned (.tuple #[Value.string x, .int .i64 0])) this
end Go.Proofs.YtcgnmihabkgecaaGreat

/- Facts for NumHalf: a decimal is read again; its distance. -/
set_option linter.unusedVariables false
namespace Go.Proofs.YtcgnmihabkgecaaGreat
open Go.RowKit Go.Proofs

theorem nearest_half (a q : Nat) (hq : 0 < q) : 2 * a ≤ 2 * (nearest a q * q) + q ∧ 2 * (nearest a q * q) ≤ 2 * a + q := by
  have h1 := Nat.div_add_mod a q
  have h2 := Nat.mod_lt a hq
  unfold nearest
  obtain ⟨m, hm⟩ : ∃ m, m = q * (a / q) := ⟨_, rfl⟩
  have e1 : a / q * q = m := by rw [hm, Nat.mul_comm]
  have e2 : (a / q + 1) * q = m + q := by rw [Nat.add_mul, e1, Nat.one_mul]
  rw [← hm] at h1
  by_cases h : q < 2 * (a % q) ∨ (2 * (a % q) = q ∧ (a / q) % 2 = 1)
  · rw [if_pos h, e2]; omega
  · rw [if_neg h, e1]; omega

theorem nearest_exact (n q : Nat) (hq : 0 < q) : nearest (n * q) q = n := by
  unfold nearest
  rw [Nat.mul_mod_left, Nat.mul_div_cancel _ hq, if_neg (by omega)]

/-- the decimal as a number of units of the last place -/
def near (p : Int) (q k : Nat) : Int := sgn (decide (p < 0)) (nearest (p.natAbs * 10 ^ k) q)
def tenI (k : Nat) : Int := ((10 ^ k : Nat) : Int)
theorem tenI_pos (k : Nat) : 0 < tenI k := by
  unfold tenI
  have : 0 < 10 ^ k := Nat.pow_pos (by decide)
  omega

theorem near_abs (p : Int) (q k : Nat) : (near p q k).natAbs = nearest (p.natAbs * 10 ^ k) q := by unfold near; rw [sgn_natAbs]

theorem near_dist (p : Int) (q k : Nat) (hq : 0 < q) : (2 * (p * tenI k - near p q k * (q : Int))).natAbs ≤ q := by
  have h := nearest_half (p.natAbs * 10 ^ k) q hq
  obtain ⟨a, ha⟩ : ∃ a, a = p.natAbs * 10 ^ k := ⟨_, rfl⟩
  obtain ⟨m, hm⟩ : ∃ m, m = nearest a q * q := ⟨_, rfl⟩
  unfold near
  rw [← ha] at h ⊢
  rw [← hm] at h
  by_cases hp : p < 0
  · have e1 : p * tenI k = -(a : Int) := by
      rw [ha, Int.natCast_mul]
      show p * tenI k = -((p.natAbs : Int) * tenI k)
      rw [show (p.natAbs : Int) = -p by omega, Int.neg_mul, Int.neg_neg]
    have e2 : sgn (decide (p < 0)) (nearest a q) * (q : Int) = -(m : Int) := by
      rw [decide_eq_true hp, hm, Int.natCast_mul]
      show -(nearest a q : Int) * (q : Int) = _
      rw [Int.neg_mul]
    rw [e1, e2]; omega
  · have e1 : p * tenI k = (a : Int) := by
      rw [ha, Int.natCast_mul]
      show p * tenI k = (p.natAbs : Int) * tenI k
      rw [show (p.natAbs : Int) = p by omega]
    have e2 : sgn (decide (p < 0)) (nearest a q) * (q : Int) = (m : Int) := by
      rw [decide_eq_false hp, hm, Int.natCast_mul]; rfl
    rw [e1, e2]; omega

/-- the doubled distance is at most a unit -/
theorem half_le {p pg pd pt : Int} {q qg qd qt k : Nat} (hq : 0 < q) (hqg : 0 < qg) (hqd : 0 < qd) (hqt : 0 < qt)
    (hg : Eqf pg qg (near p q k) (tenI k)) (hd : Eqf pd qd (p * (qg : Int) - pg * (q : Int)) ((q : Int) * (qg : Int)))
    (ht : Eqf pt qt (pd * (qd : Int) + pd * (qd : Int)) ((qd : Int) * (qd : Int))) :
    (pt.natAbs * 10 ^ k : Nat) ≤ qt := by
  have hdist := near_dist p q k hq
  obtain ⟨D, hD⟩ : ∃ D, D = tenI k := ⟨_, rfl⟩
  have hDp := tenI_pos k
  rw [← hD] at hg hdist hDp
  obtain ⟨X, hX⟩ : ∃ X, X = near p q k := ⟨_, rfl⟩
  rw [← hX] at hg hdist
  obtain ⟨T, hT⟩ : ∃ T, T = p * D - X * (q : Int) := ⟨_, rfl⟩
  rw [← hT] at hdist
  have hqi : (0 : Int) < (q : Int) := by omega
  have hqgi : (0 : Int) < (qg : Int) := by omega
  have hqdi : (0 : Int) < (qd : Int) := by omega
  have e2 : Eqf pd qd T ((q : Int) * D) := by
    rw [hT]
    exact eqf_trans (Int.ne_of_gt (Int.mul_pos hqi hqgi)) hd (eqf_sub (eqf_refl p q) hg)
  have e3 : pt * ((q : Int) * D) = (2 * T) * (qt : Int) := by
    have e4 := eqf_trans (Int.ne_of_gt (Int.mul_pos hqdi hqdi)) ht (eqf_add e2 e2)
    unfold Eqf at e4
    have hqD : ((q : Int) * D) ≠ 0 := Int.ne_of_gt (Int.mul_pos hqi hDp)
    apply Int.eq_of_mul_eq_mul_right hqD
    calc pt * ((q : Int) * D) * ((q : Int) * D) = pt * ((q : Int) * D * ((q : Int) * D)) := by grind
      _ = (T * ((q : Int) * D) + T * ((q : Int) * D)) * (qt : Int) := e4
      _ = 2 * T * (qt : Int) * ((q : Int) * D) := by grind
  have e5 : pt.natAbs * 10 ^ k * q = (2 * T).natAbs * qt := by
    have h1 := congrArg Int.natAbs e3
    rw [Int.natAbs_mul, Int.natAbs_mul, Int.natAbs_mul, Int.natAbs_natCast, Int.natAbs_natCast] at h1
    have h2 : D.natAbs = 10 ^ k := by rw [hD]; unfold tenI; rw [Int.natAbs_natCast]
    rw [h2] at h1
    rw [← h1, Nat.mul_assoc, Nat.mul_comm (10 ^ k) q]
  have e6 : pt.natAbs * 10 ^ k * q ≤ qt * q := by
    rw [e5, Nat.mul_comm qt q]; exact Nat.mul_le_mul_right _ hdist
  exact Nat.le_of_mul_le_mul_right e6 hq

theorem half_sign {pt : Int} {qt k : Nat} (h : (pt.natAbs * 10 ^ k : Nat) ≤ qt) : ((pt.natAbs : Int) * ((10 ^ k : Nat) : Int) - 1 * (qt : Int)).sign ≤ 0 := by
  apply Int.not_lt.1
  intro h0
  have h1 : (pt.natAbs : Int) * ((10 ^ k : Nat) : Int) ≤ (qt : Int) := by rw [← Int.natCast_mul]; omega
  rcases Int.lt_trichotomy ((pt.natAbs : Int) * ((10 ^ k : Nat) : Int) - 1 * (qt : Int)) 0 with h2 | h2 | h2
  · have := Int.sign_eq_neg_one_of_neg h2; omega
  · rw [h2] at h0; exact absurd h0 (by decide)
  · omega

theorem sign_lt {x : Int} (h : x.sign = -1) : x < 0 := by
  rcases Int.lt_trichotomy x 0 with h2 | h2 | h2
  · exact h2
  · rw [h2] at h; exact absurd h (by decide)
  · rw [Int.sign_eq_one_of_pos h2] at h; exact absurd h (by decide)

/-- the decimal of the decimal -/
theorem dec_again (p : Int) (q k : Nat) : decTextZ (lowP (near p q k) (tenI k)) (lowQ (near p q k) (tenI k)) k = decTextZ p q k := by
  obtain ⟨X, hX⟩ : ∃ X, X = near p q k := ⟨_, rfl⟩
  have hN := near_abs p q k
  have hs := sign_low (x := X) (tenI_pos k)
  have he := eqf_low (x := X) (tenI_pos k)
  rw [← hX] at hN ⊢
  have hq : 0 < lowQ X (tenI k) := by
    unfold lowQ
    have h0 : 0 < (tenI k).natAbs := by have := tenI_pos k; omega
    exact Nat.div_pos (Nat.gcd_le_right _ h0) (Nat.gcd_pos_of_pos_right _ h0)
  have e1 : (lowP X (tenI k)).natAbs * 10 ^ k = X.natAbs * lowQ X (tenI k) := by
    have h1 := congrArg Int.natAbs he
    rw [Int.natAbs_mul, Int.natAbs_mul, Int.natAbs_natCast] at h1
    have h2 : (tenI k).natAbs = 10 ^ k := by unfold tenI; rw [Int.natAbs_natCast]
    rwa [h2] at h1
  obtain ⟨P, hP⟩ : ∃ P, P = lowP X (tenI k) := ⟨_, rfl⟩
  obtain ⟨Q, hQ⟩ : ∃ Q, Q = lowQ X (tenI k) := ⟨_, rfl⟩
  rw [← hP, ← hQ] at e1
  rw [← hP] at hs
  rw [← hQ] at hq
  rw [← hP, ← hQ]
  have e2 : nearest (P.natAbs * 10 ^ k) Q = nearest (p.natAbs * 10 ^ k) q := by rw [e1, nearest_exact _ _ hq, hN]
  unfold decTextZ
  rw [e2]
  have e3 : (P < 0) ↔ X < 0 := by
    constructor
    · intro h
      rw [Int.sign_eq_neg_one_of_neg h] at hs
      exact sign_lt hs.symm
    · intro h
      rw [Int.sign_eq_neg_one_of_neg h] at hs
      exact sign_lt hs
  have e4 : X < 0 ↔ p < 0 ∧ nearest (p.natAbs * 10 ^ k) q ≠ 0 := by
    rw [hX]; unfold near
    by_cases hp : p < 0
    · rw [decide_eq_true hp]
      show -((nearest (p.natAbs * 10 ^ k) q : Nat) : Int) < 0 ↔ _
      constructor
      · intro h; exact ⟨hp, by omega⟩
      · rintro ⟨_, h⟩; omega
    · rw [decide_eq_false hp]
      show ((nearest (p.natAbs * 10 ^ k) q : Nat) : Int) < 0 ↔ _
      constructor
      · intro h; omega
      · rintro ⟨h, _⟩; exact absurd h hp
  by_cases hx : X < 0
  · have h1 := e4.1 hx
    rw [if_pos ⟨e3.2 hx, h1.2⟩, if_pos h1]
  · rw [if_neg (fun h => hx (e3.1 h.1)), if_neg (fun h => hx (e4.2 h))]

/-! The decimal is read again. -/
theorem numeral_all (n : Nat) : (numeral n).all isDig = true := by
  by_cases h : n = 0
  · rw [h]; rfl
  · have h1 := numeral_pos h
    unfold isPos hasDigs at h1
    simp only [Bool.and_eq_true] at h1
    exact h1.1.1

theorem dec_zeros (j : Nat) (l : List UInt8) : dec (List.replicate j 48 ++ l) = dec l := by
  induction j with
  | zero => rfl
  | succ j ih =>
    rw [List.replicate_succ, List.cons_append, dec_cons, ih]
    simp

theorem dig_no46 {a : List UInt8} (h : a.all isDig = true) : (46 : UInt8) ∉ a := fun hm => absurd (List.all_eq_true.1 h 46 hm) (by decide)

theorem dec_parts (n k : Nat) (hk : k ≤ 64) : ∃ a b, pointedZ (numeral n) k = dotText a b ∧ a.all isDig = true ∧ a ≠ [] ∧ okDec a b = true ∧ decN a b = n ∧ (partOf b).length = k := by
  have hall := numeral_all n
  by_cases h0 : k = 0
  · refine ⟨numeral n, none, by unfold pointedZ; rw [if_pos h0]; rfl, hall, ?_, ?_, ?_, h0.symm⟩
    · obtain ⟨x, t, h, _⟩ := numeral_head (n := n)
      rw [h]; simp
    · unfold okDec
      by_cases hn : n = 0
      · rw [hn]; rfl
      · rw [numeral_pos hn, Bool.or_true]; rfl
    · unfold decN partOf
      rw [List.append_nil, dec_numeral]
  · obtain ⟨l, hl⟩ : ∃ l, l = padded (numeral n) k := ⟨_, rfl⟩
    have hla : l.all isDig = true := by
      rw [hl]; unfold padded
      rw [List.all_append, hall, Bool.and_true, List.all_eq_true]
      intro c hc
      rw [(List.mem_replicate.1 hc).2]; rfl
    have hlen : k + 1 ≤ l.length := by rw [hl]; unfold padded; simp; omega
    have hdec : dec l = n := by rw [hl]; unfold padded; rw [dec_zeros, dec_numeral]
    have hsplit := List.take_append_drop (l.length - k) l
    have hla2 := hla
    rw [← hsplit, List.all_append, Bool.and_eq_true] at hla2
    have hdl : (l.drop (l.length - k)).length = k := by rw [List.length_drop]; omega
    have hne : l.take (l.length - k) ≠ [] := fun e => by
      have := congrArg List.length e
      rw [List.length_take] at this
      simp at this
      omega
    refine ⟨l.take (l.length - k), some (l.drop (l.length - k)), ?_, hla2.1, hne, ?_, ?_, hdl⟩
    · unfold pointedZ
      rw [if_neg h0, ← hl]
      unfold pointed
      rw [if_neg h0, List.append_assoc]
      rfl
    · unfold okDec
      have h1 : okPart (some (l.drop (l.length - k))) = true := by
        show ((l.drop (l.length - k)).all isDig && decide ((l.drop (l.length - k)) ≠ []) && decide ((l.drop (l.length - k)).length ≤ 64)) = true
        have hne2 : l.drop (l.length - k) ≠ [] := fun e => by rw [e] at hdl; exact h0 hdl.symm
        have h64 : (l.drop (l.length - k)).length ≤ 64 := by omega
        rw [hla2.2, decide_eq_true hne2, decide_eq_true h64]; rfl
      rw [h1, Bool.and_true]
      by_cases hlong : k < (numeral n).length
      · rw [padded_long hlong] at hl
        have hn : n ≠ 0 := fun e => by rw [e] at hlong; have : (numeral 0).length = 1 := rfl; omega
        have hp := numeral_pos hn
        obtain ⟨x, s, hx, h3, h4, h5⟩ := isPos_parts hp
        have h6 : l.take (l.length - k) = x :: s.take (l.length - k - 1) := by
          obtain ⟨j, hj⟩ : ∃ j, l.length - k = j + 1 := ⟨l.length - k - 1, by omega⟩
          rw [hj, Nat.add_sub_cancel]
          conv => lhs; rw [hl, hx]
          rfl
        rw [h6, Bool.or_eq_true]
        right
        unfold isPos hasDigs
        rw [h6] at hla2
        have h7 : decide ((x :: s.take (l.length - k - 1)) ≠ []) = true := decide_eq_true (by simp)
        have h8 : decide ((x :: s.take (l.length - k - 1)).head? ≠ some 48) = true := decide_eq_true (fun e => by
          have e2 : x = 48 := Option.some.inj e
          rw [e2] at h3
          exact absurd h3 (by decide))
        rw [hla2.1, h7, h8]; rfl
      · have h6 : l.take (l.length - k) = [48] := by
          have h7 : l.length = k + 1 := by rw [hl]; unfold padded; simp; omega
          rw [h7, show k + 1 - k = 1 by omega, hl]
          unfold padded
          obtain ⟨j, hj⟩ : ∃ j, k + 1 - (numeral n).length = j + 1 := ⟨k - (numeral n).length, by omega⟩
          rw [hj, List.replicate_succ]
          rfl
        rw [h6]; rfl
    · unfold decN
      show dec (l.take (l.length - k) ++ l.drop (l.length - k)) = n
      rw [hsplit, hdec]

theorem digits_prefix {a : List UInt8} {b : Option (List UInt8)} (h : a.all isDig = true) (hne : a ≠ []) : Lib.hasPrefix (dotText a b) [45] = false := by
  cases a with
  | nil => exact absurd rfl hne
  | cons x t =>
    rw [List.all_cons, Bool.and_eq_true] at h
    have hx : ((45 : UInt8) == x) = false := beq_eq_false_iff_ne.2 fun e => by rw [← e] at h; exact absurd h.1 (by decide)
    cases b with
    | none => show ((45 : UInt8) == x && ([] : List UInt8).isPrefixOf t) = false; rw [hx]; rfl
    | some u => show ((45 : UInt8) == x && ([] : List UInt8).isPrefixOf (t ++ 46 :: u)) = false; rw [hx]; rfl

theorem OutDE.back {W w' : World} {neg : Bool} {a : List UInt8} {b : Option (List UInt8)} {e : Ending} {p : Int} {q : Nat} (h : OutDE W neg a b e w') (hok : okDec a b = true) (hn : ¬ (neg = true ∧ decN a b = 0))
    (hp : lowP (sgn neg (decN a b)) (decD b) = p) (hq : lowQ (sgn neg (decN a b)) (decD b) = q) (hf : FitsQ p q) : OutQS W p q e w' := by
  obtain ⟨na, ao, la, ca, bo, lb, cb, er, P, Q, rfl, h1, h2, h3, h4, h5⟩ := h
  rcases h5 with ⟨h6 | h6, _⟩ | ⟨_, _, ⟨_, rfl, rfl, rfl⟩ | ⟨h6, _⟩⟩
  · rw [hok] at h6; cases h6
  · exact absurd h6 hn
  · rw [hp, hq] at h3
    exact ⟨na, ao, la, ca, bo, lb, cb, rfl, h1, h2, h3, h4⟩
  · rw [hp, hq] at h6
    exact absurd hf h6

theorem decimal_back (p : Int) (q k : Nat) (W : World) (hk : k ≤ 64) (hl : (decTextZ p q k).length ≤ 100000000) (hf : FitsQ (lowP (near p q k) (tenI k)) (lowQ (near p q k) (tenI k))) :
    Calls Tryz.prog 12 #[.string ⟨(decTextZ p q k).toArray⟩] W (OutQS W (lowP (near p q k) (tenI k)) (lowQ (near p q k) (tenI k))) := by
  obtain ⟨n, hn⟩ : ∃ n, n = nearest (p.natAbs * 10 ^ k) q := ⟨_, rfl⟩
  obtain ⟨a, b, h1, h2, h3, h4, h5, h6⟩ := dec_parts n k hk
  have hD : decD b = tenI k := by unfold decD tenI; rw [h6]
  by_cases hs : p < 0 ∧ n ≠ 0
  · have ht : decTextZ p q k = 45 :: pointedZ (numeral n) k := by unfold decTextZ; rw [← hn, if_pos hs]
    have hX : near p q k = sgn true (decN a b) := by unfold near; rw [← hn, decide_eq_true hs.1, h5]
    rw [ht, h1] at hl ⊢
    have hpre : Lib.hasPrefix (45 :: dotText a b) [45] = true := by show ((45 : UInt8) == 45 && ([] : List UInt8).isPrefixOf (dotText a b)) = true; simp
    have := parseDec_any (45 :: dotText a b) a b W (bare_minus _) (dig_no46 h2) hl
    rw [hpre] at this
    exact this.mono fun e w h => h.back h4 (fun hh => hs.2 (by rw [← h5]; exact hh.2)) (by rw [hX, hD]) (by rw [hX, hD]) hf
  · have ht : decTextZ p q k = pointedZ (numeral n) k := by unfold decTextZ; rw [← hn, if_neg hs]
    have hX : near p q k = sgn false (decN a b) := by
      unfold near; rw [← hn, h5]
      by_cases hp : p < 0
      · have h0 : n = 0 := Classical.byContradiction fun h => hs ⟨hp, h⟩
        rw [h0]
        cases decide (p < 0) <;> rfl
      · rw [decide_eq_false hp]
    rw [ht, h1] at hl ⊢
    have hpre := digits_prefix (b := b) h2 h3
    have := parseDec_any (dotText a b) a b W (bare_plain hpre) (dig_no46 h2) hl
    rw [hpre] at this
    exact this.mono fun e w h => h.back h4 (fun hh => absurd hh.1 (by decide)) (by rw [hX, hD]) (by rw [hX, hD]) hf

theorem near_bl {p : Int} {q k j : Nat} (hp : Bl j p) (hk : k ≤ 64) : Bl (j + 214) (near p q k) := by
  unfold Bl at *
  rw [near_abs, blen_le]
  rw [blen_le] at hp
  have h1 : 10 ^ k ≤ 10 ^ 64 := Nat.pow_le_pow_right (by decide) hk
  have h2 : 10 ^ 64 < 2 ^ 213 := by decide
  have h3 : p.natAbs * 10 ^ k < 2 ^ (j + 213) := by
    rw [Nat.pow_add]
    exact Nat.mul_lt_mul'' hp (by omega)
  have h4 : nearest (p.natAbs * 10 ^ k) q ≤ p.natAbs * 10 ^ k + 1 := by
    unfold nearest
    have := Nat.div_le_self (p.natAbs * 10 ^ k) q
    split <;> omega
  have h5 : 2 ^ (j + 214) = 2 * 2 ^ (j + 213) := by rw [show j + 214 = (j + 213) + 1 by omega, Nat.pow_succ, Nat.mul_comm]
  rw [h5]
  have h6 : 0 < 2 ^ (j + 213) := Nat.pow_pos (by decide)
  generalize 2 ^ (j + 213) = x at *
  omega
theorem tenI_bl {k : Nat} (hk : k ≤ 64) : Bl 213 (tenI k) := by
  unfold Bl tenI
  rw [Int.natAbs_natCast, blen_le]
  have h1 : 10 ^ k ≤ 10 ^ 64 := Nat.pow_le_pow_right (by decide) hk
  have h2 : 10 ^ 64 < 2 ^ 213 := by decide
  omega

theorem decTextZ_len {p : Int} {q k j : Nat} (hp : Bl j p) (hj : j ≤ 10000) (hk : k ≤ 64) : (decTextZ p q k).length ≤ 100000000 := by
  have h1 := near_bl (q := q) hp hk
  unfold Bl at h1
  rw [near_abs, blen_le] at h1
  have h2 : 2 ^ (j + 214) ≤ B32 ^ (j + 214) := Nat.pow_le_pow_left (by decide) _
  have h3 := numeral_len (Nat.lt_of_lt_of_le h1 h2)
  have h4 := pointedZ_len (numeral (nearest (p.natAbs * 10 ^ k) q)) k
  unfold decTextZ
  split
  · rw [List.length_cons]; omega
  · omega

theorem unit_step (i : Nat) : lowP (1 * ((1 : Nat) : Int)) (((10 ^ i : Nat) : Int) * 10) = 1 ∧ lowQ (1 * ((1 : Nat) : Int)) (((10 ^ i : Nat) : Int) * 10) = 10 ^ (i + 1) := by
  have e : ((10 ^ i : Nat) : Int) * 10 = ((10 ^ (i + 1) : Nat) : Int) := by rw [Nat.pow_succ, Int.natCast_mul]; rfl
  rw [e]
  constructor
  · unfold lowP
    rw [Int.natAbs_natCast, show (1 * ((1 : Nat) : Int)).natAbs = 1 from rfl, Nat.gcd_one_left, Nat.div_one, decide_eq_false (by decide), decide_eq_false (Int.not_lt.2 (Int.natCast_nonneg _))]
    rfl
  · unfold lowQ
    rw [Int.natAbs_natCast, show (1 * ((1 : Nat) : Int)).natAbs = 1 from rfl, Nat.gcd_one_left, Nat.div_one]

theorem Q32.setFrom {w : World} {g T : Nat} {c : Array Value} {neg : Bool} {ao bo : Option Addr} {len bl : Nat} {p : Int} {q : Nat} (h : Q32 w neg ao len bo bl p q) (us : List Value) (hu : ∀ u ∈ us, isInt u = false) (hb : Box w g T c) (hc : noInts c = true) :
    Q32 (setFrom w g 0 us) neg ao len bo bl p q := (Stable.q32 0 neg ao bo len bl p q).setFrom (Nat.zero_le _) us hu w 0 c h hb hc
end Go.Proofs.YtcgnmihabkgecaaGreat
