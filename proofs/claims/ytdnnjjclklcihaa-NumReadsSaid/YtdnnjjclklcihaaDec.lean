/- Decimal. -/
import Derived.Test.YtdnnjjclklcihaaRat2
set_option linter.unusedVariables false
namespace Go.Proofs.Ytdnnjjclklcihaa
open Go.RowKit

/-- the nearest whole number to a / q, of two the even one -/
def nearest (a q : Nat) : Nat := if q < 2 * (a % q) ∨ (2 * (a % q) = q ∧ (a / q) % 2 = 1) then a / q + 1 else a / q

/-- the decimal, where the numeral is long enough for the point -/
def decText (p : Int) (q k : Nat) : List UInt8 :=
  if p < 0 ∧ nearest (p.natAbs * 10 ^ k) q ≠ 0 then 45 :: pointed (numeral (nearest (p.natAbs * 10 ^ k) q)) k else pointed (numeral (nearest (p.natAbs * 10 ^ k) q)) k

theorem decText_pos {m q k r : Nat} (_ : True) (_ : True) (h : nearest (m * 10 ^ k) q = r) : decText (sgn false m) q k = pointed (numeral r) k := by
  unfold decText
  rw [sgn_natAbs, h, if_neg]
  rintro ⟨h1, _⟩
  have : sgn false m = (m : Int) := rfl
  omega

theorem decText_zero {m q k r : Nat} {s : Bool} (_ : True) (_ : True) (h : nearest (m * 10 ^ k) q = r) (hr : r = 0) : decText (sgn s m) q k = pointed (numeral r) k := by
  unfold decText
  rw [sgn_natAbs, h, if_neg]
  rintro ⟨_, h1⟩
  exact h1 hr

theorem decText_neg {m q k r : Nat} (_ : True) (hm : m ≠ 0) (h : nearest (m * 10 ^ k) q = r) (hr : r ≠ 0) : decText (sgn true m) q k = 45 :: pointed (numeral r) k := by
  unfold decText
  rw [sgn_natAbs, h, if_pos]
  refine ⟨?_, hr⟩
  show -(m : Int) < 0
  omega

theorem one_slice (w : World) : N32 (w.alloc (.cells #[.int .u32 1] 104)) (some ⟨w.heap.size, 0, none⟩) 1 1 :=
  ⟨[1], (Blk.new' w .u32 104 [1] #[.int .u32 1] rfl).whole rfl, Dig.cons (by decide) (Dig.nil _), fun _ => by simp, rfl⟩

theorem field_digits (b : Bool) (ao : Option Addr) (l c : Nat) (w : World) : (Instr.field 24 (.agg #[.bool b, .slice ao l c]) 1).run Try.prog w = .ok (.slice ao l c) w := by kernel_rfl

def DecPost (t : List UInt8) (W : World) (e : Ending) (w' : World) : Prop := e = .returned (.tuple #[.string ⟨t.toArray⟩, .int .i64 0]) ∧ Below W.heap.size W w'

set_option maxRecDepth 100000 in
set_option maxHeartbeats 1600000 in
theorem decimal_any (na : Bool) (ao bo : Option Addr) (la lb ca cb : Nat) (p : Int) (q : Nat) (K : Int) (k : Nat) (W : World) (h : Q32 W na ao la bo lb p q) (hla : la ≤ 100000) (hlb : lb ≤ 100000) (hq0 : q ≠ 0) (hK : K = (k : Int)) (hk : k ≤ 64)
    (hD : DivOk (p.natAbs * 10 ^ k) q) (hW : k = 0 ∨ k < (numeral (nearest (p.natAbs * 10 ^ k) q)).length) :
    Calls Try.prog 61 #[.agg #[.bool na, .slice ao la ca, .slice bo lb cb], .int .i64 K] W (DecPost (decText p q k) W) := by
  subst hK
  have hf : Fr W (W.alloc (.cells #[.bool na, .slice ao la ca, .slice bo lb cb] 67)) [(67, #[.bool na, .slice ao la ca, .slice bo lb cb])] := (Fr.nil W).alloc rfl _ _
  have hqlt : q < B32 ^ (lb + 1) := by
    rcases h.2 with ⟨h1, h2⟩ | ⟨h1, h2⟩
    · rw [h1, h2]; decide
    · exact Nat.lt_of_lt_of_le h1.lt (Nat.pow_le_pow_right B32_pos (by omega))
  have hbl : lb = 0 ∨ 0 < lb := by omega
  have HQ := Lib.hid h
  obtain ⟨⟨m, hm, rfl, hmn⟩, hden⟩ := h
  rw [sgn_natAbs] at hD hW
  have halt : m * 10 ^ k < B32 ^ (la + 64) := by
    rw [Nat.pow_add]
    have h1 := hm.lt
    have h2 : 10 ^ k < B32 ^ 64 := by
      have : 10 ^ k ≤ 10 ^ 64 := Nat.pow_le_pow_right (by decide) hk
      have h3 : 10 ^ 64 < B32 ^ 64 := by decide
      omega
    exact Nat.mul_lt_mul'' h1 h2
  obtain ⟨a, haq⟩ : ∃ a, a = m * 10 ^ k := ⟨_, rfl⟩
  have HM := Lib.hid hm
  have HMN := Lib.hid hmn
  rw [← haq] at hD hW halt
  have HAQ := Lib.hid haq
  have HALT := Lib.hid halt
  have HQLT := Lib.hid hqlt
  have HD := Lib.hid hD
  have HK := Lib.hid hW
  have HQ0 := Lib.hid hq0
  have i1 : ¬ ((k : Int) < 0) := by omega
  have i2 : ¬ (64 < (k : Int)) := by omega
  have hnl : nearest a q < B32 ^ (la + 65) := by
    have h1 : nearest a q ≤ a / q + 1 := by unfold nearest; split <;> omega
    have h2 := Nat.div_le_self a q
    have h3 : B32 ^ (la + 64) * 2 ≤ B32 ^ (la + 65) := by rw [Nat.pow_succ B32 (la + 64)]; exact Nat.mul_le_mul_left _ (by decide)
    omega
  have hln := numeral_len hnl
  have hln2 : (numeral (nearest a q)).length ≤ 1000000000000 := by omega
  have HLN := Lib.hid hln2
  have hpl : ¬ 9223372036854775807 < 1 + (pointed (numeral (nearest a q)) k).length := by
    have : (pointed (numeral (nearest a q)) k).length ≤ (numeral (nearest a q)).length + 1 := by
      unfold pointed
      split
      · omega
      · simp; omega
    omega
  have HPL := Lib.hid hpl
  have HUPL : Hid (a / q + 1 < B32 ^ (la + 65)) := by
    have h2 := Nat.div_le_self a q
    have h3 : B32 ^ (la + 64) * 2 ≤ B32 ^ (la + 65) := by rw [Nat.pow_succ B32 (la + 64)]; exact Nat.mul_le_mul_left _ (by decide)
    show _ < _
    omega
  clear hm hmn hD hW halt hqlt hden haq hq0 hnl hln hln2 hpl hbl
  have hfld := field_digits
  go_enter Try.func61, Try.ntmps61
  go_wp2_with fail
  obtain ⟨W1, hW1⟩ : ∃ W1, W1 = W.alloc (.cells #[.bool na, .slice ao la ca, .slice bo lb cb] 67) := ⟨_, rfl⟩
  rw [← hW1] at hf ⊢
  clear hW1
  have HF := Lib.hid hf
  clear hf
  have c0 : W1.cell? ⟨W.heap.size, 0, none⟩ = some (.bool na) := HF.out.cell 0 0 rfl rfl
  have c1 : W1.cell? ⟨W.heap.size, 1, none⟩ = some (.slice ao la ca) := HF.out.cell 0 1 rfl rfl
  have c2 : W1.cell? ⟨W.heap.size, 2, none⟩ = some (.slice bo lb cb) := HF.out.cell 0 2 rfl rfl
  refine (den_any na ao bo la lb ca cb _ q _ (HQ.out.keep HF.out.below) (by omega)).mono ?_
  rintro e w2 ⟨dneg, dp, dl, dc, rfl, hz2, hb2⟩
  have hd2 := hz2.n32
  rw [Int.natAbs_natCast] at hd2
  have hdl : dl ≤ 100001 := Nat.le_trans (hd2.len_le HQLT.out) (by omega)
  have HF2 := Lib.hid (HF.out.later hb2)
  have HD2 := Lib.hid hd2
  clear hb2 hz2 hd2
  go_wp2_with fail
  have d0 : w2.cell? ⟨W.heap.size, 0, none⟩ = some (.bool na) := HF2.out.cell 0 0 rfl rfl
  have d1 : w2.cell? ⟨W.heap.size, 1, none⟩ = some (.slice ao la ca) := HF2.out.cell 0 1 rfl rfl
  go_region_held3 (fun w' => w'.cell? ⟨W.heap.size, 0, none⟩ = some (.bool na) ∧ w'.cell? ⟨W.heap.size, 1, none⟩ = some (.slice ao la ca)) (go_keep)
    (first | (go_at_call 95; refine (powerOfTen_any _ k w2.drew rfl (by omega)).mono ?_; rintro e w3 ⟨to_, tl, tc, rfl, ht3, htl, hb3⟩; have HB3 := Lib.hid (below_of_drew hb3); have HT3 := Lib.hid ht3; have HF3 := Lib.hid (HF2.out.later HB3.out); clear hb3 ht3; have f0 : w3.cell? ⟨W.heap.size, 0, none⟩ = some (.bool na) := HF3.out.cell 0 0 rfl rfl; have f1 : w3.cell? ⟨W.heap.size, 1, none⟩ = some (.slice ao la ca) := HF3.out.cell 0 1 rfl rfl) | (go_at_call 94; refine (product_any _ _ _ _ _ _ m (10 ^ k) _ (HM.out.keep HF3.out.below) HT3.out (by omega) (by omega)).mono ?_; rintro e w4 ⟨po, pl, pc, rfl, hp4, hb4⟩; have HB4 := Lib.hid (below_then HB3.out hb4); have hp5 : N32 w4 po pl a := (by rw [HAQ.out]; exact hp4); have HP4 := Lib.hid hp5; have HF4 := Lib.hid (HF2.out.later HB4.out); have hpl4 := Nat.le_trans (hp5.len_le HALT.out) (show la + 64 ≤ 100064 by omega); clear hb4 hp4 hp5; have j0 : w4.cell? ⟨W.heap.size, 0, none⟩ = some (.bool na) := HF4.out.cell 0 0 rfl rfl; have j1 : w4.cell? ⟨W.heap.size, 1, none⟩ = some (.slice ao la ca) := HF4.out.cell 0 1 rfl rfl) | (go_at_call 86; refine (HD.out _ _ _ _ _ _ _ HP4.out (HD2.out.keep HB4.out) (by omega) (by omega)).mono ?_; rintro e w5 ⟨qo, ql, qc, ro, rl, rc, rfl, hq5, hr5, hb5⟩; have HB5 := Lib.hid (below_then HB4.out hb5); have HQ5 := Lib.hid hq5; have HR5 := Lib.hid hr5; have HF5 := Lib.hid (HF2.out.later HB5.out); clear hb5 hq5 hr5; have m0 : w5.cell? ⟨W.heap.size, 0, none⟩ = some (.bool na) := HF5.out.cell 0 0 rfl rfl; have m1 : w5.cell? ⟨W.heap.size, 1, none⟩ = some (.slice ao la ca) := HF5.out.cell 0 1 rfl rfl))
  have hql : ql ≤ 1000000000 := Nat.le_trans (HQ5.out.len_le (Nat.lt_of_le_of_lt (Nat.div_le_self _ _) HALT.out)) (by omega)
  have hrl : rl ≤ 1000000 := Nat.le_trans (HR5.out.len_le (Nat.lt_trans (Nat.mod_lt _ (Nat.pos_of_ne_zero HQ0.out)) HQLT.out)) (by omega)
  have HRLT := Lib.hid (Nat.lt_trans (Nat.mod_lt a (Nat.pos_of_ne_zero HQ0.out)) HQLT.out)
  clear c0 c1 c2 d0 d1 f0 f1 j0 j1
  go_wp2_with fail
  refine (sum_any _ _ _ _ _ _ (a % q) (a % q) _ HR5.out HR5.out (by omega) (by omega)).mono ?_
  rintro e w55 ⟨so5, sl5, sc5, rfl, hs5, hb55⟩
  have hsl5 : sl5 ≤ 1000000000 := by
    refine Nat.le_trans (hs5.len_le (k := lb + 2) ?_) (by omega)
    rw [Nat.pow_succ]
    have := HRLT.out
    have h3 : B32 ^ (lb + 1) * 2 ≤ B32 ^ (lb + 1) * B32 := Nat.mul_le_mul_left _ (by decide)
    omega
  have HS5 := Lib.hid hs5
  have HF55 := Lib.hid (HF5.out.later hb55)
  have HD55 := Lib.hid (HD2.out.keep (below_then HB5.out hb55))
  have HQ55 := Lib.hid (HQ5.out.keep hb55)
  clear hs5 hb55 m0 m1
  go_wp2_with fail
  refine (compare_any _ _ _ _ _ _ (a % q + a % q) q _ HS5.out HD55.out hsl5 (by omega)).mono ?_
  rintro e w6 ⟨rfl, hd6⟩
  have HF6 := Lib.hid (HF55.out.later hd6.below)
  have HQ6 := Lib.hid (HQ55.out.keep hd6.below)
  clear hd6
  rcases Nat.lt_trichotomy (a % q + a % q) q with hlt | heq | hgt
  · have hnear : nearest a q = a / q := by unfold nearest; rw [if_neg (by omega)]
    rw [cmpN_lt hlt]
    rw [hnear] at HK HLN HPL
    have HNEAR : Hid (nearest (m * 10 ^ k) q = a / q) := by rw [← HAQ.out]; exact hnear
    clear hnear hlt
    have HNR := Lib.hid HQ6.out
    have hnrl := hql

    go_wp2_with fail
    refine (writeDigits_any _ _ _ (a / q) _ HNR.out hnrl).mono ?_
    rintro e w9 ⟨rfl, hb9⟩
    have HF9 := Lib.hid (HF6.out.later hb9)
    clear hb9
    go_wp2_with fail
    refine (withPoint_any _ _ k _ rfl HK.out HLN.out).mono ?_
    rintro e w10 ⟨rfl, hd10⟩
    have HF10 := Lib.hid (HF9.out.later hd10.below)
    clear hd10
    have z0 : w10.cell? ⟨W.heap.size, 0, none⟩ = some (.bool na) := HF10.out.cell 0 0 rfl rfl
    have hnz := HNR.out.zero
    have HNZ := Lib.hid hnz
    clear hnz hnrl hql hrl hsl5 hpl4 htl hdl hla hlb hk i1 i2 HALT HQLT HUPL HRLT HLN HK
    cases na with
    | false =>
      go_wp2
      go_ret2
      exact ⟨by rw [decText_pos trivial trivial HNEAR.out]; rfl, HF10.out.below⟩
    | true =>
      by_cases hnl0 : ql = 0
      · have hz := Lib.hid (HNZ.out.2 hnl0)
        have q1 : ¬ (0 : Int) < (ql : Int) := by omega
        have q3 : decide (0 < ql) = false := by simp; omega
        clear hnl0
        go_wp2
        go_ret2
        exact ⟨by rw [decText_zero trivial trivial HNEAR.out hz.out]; rfl, HF10.out.below⟩
      · have hz : Hid ((a / q) ≠ 0) := fun h => hnl0 (HNZ.out.1 h)
        have q1 : (0 : Int) < (ql : Int) := by omega
        have q3 : decide (0 < ql) = true := by simp; omega
        clear hnl0
        have q2 := HPL.out
        go_wp2
        go_ret2
        refine ⟨?_, HF10.out.below⟩
        rw [decText_neg trivial (HMN.out trivial) HNEAR.out hz.out]
        have := bytes_append [45] (pointed (numeral (a / q)) k)
        exact congrArg (fun x => Ending.returned (.tuple #[Value.string x, .int .i64 0])) this
  · by_cases hodd : (a / q) % 2 = 1
    · have hnear : nearest a q = a / q + 1 := by unfold nearest; rw [if_pos (by omega)]
      rw [cmpN_eq heq]
      rw [hnear] at HK HLN HPL
      have HNEAR : Hid (nearest (m * 10 ^ k) q = a / q + 1) := by rw [← HAQ.out]; exact hnear
      have hob : ((a / q) % 2 == 1) = true := by simp [hodd]
      clear hnear heq
      go_wp2_with fail
      refine (isOdd_any _ _ _ (a / q) _ HQ6.out).mono ?_
      rw [hob]
      clear hob hodd
      rintro e w7 ⟨rfl, rfl⟩
      have HONE := Lib.hid (one_slice w6)
      have HF6a := Lib.hid (HF6.out.later (box_below w6 104 #[.int .u32 1]))
      go_wp2_with fail
      refine (sum_any _ _ _ _ _ _ (a / q) 1 _ (HQ6.out.keep (box_below _ _ _)) HONE.out hql (by omega)).mono ?_
      rintro e w8 ⟨so, sl, sc, rfl, hs8, hb8⟩
      have HF8 := Lib.hid (HF6a.out.later hb8)
      have HNR := Lib.hid hs8
      have hnrl : sl ≤ 1000000000 := Nat.le_trans (hs8.len_le HUPL.out) (by omega)
      clear hs8 hb8

      go_wp2_with fail
      refine (writeDigits_any _ _ _ (a / q + 1) _ HNR.out hnrl).mono ?_
      rintro e w9 ⟨rfl, hb9⟩
      have HF9 := Lib.hid (HF8.out.later hb9)
      clear hb9
      go_wp2_with fail
      refine (withPoint_any _ _ k _ rfl HK.out HLN.out).mono ?_
      rintro e w10 ⟨rfl, hd10⟩
      have HF10 := Lib.hid (HF9.out.later hd10.below)
      clear hd10
      have z0 : w10.cell? ⟨W.heap.size, 0, none⟩ = some (.bool na) := HF10.out.cell 0 0 rfl rfl
      have hnz := HNR.out.zero
      have HNZ := Lib.hid hnz
      clear hnz hnrl hql hrl hsl5 hpl4 htl hdl hla hlb hk i1 i2 HALT HQLT HUPL HRLT HLN HK
      cases na with
      | false =>
        go_wp2
        go_ret2
        exact ⟨by rw [decText_pos trivial trivial HNEAR.out]; rfl, HF10.out.below⟩
      | true =>
        by_cases hnl0 : sl = 0
        · have hz := Lib.hid (HNZ.out.2 hnl0)
          have q1 : ¬ (0 : Int) < (sl : Int) := by omega
          have q3 : decide (0 < sl) = false := by simp; omega
          clear hnl0
          go_wp2
          go_ret2
          exact ⟨by rw [decText_zero trivial trivial HNEAR.out hz.out]; rfl, HF10.out.below⟩
        · have hz : Hid ((a / q + 1) ≠ 0) := fun h => hnl0 (HNZ.out.1 h)
          have q1 : (0 : Int) < (sl : Int) := by omega
          have q3 : decide (0 < sl) = true := by simp; omega
          clear hnl0
          have q2 := HPL.out
          go_wp2
          go_ret2
          refine ⟨?_, HF10.out.below⟩
          rw [decText_neg trivial (HMN.out trivial) HNEAR.out hz.out]
          have := bytes_append [45] (pointed (numeral (a / q + 1)) k)
          exact congrArg (fun x => Ending.returned (.tuple #[Value.string x, .int .i64 0])) this
    · have hnear : nearest a q = a / q := by unfold nearest; rw [if_neg (by omega)]
      rw [cmpN_eq heq]
      rw [hnear] at HK HLN HPL
      have HNEAR : Hid (nearest (m * 10 ^ k) q = a / q) := by rw [← HAQ.out]; exact hnear
      have hob : ((a / q) % 2 == 1) = false := by simp [hodd]
      clear hnear heq
      go_wp2_with fail
      refine (isOdd_any _ _ _ (a / q) _ HQ6.out).mono ?_
      rw [hob]
      clear hob hodd
      rintro e w7 ⟨rfl, rfl⟩
      have HNR := Lib.hid HQ6.out
      have hnrl := hql

      go_wp2_with fail
      refine (writeDigits_any _ _ _ (a / q) _ HNR.out hnrl).mono ?_
      rintro e w9 ⟨rfl, hb9⟩
      have HF9 := Lib.hid (HF6.out.later hb9)
      clear hb9
      go_wp2_with fail
      refine (withPoint_any _ _ k _ rfl HK.out HLN.out).mono ?_
      rintro e w10 ⟨rfl, hd10⟩
      have HF10 := Lib.hid (HF9.out.later hd10.below)
      clear hd10
      have z0 : w10.cell? ⟨W.heap.size, 0, none⟩ = some (.bool na) := HF10.out.cell 0 0 rfl rfl
      have hnz := HNR.out.zero
      have HNZ := Lib.hid hnz
      clear hnz hnrl hql hrl hsl5 hpl4 htl hdl hla hlb hk i1 i2 HALT HQLT HUPL HRLT HLN HK
      cases na with
      | false =>
        go_wp2
        go_ret2
        exact ⟨by rw [decText_pos trivial trivial HNEAR.out]; rfl, HF10.out.below⟩
      | true =>
        by_cases hnl0 : ql = 0
        · have hz := Lib.hid (HNZ.out.2 hnl0)
          have q1 : ¬ (0 : Int) < (ql : Int) := by omega
          have q3 : decide (0 < ql) = false := by simp; omega
          clear hnl0
          go_wp2
          go_ret2
          exact ⟨by rw [decText_zero trivial trivial HNEAR.out hz.out]; rfl, HF10.out.below⟩
        · have hz : Hid ((a / q) ≠ 0) := fun h => hnl0 (HNZ.out.1 h)
          have q1 : (0 : Int) < (ql : Int) := by omega
          have q3 : decide (0 < ql) = true := by simp; omega
          clear hnl0
          have q2 := HPL.out
          go_wp2
          go_ret2
          refine ⟨?_, HF10.out.below⟩
          rw [decText_neg trivial (HMN.out trivial) HNEAR.out hz.out]
          have := bytes_append [45] (pointed (numeral (a / q)) k)
          exact congrArg (fun x => Ending.returned (.tuple #[Value.string x, .int .i64 0])) this
  · have hnear : nearest a q = a / q + 1 := by unfold nearest; rw [if_pos (by omega)]
    rw [cmpN_gt hgt]
    rw [hnear] at HK HLN HPL
    have HNEAR : Hid (nearest (m * 10 ^ k) q = a / q + 1) := by rw [← HAQ.out]; exact hnear
    clear hnear hgt
    have HONE := Lib.hid (one_slice w6)
    have HF6a := Lib.hid (HF6.out.later (box_below w6 104 #[.int .u32 1]))
    go_wp2_with fail
    refine (sum_any _ _ _ _ _ _ (a / q) 1 _ (HQ6.out.keep (box_below _ _ _)) HONE.out hql (by omega)).mono ?_
    rintro e w8 ⟨so, sl, sc, rfl, hs8, hb8⟩
    have HF8 := Lib.hid (HF6a.out.later hb8)
    have HNR := Lib.hid hs8
    have hnrl : sl ≤ 1000000000 := Nat.le_trans (hs8.len_le HUPL.out) (by omega)
    clear hs8 hb8

    go_wp2_with fail
    refine (writeDigits_any _ _ _ (a / q + 1) _ HNR.out hnrl).mono ?_
    rintro e w9 ⟨rfl, hb9⟩
    have HF9 := Lib.hid (HF8.out.later hb9)
    clear hb9
    go_wp2_with fail
    refine (withPoint_any _ _ k _ rfl HK.out HLN.out).mono ?_
    rintro e w10 ⟨rfl, hd10⟩
    have HF10 := Lib.hid (HF9.out.later hd10.below)
    clear hd10
    have z0 : w10.cell? ⟨W.heap.size, 0, none⟩ = some (.bool na) := HF10.out.cell 0 0 rfl rfl
    have hnz := HNR.out.zero
    have HNZ := Lib.hid hnz
    clear hnz hnrl hql hrl hsl5 hpl4 htl hdl hla hlb hk i1 i2 HALT HQLT HUPL HRLT HLN HK
    cases na with
    | false =>
      go_wp2
      go_ret2
      exact ⟨by rw [decText_pos trivial trivial HNEAR.out]; rfl, HF10.out.below⟩
    | true =>
      by_cases hnl0 : sl = 0
      · have hz := Lib.hid (HNZ.out.2 hnl0)
        have q1 : ¬ (0 : Int) < (sl : Int) := by omega
        have q3 : decide (0 < sl) = false := by simp; omega
        clear hnl0
        go_wp2
        go_ret2
        exact ⟨by rw [decText_zero trivial trivial HNEAR.out hz.out]; rfl, HF10.out.below⟩
      · have hz : Hid ((a / q + 1) ≠ 0) := fun h => hnl0 (HNZ.out.1 h)
        have q1 : (0 : Int) < (sl : Int) := by omega
        have q3 : decide (0 < sl) = true := by simp; omega
        clear hnl0
        have q2 := HPL.out
        go_wp2
        go_ret2
        refine ⟨?_, HF10.out.below⟩
        rw [decText_neg trivial (HMN.out trivial) HNEAR.out hz.out]
        have := bytes_append [45] (pointed (numeral (a / q + 1)) k)
        exact congrArg (fun x => Ending.returned (.tuple #[Value.string x, .int .i64 0])) this
end Go.Proofs.Ytdnnjjclklcihaa
