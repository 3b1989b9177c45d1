/- Div. -/
import Derived.Test.YtdnnjjclklcihaaDec
set_option linter.unusedVariables false
namespace Go.Proofs.Ytdnnjjclklcihaa
open Go.RowKit

theorem divmod_cast (m n : Nat) : ((m : Int) / (n : Int)) = ((m / n : Nat) : Int) ∧ ((m : Int) % (n : Int)) = ((m % n : Nat) : Int) := ⟨rfl, rfl⟩

theorem sgn_abs (b : Bool) (n : Nat) : (sgn b n = (n : Int) ∨ sgn b n = -(n : Int)) ∧ (b = false → sgn b n = n) ∧ (b = true → sgn b n = -(n : Int)) := by cases b <;> simp [sgn]

theorem euclid_pos {x y q r : Int} (hy : 0 < y) (h : y * q + r = x) (h0 : 0 ≤ r) (h1 : r < y) : x / y = q ∧ x % y = r :=
  (Int.ediv_emod_unique hy).2 ⟨by omega, h0, h1⟩

/-- the quotient and the remainder, which is not negative, are known by their sum and range -/
theorem euclid {x y q r : Int} (hy : y ≠ 0) (h : y * q + r = x) (h0 : 0 ≤ r) (h1 : r < y.natAbs) : x / y = q ∧ x % y = r := by
  by_cases hp : 0 < y
  · exact euclid_pos hp h h0 (by omega)
  · have h2 := euclid_pos (x := x) (y := -y) (q := -q) (r := r) (by omega) (by rw [Int.neg_mul_neg]; exact h) h0 (by omega)
    rw [Int.ediv_neg, Int.emod_neg] at h2
    exact ⟨by omega, h2.2⟩

theorem bne_false (b : Bool) : (false != b) = b := by cases b <;> rfl
theorem bne_true (b : Bool) : (true != b) = !b := by cases b <;> rfl
theorem sgn_true (n : Nat) : sgn true n = -(n : Int) := rfl
theorem sgn_false (n : Nat) : sgn false n = (n : Int) := rfl

theorem div_cases (na nb : Bool) (m n : Nat) (hn : n ≠ 0) (h : na = false ∨ m % n = 0) : sgn na m / sgn nb n = sgn (na != nb) (m / n) ∧ sgn na m % sgn nb n = sgn false (m % n) := by
  have hy : sgn nb n ≠ 0 := by cases nb <;> simp [sgn] <;> omega
  have e := Nat.div_add_mod m n
  have hl := Nat.mod_lt m (show 0 < n by omega)
  obtain ⟨q, hq⟩ : ∃ q, q = m / n := ⟨_, rfl⟩
  obtain ⟨r, hr⟩ : ∃ q, q = m % n := ⟨_, rfl⟩
  rw [← hq, ← hr] at e
  rw [← hr] at hl h
  rw [← hq, ← hr]
  have e2 : (n : Int) * (q : Int) + (r : Int) = (m : Int) := by exact_mod_cast e
  refine euclid hy ?_ ?_ ?_
  · rcases h with rfl | h
    · cases nb
      · exact e2
      · show -(n : Int) * -(q : Int) + (r : Int) = (m : Int)
        rw [Int.neg_mul_neg]; exact e2
    · have e3 : (r : Int) = 0 := by omega
      cases na <;> cases nb
      · exact e2
      · show -(n : Int) * -(q : Int) + (r : Int) = (m : Int)
        rw [Int.neg_mul_neg]; exact e2
      · show (n : Int) * -(q : Int) + (r : Int) = -(m : Int)
        rw [Int.mul_neg]; omega
      · show -(n : Int) * (q : Int) + (r : Int) = -(m : Int)
        rw [Int.neg_mul]; omega
  · show (0 : Int) ≤ (r : Int); omega
  · rw [sgn_natAbs]; show (r : Int) < (n : Int); omega

theorem div_up (nb : Bool) (m n : Nat) (hn : n ≠ 0) (h : m % n ≠ 0) : sgn true m / sgn nb n = sgn (true != nb) (m / n + 1) ∧ sgn true m % sgn nb n = sgn false (n - m % n) := by
  have hy : sgn nb n ≠ 0 := by cases nb <;> simp [sgn] <;> omega
  have e := Nat.div_add_mod m n
  have hl := Nat.mod_lt m (show 0 < n by omega)
  obtain ⟨q, hq⟩ : ∃ q, q = m / n := ⟨_, rfl⟩
  obtain ⟨r, hr⟩ : ∃ q, q = m % n := ⟨_, rfl⟩
  rw [← hq, ← hr] at e
  rw [← hr] at hl h
  rw [← hq, ← hr]
  have e2 : (n : Int) * (q : Int) + (r : Int) = (m : Int) := by exact_mod_cast e
  have e3 : ((n - r : Nat) : Int) = (n : Int) - (r : Int) := by omega
  have e4 : ((q + 1 : Nat) : Int) = (q : Int) + 1 := by omega
  refine euclid hy ?_ ?_ ?_
  · cases nb
    · show (n : Int) * -((q + 1 : Nat) : Int) + ((n - r : Nat) : Int) = -(m : Int)
      rw [e3, e4, Int.mul_neg, Int.mul_add]; omega
    · show -(n : Int) * ((q + 1 : Nat) : Int) + ((n - r : Nat) : Int) = -(m : Int)
      rw [e3, e4, Int.neg_mul, Int.mul_add]; omega
  · show (0 : Int) ≤ ((n - r : Nat) : Int); omega
  · rw [sgn_natAbs]; show ((n - r : Nat) : Int) < (n : Int); omega

def DivZPost (x y : Int) (W : World) (e : Ending) (w' : World) : Prop :=
  ∃ s1 uo ul uc s2 vo vl vc, e = .returned (.tuple #[.agg #[.bool s1, .slice uo ul uc], .agg #[.bool s2, .slice vo vl vc], .int .i64 0]) ∧ Z32 w' s1 uo ul (x / y) ∧ Z32 w' s2 vo vl (x % y) ∧ Below W.heap.size W w'

set_option maxHeartbeats 2000000 in
theorem div_any (na nb : Bool) (ao bo : Option Addr) (la lb ca cb : Nat) (x y : Int) (W : World) (ha : Z32 W na ao la x) (hb : Z32 W nb bo lb y) (hla : la ≤ 100000000) (hlb : lb ≤ 100000000) (hy : y ≠ 0)
    (hD : DivOk x.natAbs y.natAbs) :
    Calls Try.prog 43 #[.agg #[.bool na, .slice ao la ca], .agg #[.bool nb, .slice bo lb cb]] W (DivZPost x y W) := by
  have hf : Fr W ((((W.alloc (.cells #[.bool na, .slice ao la ca] 24)).alloc (.cells #[.bool nb, .slice bo lb cb] 24)).alloc (.cells #[.bool false, .slice none 0 0] 24)).alloc (.cells #[.bool false, .slice none 0 0] 24))
      [(24, #[.bool na, .slice ao la ca]), (24, #[.bool nb, .slice bo lb cb]), (24, #[.bool false, .slice none 0 0]), (24, #[.bool false, .slice none 0 0])] :=
    ((((Fr.nil W).alloc rfl _ _).alloc (by simp) _ _).alloc (by simp) _ _).alloc (by simp) _ _
  have hlb0 : lb ≠ 0 := fun h => hy (hb.zero.2 h)
  obtain ⟨m, hm, rfl, hmn⟩ := ha
  obtain ⟨n, hn, rfl, hnn⟩ := hb
  rw [sgn_natAbs, sgn_natAbs] at hD
  have hn0 : n ≠ 0 := fun h => hlb0 (hn.zero.1 h)
  have hbb : ((lb : Int) == 0) = false := by simp; omega
  have HM := Lib.hid hm
  have HN := Lib.hid hn
  have HD := Lib.hid hD
  have HN0 := Lib.hid hn0
  clear hm hn hD hn0 hy hmn hnn
  go_enter Try.func43, Try.ntmps43
  go_wp2_with fail
  obtain ⟨W3, hW3⟩ : ∃ W3, W3 = (((W.alloc (.cells #[.bool na, .slice ao la ca] 24)).alloc (.cells #[.bool nb, .slice bo lb cb] 24)).alloc (.cells #[.bool false, .slice none 0 0] 24)).alloc (.cells #[.bool false, .slice none 0 0] 24) := ⟨_, rfl⟩
  rw [← hW3] at hf ⊢
  clear hW3
  have HF := Lib.hid hf
  clear hf
  refine (HD.out _ _ _ _ _ _ _ (HM.out.keep HF.out.below) (HN.out.keep HF.out.below) (by omega) (by omega)).mono ?_
  rintro e w1 ⟨qo, ql, qc, ro, rl, rc, rfl, hq1, hr1, hb1⟩
  have hql : ql ≤ 100000000 := Nat.le_trans (hq1.len_le (Nat.lt_of_le_of_lt (Nat.div_le_self _ _) HM.out.lt)) hla
  have hrl : rl ≤ 100000000 := Nat.le_trans (hr1.len_le (Nat.lt_trans (Nat.mod_lt _ (Nat.pos_of_ne_zero HN0.out)) HN.out.lt)) hlb
  have hrz := hr1.zero
  have HF1 := Lib.hid (HF.out.later hb1)
  have HQ := Lib.hid hq1
  have HR := Lib.hid hr1
  have HRZ := Lib.hid hrz
  clear hq1 hr1 hb1 hrz
  have c0 : w1.cell? ⟨W.heap.size, 0, none⟩ = some (.bool na) := HF1.out.cell 0 0 rfl rfl
  cases na with
  | false =>
    have HXQ := Lib.hid (div_cases false nb m n HN0.out (.inl rfl)).1
    have HXR := Lib.hid (div_cases false nb m n HN0.out (.inl rfl)).2
    have hrl := HR.out
    have e0 : w1.cell? ⟨W.heap.size, 0, none⟩ = some (.bool false) := HF1.out.cell 0 0 rfl rfl
    have e1 : w1.cell? ⟨W.heap.size + 1, 0, none⟩ = some (.bool nb) := HF1.out.cell 1 0 rfl rfl
    clear hrl
    go_wp2_with fail
    refine (signed_any _ _ _ _ _ _ HQ.out).mono ?_
    rintro e w5 ⟨s1, uo, ul, uc, rfl, hz5, hb5⟩
    have HF5 := Lib.hid (HF1.out.later hb5)
    have HZ5 := Lib.hid hz5
    have HR5 := Lib.hid (HR.out.keep hb5)
    clear hz5 hb5
    go_wp2_with fail
    refine (signed_any _ _ _ _ _ _ HR5.out).mono ?_
    rintro e w6 ⟨s2, vo, vl, vc, rfl, hz6, hb6⟩
    have HF6 := Lib.hid (HF5.out.later hb6)
    have HZ6 := Lib.hid (HZ5.out.keep hb6)
    have HY6 := Lib.hid hz6
    clear hz6 hb6
    have g0 : w6.cell? ⟨W.heap.size + 1 + 1, 0, none⟩ = some (.bool false) := HF6.out.cell 2 0 rfl rfl
    have g1 : w6.cell? ⟨W.heap.size + 1 + 1, 1, none⟩ = some (.slice none 0 0) := HF6.out.cell 2 1 rfl rfl
    have g2 : w6.frozen? ⟨W.heap.size + 1 + 1, 0, none⟩ = false := HF6.out.frozen 2 0 rfl
    have g3 : w6.frozen? ⟨W.heap.size + 1 + 1, 1, none⟩ = false := HF6.out.frozen 2 1 rfl
    have g4 : w6.cell? ⟨W.heap.size + 1 + 1 + 1, 0, none⟩ = some (.bool false) := HF6.out.cell 3 0 rfl rfl
    have g5 : w6.cell? ⟨W.heap.size + 1 + 1 + 1, 1, none⟩ = some (.slice none 0 0) := HF6.out.cell 3 1 rfl rfl
    have g6 : w6.frozen? ⟨W.heap.size + 1 + 1 + 1, 0, none⟩ = false := HF6.out.frozen 3 0 rfl
    have g7 : w6.frozen? ⟨W.heap.size + 1 + 1 + 1, 1, none⟩ = false := HF6.out.frozen 3 1 rfl
    go_wp2
    obtain ⟨k0, k1, hz, _, hfr⟩ := HF6.out.finI (cap := uc) 2 rfl HZ6.out
    have hy2 := ((HY6.out.setFr HF6.out 2 0 rfl rfl (.bool s1)).setFr (HF6.out.set 2 0 rfl (.bool s1)) 2 1 rfl rfl (.slice uo ul uc))
    obtain ⟨k2, k3, hy3, hbel, hfr2⟩ := hfr.finI (cap := vc) 3 rfl hy2
    have hz3 := ((hz.setFr hfr 3 0 rfl rfl (.bool s2)).setFr (hfr.set 3 0 rfl (.bool s2)) 3 1 rfl rfl (.slice vo vl vc))
    have k4 := hfr2.cell 2 0 (v := .bool s1) rfl rfl
    have k5 := hfr2.cell 2 1 (v := .slice uo ul uc) rfl rfl
    exact bodyPost_ret (v := .tuple #[.agg #[.bool s1, .slice uo ul uc], .agg #[.bool s2, .slice vo vl vc], .int .i64 0]) (by simp [results, Try.results43, go_sem, k2, k3, k4, k5]) rfl ⟨s1, uo, ul, uc, s2, vo, vl, vc, rfl, by rw [HXQ.out, bne_false]; exact hz3, by rw [HXR.out]; exact hy3, hbel⟩
  | true =>
    by_cases hr0 : rl = 0
    · have HXQ := Lib.hid (div_cases true nb m n HN0.out (.inr (HRZ.out.2 hr0))).1
      have HXR := Lib.hid (div_cases true nb m n HN0.out (.inr (HRZ.out.2 hr0))).2
      have q1 : ¬ (0 : Int) < (rl : Int) := by omega
      have q3 : decide (0 < rl) = false := by simp; omega
      clear hr0
      have hrl := HR.out
      have e0 : w1.cell? ⟨W.heap.size, 0, none⟩ = some (.bool true) := HF1.out.cell 0 0 rfl rfl
      have e1 : w1.cell? ⟨W.heap.size + 1, 0, none⟩ = some (.bool nb) := HF1.out.cell 1 0 rfl rfl
      clear hrl
      go_wp2_with fail
      refine (signed_any _ _ _ _ _ _ HQ.out).mono ?_
      rintro e w5 ⟨s1, uo, ul, uc, rfl, hz5, hb5⟩
      have HF5 := Lib.hid (HF1.out.later hb5)
      have HZ5 := Lib.hid hz5
      have HR5 := Lib.hid (HR.out.keep hb5)
      clear hz5 hb5
      go_wp2_with fail
      refine (signed_any _ _ _ _ _ _ HR5.out).mono ?_
      rintro e w6 ⟨s2, vo, vl, vc, rfl, hz6, hb6⟩
      have HF6 := Lib.hid (HF5.out.later hb6)
      have HZ6 := Lib.hid (HZ5.out.keep hb6)
      have HY6 := Lib.hid hz6
      clear hz6 hb6
      have g0 : w6.cell? ⟨W.heap.size + 1 + 1, 0, none⟩ = some (.bool false) := HF6.out.cell 2 0 rfl rfl
      have g1 : w6.cell? ⟨W.heap.size + 1 + 1, 1, none⟩ = some (.slice none 0 0) := HF6.out.cell 2 1 rfl rfl
      have g2 : w6.frozen? ⟨W.heap.size + 1 + 1, 0, none⟩ = false := HF6.out.frozen 2 0 rfl
      have g3 : w6.frozen? ⟨W.heap.size + 1 + 1, 1, none⟩ = false := HF6.out.frozen 2 1 rfl
      have g4 : w6.cell? ⟨W.heap.size + 1 + 1 + 1, 0, none⟩ = some (.bool false) := HF6.out.cell 3 0 rfl rfl
      have g5 : w6.cell? ⟨W.heap.size + 1 + 1 + 1, 1, none⟩ = some (.slice none 0 0) := HF6.out.cell 3 1 rfl rfl
      have g6 : w6.frozen? ⟨W.heap.size + 1 + 1 + 1, 0, none⟩ = false := HF6.out.frozen 3 0 rfl
      have g7 : w6.frozen? ⟨W.heap.size + 1 + 1 + 1, 1, none⟩ = false := HF6.out.frozen 3 1 rfl
      go_wp2
      obtain ⟨k0, k1, hz, _, hfr⟩ := HF6.out.finI (cap := uc) 2 rfl HZ6.out
      have hy2 := ((HY6.out.setFr HF6.out 2 0 rfl rfl (.bool s1)).setFr (HF6.out.set 2 0 rfl (.bool s1)) 2 1 rfl rfl (.slice uo ul uc))
      obtain ⟨k2, k3, hy3, hbel, hfr2⟩ := hfr.finI (cap := vc) 3 rfl hy2
      have hz3 := ((hz.setFr hfr 3 0 rfl rfl (.bool s2)).setFr (hfr.set 3 0 rfl (.bool s2)) 3 1 rfl rfl (.slice vo vl vc))
      have k4 := hfr2.cell 2 0 (v := .bool s1) rfl rfl
      have k5 := hfr2.cell 2 1 (v := .slice uo ul uc) rfl rfl
      exact bodyPost_ret (v := .tuple #[.agg #[.bool s1, .slice uo ul uc], .agg #[.bool s2, .slice vo vl vc], .int .i64 0]) (by simp [results, Try.results43, go_sem, k2, k3, k4, k5]) rfl ⟨s1, uo, ul, uc, s2, vo, vl, vc, rfl, by rw [HXQ.out, bne_true]; exact hz3, by rw [HXR.out]; exact hy3, hbel⟩
    · have hmr : m % n ≠ 0 := fun h => hr0 (HRZ.out.1 h)
      have HXQ := Lib.hid (div_up nb m n HN0.out hmr).1
      have HXR := Lib.hid (div_up nb m n HN0.out hmr).2
      have q1 : (0 : Int) < (rl : Int) := by omega
      have q3 : decide (0 < rl) = true := by simp; omega
      clear hr0 hmr
      have HONE := Lib.hid (one_slice w1)
      have HF1a := Lib.hid (HF1.out.later (box_below w1 104 #[.int .u32 1]))
      go_wp2_with fail
      refine (sum_any _ _ _ _ _ _ (m / n) 1 _ (HQ.out.keep (box_below _ _ _)) HONE.out (by omega) (by omega)).mono ?_
      rintro e w2 ⟨so, sl, sc, rfl, hs2, hb2⟩
      have HF2 := Lib.hid (HF1a.out.later hb2)
      have HQ2 := Lib.hid hs2
      have HR2 := Lib.hid ((HR.out.keep (box_below _ _ _)).keep hb2)
      clear hs2 hb2
      have c1 : w2.cell? ⟨W.heap.size + 1, 1, none⟩ = some (.slice bo lb cb) := HF2.out.cell 1 1 rfl rfl
      go_wp2_with fail
      refine (difference_any _ _ _ _ _ _ n (m % n) _ (HN.out.keep HF2.out.below) HR2.out (by omega) (Nat.le_of_lt (Nat.mod_lt _ (Nat.pos_of_ne_zero HN0.out)))).mono ?_
      rintro e w4 ⟨to_, tl, tc, rfl, hd4, hb4⟩
      have HF4 := Lib.hid (HF2.out.later hb4)
      have HQ4 := Lib.hid (HQ2.out.keep hb4)
      have HR4 := Lib.hid hd4
      clear hd4 hb4
      have hrl := HR4.out
      have e0 : w4.cell? ⟨W.heap.size, 0, none⟩ = some (.bool true) := HF4.out.cell 0 0 rfl rfl
      have e1 : w4.cell? ⟨W.heap.size + 1, 0, none⟩ = some (.bool nb) := HF4.out.cell 1 0 rfl rfl
      clear hrl
      go_wp2_with fail
      refine (signed_any _ _ _ _ _ _ HQ4.out).mono ?_
      rintro e w5 ⟨s1, uo, ul, uc, rfl, hz5, hb5⟩
      have HF5 := Lib.hid (HF4.out.later hb5)
      have HZ5 := Lib.hid hz5
      have HR5 := Lib.hid (HR4.out.keep hb5)
      clear hz5 hb5
      go_wp2_with fail
      refine (signed_any _ _ _ _ _ _ HR5.out).mono ?_
      rintro e w6 ⟨s2, vo, vl, vc, rfl, hz6, hb6⟩
      have HF6 := Lib.hid (HF5.out.later hb6)
      have HZ6 := Lib.hid (HZ5.out.keep hb6)
      have HY6 := Lib.hid hz6
      clear hz6 hb6
      have g0 : w6.cell? ⟨W.heap.size + 1 + 1, 0, none⟩ = some (.bool false) := HF6.out.cell 2 0 rfl rfl
      have g1 : w6.cell? ⟨W.heap.size + 1 + 1, 1, none⟩ = some (.slice none 0 0) := HF6.out.cell 2 1 rfl rfl
      have g2 : w6.frozen? ⟨W.heap.size + 1 + 1, 0, none⟩ = false := HF6.out.frozen 2 0 rfl
      have g3 : w6.frozen? ⟨W.heap.size + 1 + 1, 1, none⟩ = false := HF6.out.frozen 2 1 rfl
      have g4 : w6.cell? ⟨W.heap.size + 1 + 1 + 1, 0, none⟩ = some (.bool false) := HF6.out.cell 3 0 rfl rfl
      have g5 : w6.cell? ⟨W.heap.size + 1 + 1 + 1, 1, none⟩ = some (.slice none 0 0) := HF6.out.cell 3 1 rfl rfl
      have g6 : w6.frozen? ⟨W.heap.size + 1 + 1 + 1, 0, none⟩ = false := HF6.out.frozen 3 0 rfl
      have g7 : w6.frozen? ⟨W.heap.size + 1 + 1 + 1, 1, none⟩ = false := HF6.out.frozen 3 1 rfl
      go_wp2
      obtain ⟨k0, k1, hz, _, hfr⟩ := HF6.out.finI (cap := uc) 2 rfl HZ6.out
      have hy2 := ((HY6.out.setFr HF6.out 2 0 rfl rfl (.bool s1)).setFr (HF6.out.set 2 0 rfl (.bool s1)) 2 1 rfl rfl (.slice uo ul uc))
      obtain ⟨k2, k3, hy3, hbel, hfr2⟩ := hfr.finI (cap := vc) 3 rfl hy2
      have hz3 := ((hz.setFr hfr 3 0 rfl rfl (.bool s2)).setFr (hfr.set 3 0 rfl (.bool s2)) 3 1 rfl rfl (.slice vo vl vc))
      have k4 := hfr2.cell 2 0 (v := .bool s1) rfl rfl
      have k5 := hfr2.cell 2 1 (v := .slice uo ul uc) rfl rfl
      exact bodyPost_ret (v := .tuple #[.agg #[.bool s1, .slice uo ul uc], .agg #[.bool s2, .slice vo vl vc], .int .i64 0]) (by simp [results, Try.results43, go_sem, k2, k3, k4, k5]) rfl ⟨s1, uo, ul, uc, s2, vo, vl, vc, rfl, by rw [HXQ.out, bne_true]; exact hz3, by rw [HXR.out]; exact hy3, hbel⟩
end Go.Proofs.Ytdnnjjclklcihaa
