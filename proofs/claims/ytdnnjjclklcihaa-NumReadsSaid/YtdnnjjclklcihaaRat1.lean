/- reduced, NewRat, the text of a fraction. -/
import Derived.Test.YtdnnjjclklcihaaFr
set_option linter.unusedVariables false
namespace Go.Proofs.Ytdnnjjclklcihaa
open Go.RowKit

def textQ (p : Int) (q : Nat) : List UInt8 := if q = 1 then numeralZ p else numeralZ p ++ [47] ++ numeral q

theorem numeralZ_len {p : Int} {k : Nat} (h : p.natAbs < B32 ^ k) : (numeralZ p).length ≤ 32 * k + 2 := by
  have := numeral_len h
  unfold numeralZ
  split <;> simp <;> omega

theorem Z32.natAbs_lt {w : World} {neg : Bool} {ao : Option Addr} {len : Nat} {z : Int} (h : Z32 w neg ao len z) : z.natAbs < B32 ^ len := by
  obtain ⟨n, h1, rfl, _⟩ := h
  rw [sgn_natAbs]
  exact h1.lt

set_option maxHeartbeats 1000000 in
theorem ratString_any (na : Bool) (ao bo : Option Addr) (la lb ca cb : Nat) (p : Int) (q : Nat) (W : World) (h : Q32 W na ao la bo lb p q) (hla : la ≤ 1000000000) (hlb : lb ≤ 1000000000) :
    Calls Try.prog 48 #[.agg #[.bool na, .slice ao la ca, .slice bo lb cb]] W (StrPost (textQ p q) W) := by
  have hf : Fr W (W.alloc (.cells #[.bool na, .slice ao la ca, .slice bo lb cb] 67)) [(67, #[.bool na, .slice ao la ca, .slice bo lb cb])] := (Fr.nil W).alloc rfl _ _
  have HF := Lib.hid hf
  have hbl := h.bl0
  have HQ := Lib.hid (h.keep hf.below)
  by_cases h0 : lb = 0
  · have hq : q = 1 := hbl.1 h0
    have HE : Hid (textQ p q = numeralZ p) := by unfold textQ; rw [if_pos hq]; rfl
    rw [HE.out]
    subst h0
    clear hf h hbl hq
    go_enter Try.func48, Try.ntmps48
    go_wp2_with fail
    refine (string_any _ _ _ _ p _ HQ.out.1 hla).mono ?_
    rintro e w1 ⟨rfl, hb⟩
    have HB := Lib.hid hb
    clear hb
    go_wp2
    go_ret
    exact ⟨rfl, below_then HF.out.below HB.out⟩
  · have hq : q ≠ 1 := fun h => h0 (hbl.2 h)
    have hN : N32 (W.alloc (.cells #[.bool na, .slice ao la ca, .slice bo lb cb] 67)) bo lb q := by
      rcases HQ.out.2 with ⟨h2, _⟩ | ⟨h2, _⟩
      · exact absurd h2 h0
      · exact h2
    have HE : Hid (textQ p q = numeralZ p ++ [47] ++ numeral q) := by unfold textQ; rw [if_neg hq]; rfl
    rw [HE.out]
    have hl1 := numeralZ_len h.1.natAbs_lt
    have hl2 := numeral_len hN.lt
    have l1 : ¬ 9223372036854775807 < (numeralZ p).length + 1 := by omega
    have l2 : ¬ 9223372036854775807 < (numeralZ p).length + 1 + (numeral q).length := by omega
    have HN := Lib.hid hN
    have hb0 : ((lb : Int) == 0) = false := by simp; omega
    clear hf h hbl hq hN hl1 hl2
    go_enter Try.func48, Try.ntmps48
    go_wp2_with fail
    obtain ⟨W1, hW1⟩ : ∃ W1, W1 = W.alloc (.cells #[.bool na, .slice ao la ca, .slice bo lb cb] 67) := ⟨_, rfl⟩
    rw [← hW1] at HF HQ HN ⊢
    clear hW1
    have c0 : W1.cell? ⟨W.heap.size, 0, none⟩ = some (.bool na) := HF.out.cell 0 0 rfl rfl
    have c1 : W1.cell? ⟨W.heap.size, 1, none⟩ = some (.slice ao la ca) := HF.out.cell 0 1 rfl rfl
    have c2 : W1.cell? ⟨W.heap.size, 2, none⟩ = some (.slice bo lb cb) := HF.out.cell 0 2 rfl rfl
    go_region_held3 (fun w' => w'.cell? ⟨W.heap.size, 0, none⟩ = some (.bool na) ∧ w'.cell? ⟨W.heap.size, 1, none⟩ = some (.slice ao la ca) ∧ w'.cell? ⟨W.heap.size, 2, none⟩ = some (.slice bo lb cb)) (go_keep)
      (first | (go_at_call 26; refine (string_any _ _ _ _ p W1.drew (HQ.out.keep (Below.refl _ _).drew).1 hla).mono ?_; rintro e w1 ⟨rfl, hb1⟩; have HB1 := Lib.hid (below_of_drew hb1); clear hb1; have d0 : w1.cell? ⟨W.heap.size, 0, none⟩ = some (.bool na) := (HF.out.later HB1.out).cell 0 0 rfl rfl; have d1 : w1.cell? ⟨W.heap.size, 1, none⟩ = some (.slice ao la ca) := (HF.out.later HB1.out).cell 0 1 rfl rfl; have d2 : w1.cell? ⟨W.heap.size, 2, none⟩ = some (.slice bo lb cb) := (HF.out.later HB1.out).cell 0 2 rfl rfl) | (go_at_call 73; refine (writeDigits_any _ _ _ q _ (HN.out.keep HB1.out) hlb).mono ?_; rintro e w2 ⟨rfl, hb2⟩; have HB2 := Lib.hid (below_then HB1.out hb2); clear hb2; have f0 : w2.cell? ⟨W.heap.size, 0, none⟩ = some (.bool na) := (HF.out.later HB2.out).cell 0 0 rfl rfl; have f1 : w2.cell? ⟨W.heap.size, 1, none⟩ = some (.slice ao la ca) := (HF.out.later HB2.out).cell 0 1 rfl rfl; have f2 : w2.cell? ⟨W.heap.size, 2, none⟩ = some (.slice bo lb cb) := (HF.out.later HB2.out).cell 0 2 rfl rfl))
    go_wp2
    go_ret
    refine ⟨?_, below_then HF.out.below HB2.out⟩
    have h1 := bytes_append (numeralZ p) [47]
    have h2 := bytes_append (numeralZ p ++ [47]) (numeral q)
    rw [← h1] at h2
    exact congrArg (fun x => Ending.returned (Value.string x)) h2

theorem N32.one_of {w : World} {ao : Option Addr} {len n : Nat} (h : N32 w ao len n) (hn : n = 1) : len = 1 := by
  obtain ⟨xs, h1, h2, h3, h4⟩ := h
  have : xs = [1] := val_inj B32_pos h2 (Dig.cons (by decide) (Dig.nil _)) h3 (fun _ => by simp) (by rw [h4, hn]; rfl)
  rw [← h1.len, this]; rfl

theorem sgn_div (a b : Bool) (m n g : Nat) : sgn (a != b) (m / g) = sgn (a != b) (m / g) := rfl

set_option maxHeartbeats 2000000 in
theorem reduced_any (na nb : Bool) (ao bo : Option Addr) (la lb ca cb m n : Nat) (W : World) (ha : N32 W ao la m) (hb : N32 W bo lb n) (hla : la ≤ 1000000000) (hlb : lb ≤ 1000000000) (hn0 : n ≠ 0)
    (hG : GcdOk m n) (hD1 : DivOk m (Nat.gcd m n)) (hD2 : DivOk n (Nat.gcd m n)) :
    Calls Try.prog 92 #[.agg #[.bool na, .slice ao la ca], .agg #[.bool nb, .slice bo lb cb]] W (OutQ W (sgn (na != nb) (m / Nat.gcd m n)) (n / Nat.gcd m n)) := by
  have hf : Fr W (((W.alloc (.cells #[.bool na, .slice ao la ca] 24)).alloc (.cells #[.bool nb, .slice bo lb cb] 24)).alloc (.cells #[.bool false, .slice none 0 0, .slice none 0 0] 67))
      [(24, #[.bool na, .slice ao la ca]), (24, #[.bool nb, .slice bo lb cb]), (67, #[.bool false, .slice none 0 0, .slice none 0 0])] :=
    (((Fr.nil W).alloc rfl _ _).alloc (by simp) _ _).alloc (by simp) _ _
  have hgle : Nat.gcd m n ≤ n := Nat.gcd_le_right m (by omega)
  have hglt := Nat.lt_of_le_of_lt hgle hb.lt
  have HA := Lib.hid ha
  have HB := Lib.hid hb
  have HGO := Lib.hid hG
  have HD1 := Lib.hid hD1
  have HD2 := Lib.hid hD2
  have HGL := Lib.hid hglt
  have HN0 := Lib.hid hn0
  clear ha hb hG hD1 hD2 hgle hglt hn0
  go_enter Try.func92, Try.ntmps92
  go_wp2_with fail
  obtain ⟨W3, hW3⟩ : ∃ W3, W3 = ((W.alloc (.cells #[.bool na, .slice ao la ca] 24)).alloc (.cells #[.bool nb, .slice bo lb cb] 24)).alloc (.cells #[.bool false, .slice none 0 0, .slice none 0 0] 67) := ⟨_, rfl⟩
  rw [← hW3] at hf ⊢
  clear hW3
  have HF := Lib.hid hf
  clear hf
  refine (HGO.out _ _ _ _ _ _ _ (HA.out.keep HF.out.below) (HB.out.keep HF.out.below) hla hlb).mono ?_
  rintro e w1 ⟨go_, gl, gc, rfl, hg1, hb1⟩
  have hgl : gl ≤ 1000000000 := Nat.le_trans (hg1.len_le HGL.out) hlb
  have HF1 := Lib.hid (HF.out.later hb1)
  have HG1 := Lib.hid hg1
  clear hb1 hg1
  have c0 : w1.cell? ⟨W.heap.size, 1, none⟩ = some (.slice ao la ca) := HF1.out.cell 0 1 rfl rfl
  go_wp2_with fail
  refine (HD1.out _ _ _ _ _ _ _ (HA.out.keep HF1.out.below) HG1.out hla hgl).mono ?_
  rintro e w2 ⟨qo, ql, qc, ro, rl, rc, rfl, hq, hr, hb2⟩
  have HF2 := Lib.hid (HF1.out.later hb2)
  have HG2 := Lib.hid (HG1.out.keep hb2)
  have HQ2 := Lib.hid hq
  clear hb2 hq hr
  have c1 : w2.cell? ⟨W.heap.size + 1, 1, none⟩ = some (.slice bo lb cb) := HF2.out.cell 1 1 rfl rfl
  go_wp2_with fail
  refine (HD2.out _ _ _ _ _ _ _ (HB.out.keep HF2.out.below) HG2.out hlb hgl).mono ?_
  rintro e w3 ⟨so, sl, sc, tto, tl, tc, rfl, hs, ht, hb3⟩
  have hnq : n / Nat.gcd m n < B32 ^ lb := Nat.lt_of_le_of_lt (Nat.div_le_self _ _) HB.out.lt
  have hsl : sl ≤ 1000000000 := Nat.le_trans (hs.len_le hnq) hlb
  have hq0 : n / Nat.gcd m n ≠ 0 := by
    have h1 := Nat.gcd_le_right m (show 0 < n by have := HN0.out; omega)
    have h2 : 0 < Nat.gcd m n := Nat.gcd_pos_of_pos_right m (by have := HN0.out; omega)
    have := Nat.div_pos h1 h2
    omega
  have HF3 := Lib.hid (HF2.out.later hb3)
  have HQ3 := Lib.hid (HQ2.out.keep hb3)
  have HS3 := Lib.hid hs
  have HQ0 := Lib.hid hq0
  clear hb3 hs ht hq0 hnq
  go_wp2_with fail
  refine (isOne_any _ _ _ _ _ HS3.out hsl).mono ?_
  rintro e w4 ⟨rfl, rfl⟩
  have d0 : w3.cell? ⟨W.heap.size, 0, none⟩ = some (.bool na) := HF3.out.cell 0 0 rfl rfl
  have d1 : w3.cell? ⟨W.heap.size + 1, 0, none⟩ = some (.bool nb) := HF3.out.cell 1 0 rfl rfl
  by_cases h1 : n / Nat.gcd m n = 1
  · have hone : (n / Nat.gcd m n == 1) = true := by simp [h1]
    rw [hone]
    clear hone
    go_wp2_with fail
    refine (signed_any _ _ _ _ _ _ HQ3.out).mono ?_
    rintro e w5 ⟨neg, uo, ul, uc, rfl, hz, hb5⟩
    have HF5 := Lib.hid (HF3.out.later hb5)
    have HZ5 := Lib.hid hz
    clear hb5 hz
    have g0 : w5.cell? ⟨W.heap.size + 1 + 1, 0, none⟩ = some (.bool false) := HF5.out.cell 2 0 rfl rfl
    have g1 : w5.cell? ⟨W.heap.size + 1 + 1, 1, none⟩ = some (.slice none 0 0) := HF5.out.cell 2 1 rfl rfl
    have g2 : w5.cell? ⟨W.heap.size + 1 + 1, 2, none⟩ = some (.slice none 0 0) := HF5.out.cell 2 2 rfl rfl
    have g3 : w5.frozen? ⟨W.heap.size + 1 + 1, 0, none⟩ = false := HF5.out.frozen 2 0 rfl
    have g4 : w5.frozen? ⟨W.heap.size + 1 + 1, 1, none⟩ = false := HF5.out.frozen 2 1 rfl
    have g5 : w5.frozen? ⟨W.heap.size + 1 + 1, 2, none⟩ = false := HF5.out.frozen 2 2 rfl
    go_wp2
    have hQ : Q32 w5 neg uo ul none 0 (sgn (na != nb) (m / m.gcd n)) (n / m.gcd n) := ⟨HZ5.out, .inl ⟨rfl, h1⟩⟩
    obtain ⟨e0, e1, e2, hq, hbel⟩ := HF5.out.finQ (cap := uc) (bc := 0) 2 rfl hQ
    exact bodyPost_ret (v := .agg #[.bool neg, .slice uo ul uc, .slice none 0 0]) (by simp [results, Try.results92, go_sem, e0, e1, e2]) rfl ⟨neg, uo, ul, uc, none, 0, 0, rfl, hq, hbel⟩
  · have hone : (n / Nat.gcd m n == 1) = false := by simp [h1]
    rw [hone]
    clear hone
    go_wp2_with fail
    refine (signed_any _ _ _ _ _ _ HQ3.out).mono ?_
    rintro e w5 ⟨neg, uo, ul, uc, rfl, hz, hb5⟩
    have HF5 := Lib.hid (HF3.out.later hb5)
    have HZ5 := Lib.hid hz
    have HS5 := Lib.hid (HS3.out.keep hb5)
    clear hb5 hz
    have g0 : w5.cell? ⟨W.heap.size + 1 + 1, 0, none⟩ = some (.bool false) := HF5.out.cell 2 0 rfl rfl
    have g1 : w5.cell? ⟨W.heap.size + 1 + 1, 1, none⟩ = some (.slice none 0 0) := HF5.out.cell 2 1 rfl rfl
    have g2 : w5.cell? ⟨W.heap.size + 1 + 1, 2, none⟩ = some (.slice none 0 0) := HF5.out.cell 2 2 rfl rfl
    have g3 : w5.frozen? ⟨W.heap.size + 1 + 1, 0, none⟩ = false := HF5.out.frozen 2 0 rfl
    have g4 : w5.frozen? ⟨W.heap.size + 1 + 1, 1, none⟩ = false := HF5.out.frozen 2 1 rfl
    have g5 : w5.frozen? ⟨W.heap.size + 1 + 1, 2, none⟩ = false := HF5.out.frozen 2 2 rfl
    go_wp2
    have hQ : Q32 w5 neg uo ul so sl (sgn (na != nb) (m / m.gcd n)) (n / m.gcd n) := ⟨HZ5.out, .inr ⟨HS5.out, Nat.lt_of_le_of_ne (Nat.pos_of_ne_zero HQ0.out) (Ne.symm h1)⟩⟩
    obtain ⟨e0, e1, e2, hq, hbel⟩ := HF5.out.finQ (cap := uc) (bc := sc) 2 rfl hQ
    exact bodyPost_ret (v := .agg #[.bool neg, .slice uo ul uc, .slice so sl sc]) (by simp [results, Try.results92, go_sem, e0, e1, e2]) rfl ⟨neg, uo, ul, uc, so, sl, sc, rfl, hq, hbel⟩
end Go.Proofs.Ytdnnjjclklcihaa
