/- readNumeral, Parse. -/
import Derived.Test.YtdnnjjclklcihaaRead
set_option linter.unusedVariables false
namespace Go.Proofs.Ytdnnjjclklcihaa
open Go.RowKit Go.Proofs

def bare (xs : List UInt8) : List UInt8 := Lib.trimPrefix xs [45]
/-- the integer of a numeral -/
def numZ (xs : List UInt8) : Int := sgn (Lib.hasPrefix xs [45]) (dec (bare xs))

theorem dec_cons (x : UInt8) (t : List UInt8) : dec (x :: t) = (x.toNat - 48) * 10 ^ t.length + dec t := by
  show (t.foldl (fun a c => 10 * a + (c.toNat - 48)) (10 * 0 + (x.toNat - 48))) = _
  rw [foldl_dec]; simp

theorem isNum_digits {xs : List UInt8} (h : isNum xs = true) : (bare xs).all isDig = true := by
  unfold isNum at h
  rw [Bool.or_eq_true] at h
  rcases h with h | h
  · have : xs = [48] := by simpa using h
    subst this; rfl
  · unfold isPos at h
    rw [Bool.and_eq_true] at h
    have h1 := h.1
    unfold hasDigs at h1
    rw [Bool.and_eq_true] at h1
    exact h1.1

theorem big_pow (n k : Nat) (hn : n = 4933) (h : n ≤ k) : 2 ^ 16384 ≤ 10 ^ k := by
  have h1 : 10 ^ n ≤ 10 ^ k := Nat.pow_le_pow_right (by decide) h
  have h2 : 2 ^ 16384 ≤ 10 ^ n := by subst hn; decide +kernel
  exact Nat.le_trans h2 h1

theorem isNum_long {xs : List UInt8} (h : isNum xs = true) (hl : 4933 < (bare xs).length) : ¬ Fits (numZ xs) := by
  unfold isNum at h
  rw [Bool.or_eq_true] at h
  rcases h with h | h
  · have : xs = [48] := by simpa using h
    subst this
    exact absurd hl (by decide)
  · unfold isPos at h
    rw [Bool.and_eq_true] at h
    have h1 := h.1
    unfold hasDigs at h1
    rw [Bool.and_eq_true] at h1
    have h2 := h.2
    unfold Fits numZ
    rw [sgn_natAbs]
    change (bare xs).all isDig = true ∧ _ at h1
    change decide ((bare xs).head? ≠ some 48) = true at h2
    cases hb : bare xs with
    | nil => rw [hb] at hl; simp at hl
    | cons x t =>
      rw [hb] at h1 h2 hl
      have h3 := h1.1
      rw [List.all_cons, Bool.and_eq_true] at h3
      have h4 : 48 ≤ x.toNat ∧ x.toNat ≤ 57 := by simpa [isDig] using h3.1
      have h5 : x ≠ 48 := by simpa using h2
      have h6 : x.toNat ≠ 48 := fun e => h5 (UInt8.toNat_inj.1 e)
      have h10 : 4933 ≤ t.length := by rw [List.length_cons] at hl; omega
      intro hbl
      have hlt := blen_le.1 hbl
      rw [dec_cons] at hlt
      have h7 : 1 * 10 ^ t.length ≤ (x.toNat - 48) * 10 ^ t.length := Nat.mul_le_mul_right _ (by omega)
      have h8 := big_pow 4933 t.length rfl h10
      have : (2 ^ 16384 : Nat) < 2 ^ 16384 := Nat.lt_of_le_of_lt (Nat.le_trans h8 (by omega)) hlt
      exact Nat.lt_irrefl _ this

theorem dec_len {xs : List UInt8} (h : xs.all isDig = true) : dec xs < B32 ^ xs.length := Nat.lt_of_lt_of_le (dec_lt h) (Nat.pow_le_pow_left (by decide) _)

theorem cut_any (xs : List UInt8) (W : World) :
    Calls Try.prog 105 #[.string ⟨xs.toArray⟩, .string ⟨#[45]⟩] W fun e w' => e = .returned (.tuple #[.string ⟨(bare xs).toArray⟩, .bool (Lib.hasPrefix xs [45])]) ∧ w' = W := Try.strings_CutPrefix _ _ _

set_option maxHeartbeats 1000000 in
theorem readNumeral_any (xs : List UInt8) (W : World) (hl : xs.length ≤ 100000000) (hn : isNum xs = true) :
    Calls Try.prog 71 #[.string ⟨xs.toArray⟩] W (OutF W (numZ xs)) := by
  have hf : Fr W (W.alloc (.cells #[.bool false, .slice none 0 0] 24)) [(24, #[.bool false, .slice none 0 0])] := (Fr.nil W).alloc rfl _ _
  have HF := Lib.hid hf
  have HDG := Lib.hid (isNum_digits hn)
  have HLG := Lib.hid (fun h => isNum_long hn h)
  have hble : (bare xs).length ≤ xs.length := Lib.trimPrefix_le xs [45]
  obtain ⟨ys, hys⟩ : ∃ ys, ys = bare xs := ⟨_, rfl⟩
  obtain ⟨s, hs⟩ : ∃ s, s = Lib.hasPrefix xs [45] := ⟨_, rfl⟩
  have hz : numZ xs = sgn s (dec ys) := by unfold numZ; rw [hs, hys]
  rw [← hys] at HDG HLG hble
  rw [hz] at HLG ⊢
  have HS := Lib.hid hs
  have HYS := Lib.hid hys
  clear hf hn hz hs hys
  go_enter Try.func71, Try.ntmps71
  go_wp2_with fail
  refine (cut_any xs _).mono ?_
  rintro e w1 ⟨rfl, rfl⟩
  rw [← HYS.out, ← HS.out]
  by_cases hlong : 4933 < ys.length
  · have t1 : (4933 : Int) < (ys.length : Int) := by omega
    have HX := Lib.hid (HLG.out hlong)
    clear hlong
    go_wp2
    exact bodyPost_ret (v := .tuple #[.agg #[.bool false, .slice none 0 0], .int .i64 3]) (by simp [results, Try.results71, go_sem]) rfl (.inr ⟨HX.out, rfl, HF.out.below⟩)
  · have t1 : ¬ (4933 : Int) < (ys.length : Int) := by omega
    go_wp2_with fail
    refine (readDigits_any ys _ (by omega) HDG.out).mono ?_
    rintro e w1 ⟨ro, rl, rc, rfl, hr, hb1⟩
    have HF1 := Lib.hid (HF.out.later hb1)
    have HR := Lib.hid hr
    have hrl : rl ≤ 1000000000 := Nat.le_trans (hr.len_le (dec_len HDG.out)) (by omega)
    clear hr hb1
    go_wp2_with fail
    refine (signed_any s _ _ _ (dec ys) _ HR.out).mono ?_
    rintro e w2 ⟨s2, so, sl, sc, rfl, hz2, hb2⟩
    have HF2 := Lib.hid (HF1.out.later hb2)
    have HZ2 := Lib.hid hz2
    have hsl : sl ≤ 1000000000 := by
      have h1 := hz2.n32
      rw [sgn_natAbs] at h1
      exact Nat.le_trans (h1.len_le (dec_len HDG.out)) (by omega)
    clear hz2 hb2
    go_wp2_with fail
    refine ((fitting_any _ _ _ _ (sgn s (dec ys)) _ HZ2.out hsl).mono fun e w h => h.one).mono ?_
    rintro e w3 ⟨neg, fo, fl, fc, er, z', rfl, hz, hb3, hx⟩
    have HF3 := Lib.hid (HF2.out.later hb3)
    have HZ := Lib.hid hz
    have HX := Lib.hid hx
    clear hb3 hz hx
    have g0 : w3.cell? ⟨W.heap.size, 0, none⟩ = some (.bool false) := HF3.out.cell 0 0 rfl rfl
    have g1 : w3.cell? ⟨W.heap.size, 1, none⟩ = some (.slice none 0 0) := HF3.out.cell 0 1 rfl rfl
    have g2 : w3.frozen? ⟨W.heap.size, 0, none⟩ = false := HF3.out.frozen 0 0 rfl
    have g3 : w3.frozen? ⟨W.heap.size, 1, none⟩ = false := HF3.out.frozen 0 1 rfl
    go_wp2
    obtain ⟨e0, e1, hz, hbel, _⟩ := HF3.out.finI (cap := fc) 0 rfl HZ.out
    exact bodyPost_ret (v := .tuple #[.agg #[.bool neg, .slice fo fl fc], .int .i64 er]) (by simp only [Nat.add_zero] at e0 e1; simp [results, Try.results71, go_sem, e0, e1]) rfl (OutF1.two ⟨neg, fo, fl, fc, er, z', rfl, hz, hbel, HX.out⟩)

/-- what Parse answers: the integer, or 0 and the error of a text that is no numeral -/
def ParsePost (xs : List UInt8) (W : World) (e : Ending) (w' : World) : Prop :=
  (isNum xs = true ∧ OutF W (numZ xs) e w') ∨ (isNum xs = false ∧ e = .returned (.tuple #[.agg #[.bool false, .slice none 0 0], .int .i64 4]) ∧ Below W.heap.size W w')

set_option maxHeartbeats 1000000 in
theorem parse_any (xs : List UInt8) (W : World) (hl : xs.length ≤ 100000000) :
    Calls Try.prog 24 #[.string ⟨xs.toArray⟩] W (ParsePost xs W) := by
  have hf : Fr W (W.alloc (.cells #[.bool false, .slice none 0 0] 24)) [(24, #[.bool false, .slice none 0 0])] := (Fr.nil W).alloc rfl _ _
  have HF := Lib.hid hf
  clear hf
  go_enter Try.func24, Try.ntmps24
  go_wp2_with fail
  refine (isNumeral_any xs _ (by omega)).mono ?_
  rintro e w1 ⟨rfl, rfl⟩
  cases hn : isNum xs with
  | false =>
    have HX := Lib.hid hn
    clear hn
    go_wp2
    exact bodyPost_ret (v := .tuple #[.agg #[.bool false, .slice none 0 0], .int .i64 4]) (by simp [results, Try.results24, go_sem]) rfl (.inr ⟨HX.out, rfl, HF.out.below⟩)
  | true =>
    have HX := Lib.hid hn
    clear hn
    go_wp2_with fail
    refine ((readNumeral_any xs _ hl HX.out).mono fun e w h => h.one).mono ?_
    rintro e w3 ⟨neg, fo, fl, fc, er, z', rfl, hz, hb3, hx⟩
    have HF3 := Lib.hid (HF.out.later hb3)
    have HZ := Lib.hid hz
    have HY := Lib.hid hx
    clear hb3 hz hx
    have g0 : w3.cell? ⟨W.heap.size, 0, none⟩ = some (.bool false) := HF3.out.cell 0 0 rfl rfl
    have g1 : w3.cell? ⟨W.heap.size, 1, none⟩ = some (.slice none 0 0) := HF3.out.cell 0 1 rfl rfl
    have g2 : w3.frozen? ⟨W.heap.size, 0, none⟩ = false := HF3.out.frozen 0 0 rfl
    have g3 : w3.frozen? ⟨W.heap.size, 1, none⟩ = false := HF3.out.frozen 0 1 rfl
    go_wp2
    obtain ⟨e0, e1, hz, hbel, _⟩ := HF3.out.finI (cap := fc) 0 rfl HZ.out
    exact bodyPost_ret (v := .tuple #[.agg #[.bool neg, .slice fo fl fc], .int .i64 er]) (by simp only [Nat.add_zero] at e0 e1; simp [results, Try.results24, go_sem, e0, e1]) rfl (.inl ⟨HX.out, OutF1.two ⟨neg, fo, fl, fc, er, z', rfl, hz, hbel, HY.out⟩⟩)
end Go.Proofs.Ytdnnjjclklcihaa
