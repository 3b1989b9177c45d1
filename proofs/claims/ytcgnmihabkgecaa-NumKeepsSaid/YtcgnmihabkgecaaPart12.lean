/- Part 12 of the contracts: Cut, RatP, RefRatP, RatTextF, FieldF, PlanD, RefDiv, DivL, RatsF, DecA, DecB, KeepF. -/
import Derived.Lib.Bytealg
import Derived.Lib.IndexMore
import Derived.Deep.Cut
import Derived.Test.YtcgnmihabkgecaaPart11

/- strings.Cut around one byte; facts of the texts of fractions. -/
set_option linter.unusedVariables false
namespace Go.Proofs.Ytcgnmihabkgecaa
open Go.RowKit Go.Proofs

theorem idx_none {xs : List UInt8} {c : UInt8} (h : c ∉ xs) : Lib.indexByte xs c = -1 := by
  induction xs with
  | nil => rfl
  | cons x t ih =>
    rw [List.mem_cons, not_or] at h
    unfold Lib.indexByte
    rw [if_neg (by simpa using fun e => h.1 e.symm), ih h.2]
    rfl

theorem idx_at {a b : List UInt8} {c : UInt8} (h : c ∉ a) : Lib.indexByte (a ++ c :: b) c = a.length := by
  induction a with
  | nil => simp [Lib.indexByte]
  | cons x t ih =>
    rw [List.mem_cons, not_or] at h
    rw [List.cons_append]
    unfold Lib.indexByte
    rw [if_neg (by simpa using fun e => h.1 e.symm), ih h.2, if_neg (by simp)]
    simp

theorem str_take (xs : List UInt8) (i : Nat) (h : i ≤ xs.length) : (⟨xs.toArray⟩ : ByteArray).extract 0 i = ⟨(xs.take i).toArray⟩ := by
  apply ByteArray.ext
  rw [ByteArray.data_extract]
  simp

theorem byte_back (c : UInt8) : (((c.toNat : Nat) : Int)).toNat.toUInt8 = c := by
  rw [Int.toNat_natCast]
  exact UInt8.ofNat_toNat

/-! The texts of fractions. -/
/-- the text of a fraction: a, or a / b -/
def ratText (a : List UInt8) : Option (List UInt8) → List UInt8
  | none => a
  | some b => a ++ 47 :: b
def denOf : Option (List UInt8) → Nat
  | none => 1
  | some b => dec b
def textOk (a : List UInt8) : Option (List UInt8) → Bool
  | none => isNum a
  | some b => isNum a && (isPos b && decide (b ≠ [49]))
def bothFit (a : List UInt8) : Option (List UInt8) → Prop
  | none => Fits (numZ a)
  | some b => Fits (numZ a) ∧ Fits (numZ b)

/-- the answer to the text of a fraction -/
def RatSays (a : List UInt8) (b : Option (List UInt8)) (er p : Int) (q : Nat) : Prop :=
  (textOk a b = false ∧ er = 4 ∧ p = 0 ∧ q = 1) ∨ (textOk a b = true ∧ ¬ bothFit a b ∧ er = 3 ∧ p = 0 ∧ q = 1) ∨
  (textOk a b = true ∧ bothFit a b ∧ Nat.gcd (numZ a).natAbs (denOf b) ≠ 1 ∧ er = 4 ∧ p = 0 ∧ q = 1) ∨
  (textOk a b = true ∧ bothFit a b ∧ Nat.gcd (numZ a).natAbs (denOf b) = 1 ∧ er = 0 ∧ p = numZ a ∧ q = denOf b)

theorem RatSays.same {a : List UInt8} {b : Option (List UInt8)} {er er' p p' : Int} {q q' : Nat} (h : RatSays a b er p q) (h' : RatSays a b er' p' q') : er = er' ∧ p = p' ∧ q = q' := by
  rcases h with ⟨h1, h2, h3, h4⟩ | ⟨h1, h5, h2, h3, h4⟩ | ⟨h1, h5, h6, h2, h3, h4⟩ | ⟨h1, h5, h6, h2, h3, h4⟩ <;>
  rcases h' with ⟨k1, k2, k3, k4⟩ | ⟨k1, k5, k2, k3, k4⟩ | ⟨k1, k5, k6, k2, k3, k4⟩ | ⟨k1, k5, k6, k2, k3, k4⟩ <;>
  first
  | exact absurd (h1.symm.trans k1) (by decide)
  | exact absurd k5 h5
  | exact absurd h5 k5
  | exact absurd k6 h6
  | exact absurd h6 k6
  | exact ⟨h2.trans k2.symm, h3.trans k3.symm, h4.trans k4.symm⟩

/-- every text is one of the two kinds -/
theorem ratText_cases (xs : List UInt8) (c : UInt8) : c ∉ xs ∨ ∃ a b, xs = a ++ c :: b ∧ c ∉ a := by
  induction xs with
  | nil => exact .inl (by simp)
  | cons x t ih =>
    by_cases hx : x = c
    · exact .inr ⟨[], t, by rw [hx]; rfl, by simp⟩
    · rcases ih with h | ⟨a, b, h, h2⟩
      · exact .inl (by rw [List.mem_cons, not_or]; exact ⟨fun e => hx e.symm, h⟩)
      · exact .inr ⟨x :: a, b, by rw [h]; rfl, by rw [List.mem_cons, not_or]; exact ⟨fun e => hx e.symm, h2⟩⟩

theorem isPos_parts {t : List UInt8} (h : isPos t = true) : ∃ x s, t = x :: s ∧ 49 ≤ x.toNat ∧ x.toNat ≤ 57 ∧ s.all isDig = true := by
  unfold isPos at h
  rw [Bool.and_eq_true] at h
  have h1 := h.1
  unfold hasDigs at h1
  rw [Bool.and_eq_true] at h1
  cases t with
  | nil => exact absurd h1.2 (by decide)
  | cons x s =>
    have h2 := h1.1
    rw [List.all_cons, Bool.and_eq_true] at h2
    have h3 : 48 ≤ x.toNat ∧ x.toNat ≤ 57 := by simpa [isDig] using h2.1
    have h4 : x ≠ 48 := by simpa using h.2
    have h5 : x.toNat ≠ 48 := fun e => h4 (UInt8.toNat_inj.1 e)
    exact ⟨x, s, rfl, by omega, h3.2, h2.2⟩

theorem isPos_bare {t : List UInt8} (h : isPos t = true) : Lib.hasPrefix t [45] = false ∧ bare t = t := by
  obtain ⟨x, s, rfl, h1, h2, h3⟩ := isPos_parts h
  have hx : x ≠ 45 := fun e => by subst e; exact absurd h1 (by decide)
  have hp : Lib.hasPrefix (x :: s) [45] = false := by
    have h5 : ((45 : UInt8) == x) = false := by simpa using fun (e : (45 : UInt8) = x) => hx e.symm
    show ((45 : UInt8) == x && ([] : List UInt8).isPrefixOf s) = false
    rw [h5]; rfl
  exact ⟨hp, by unfold bare Lib.trimPrefix; rw [hp]; rfl⟩

theorem isPos_num {t : List UInt8} (h : isPos t = true) : numZ t = (dec t : Int) ∧ isNum t = true := by
  obtain ⟨h1, h2⟩ := isPos_bare h
  refine ⟨by unfold numZ; rw [h1, h2]; rfl, ?_⟩
  unfold isNum
  unfold bare at h2
  rw [h2, h, Bool.or_true]

theorem isPos_gt {t : List UInt8} (h : isPos t = true) : 0 < dec t ∧ (t ≠ [49] → 1 < dec t) := by
  obtain ⟨x, s, rfl, h1, h2, h3⟩ := isPos_parts h
  rw [dec_cons]
  have h4 : 0 < 10 ^ s.length := Nat.pow_pos (by decide)
  have h5 : 1 * 10 ^ s.length ≤ (x.toNat - 48) * 10 ^ s.length := Nat.mul_le_mul_right _ (by omega)
  refine ⟨by omega, fun hne => ?_⟩
  cases s with
  | nil =>
    have h6 : x.toNat ≠ 49 := fun e => hne (by rw [show x = 49 from UInt8.toNat_inj.1 e])
    simp [dec]
    omega
  | cons y s =>
    have h6 : 10 ^ 1 ≤ 10 ^ (y :: s).length := Nat.pow_le_pow_right (by decide) (by simp)
    omega

theorem OutF.fit {W w' : World} {z : Int} {e : Ending} (h : OutF W z e w') (hf : Fits z) : ∃ neg ao len cap, e = .returned (.tuple #[.agg #[.bool neg, .slice ao len cap], .int .i64 0]) ∧ len ≤ 512 ∧ Z32 w' neg ao len z ∧ Below W.heap.size W w' := by
  rcases h with ⟨_, neg, ao, len, cap, rfl, hz, hb⟩ | ⟨h, _⟩
  · exact ⟨neg, ao, len, cap, rfl, fits_len hz hf, hz, hb⟩
  · exact absurd hf h
theorem OutF.nofit {W w' : World} {z : Int} {e : Ending} (h : OutF W z e w') (hf : ¬ Fits z) : e = .returned (.tuple #[.agg #[.bool false, .slice none 0 0], .int .i64 3]) ∧ Below W.heap.size W w' := by
  rcases h with ⟨h, _⟩ | ⟨_, h⟩
  · exact absurd h hf
  · exact h

def OutRE (W : World) (a : List UInt8) (b : Option (List UInt8)) (e : Ending) (w' : World) : Prop :=
  ∃ na ao la ca bo lb cb er p q, e = .returned (.tuple #[.agg #[.bool na, .slice ao la ca, .slice bo lb cb], .int .i64 er]) ∧ la ≤ 512 ∧ lb ≤ 512 ∧ Q32 w' na ao la bo lb p q ∧ Below W.heap.size W w' ∧ RatSays a b er p q
theorem Q32.zero (w : World) : Q32 w false none 0 none 0 0 1 := ⟨Z32.nil _, .inl ⟨rfl, rfl⟩⟩
end Go.Proofs.Ytcgnmihabkgecaa

/- ParseRat. -/
set_option linter.unusedVariables false
namespace Go.Proofs.Ytcgnmihabkgecaa
open Go.RowKit Go.Proofs

end Go.Proofs.Ytcgnmihabkgecaa

/- The specification's ParseRat. -/
set_option linter.unusedVariables false
set_option linter.unusedSimpArgs false
namespace Go.Proofs.Ytcgnmihabkgecaa
open Go.RowKit Go.Proofs

def RatJ (W : World) (a : List UInt8) (b : Option (List UInt8)) (e : Ending) (w' : World) : Prop :=
  ∃ s1 o1 l1 c1 s2 o2 l2 c2 er p q, e = .returned (.tuple #[.agg #[.bool s1, .slice o1 l1 c1, .bool s2, .slice o2 l2 c2], .int .i64 er]) ∧ Below W.heap.size W w' ∧ RatSays a b er p q ∧
    (er = 0 → l1 ≤ 1024 ∧ l2 ≤ 1024 ∧ Z16 w' s1 o1 l1 p ∧ Z16 w' s2 o2 l2 (q : Int))

def PJ (W : World) (ok : Int → Prop) (e : Ending) (w' : World) : Prop :=
  ∃ neg ao len cap er, e = .returned (.tuple #[.agg #[.bool neg, .slice ao len cap], .int .i64 er]) ∧ ok er ∧ Below W.heap.size W w'
theorem ParseJ.any {xs : List UInt8} {W w' : World} {e : Ending} (h : ParseJ xs W e w') : PJ W (fun _ => True) e w' := by
  obtain ⟨neg, ao, len, cap, er, he, hb, _⟩ := h
  exact ⟨neg, ao, len, cap, er, he, trivial, hb⟩
theorem ParseJ.bad {xs : List UInt8} {W w' : World} {e : Ending} (h : ParseJ xs W e w') (hn : isNum xs = false) : PJ W (fun er => er = 4) e w' := by
  obtain ⟨neg, ao, len, cap, er, he, hb, ⟨_, h1⟩ | ⟨h1, _⟩ | ⟨h1, _⟩⟩ := h
  · exact ⟨neg, ao, len, cap, er, he, h1, hb⟩
  · rw [hn] at h1; cases h1
  · rw [hn] at h1; cases h1
theorem ParseJ.num {xs : List UInt8} {W w' : World} {e : Ending} (h : ParseJ xs W e w') (hn : isNum xs = true) : PJ W (fun er => (er == 4) = false) e w' := by
  obtain ⟨neg, ao, len, cap, er, he, hb, ⟨h1, _⟩ | ⟨_, _, h1⟩ | ⟨_, _, h1, _⟩⟩ := h
  · rw [hn] at h1; cases h1
  · exact ⟨neg, ao, len, cap, er, he, by rw [h1]; rfl, hb⟩
  · exact ⟨neg, ao, len, cap, er, he, by rw [h1]; rfl, hb⟩
theorem ParseJ.nofit {xs : List UInt8} {W w' : World} {e : Ending} (h : ParseJ xs W e w') (hn : isNum xs = true) (hf : ¬ Fits (numZ xs)) : PJ W (fun er => er = 3) e w' := by
  obtain ⟨neg, ao, len, cap, er, he, hb, ⟨h1, _⟩ | ⟨_, _, h1⟩ | ⟨_, h1, _⟩⟩ := h
  · rw [hn] at h1; cases h1
  · exact ⟨neg, ao, len, cap, er, he, h1, hb⟩
  · exact absurd h1 hf
def PJF (W : World) (z : Int) (e : Ending) (w' : World) : Prop :=
  ∃ neg ao len cap, e = .returned (.tuple #[.agg #[.bool neg, .slice ao len cap], .int .i64 0]) ∧ len ≤ 1024 ∧ len ≤ cap ∧ cap ≤ 9223372036854775807 ∧ Z16 w' neg ao len z ∧ Below W.heap.size W w'
theorem ParseJ.fit {xs : List UInt8} {W w' : World} {e : Ending} (h : ParseJ xs W e w') (hn : isNum xs = true) (hf : Fits (numZ xs)) : PJF W (numZ xs) e w' := by
  obtain ⟨neg, ao, len, cap, er, he, hb, ⟨h1, _⟩ | ⟨_, h1, _⟩ | ⟨_, _, h1, h2, h3, h4⟩⟩ := h
  · rw [hn] at h1; cases h1
  · exact absurd hf h1
  · rw [h1] at he
    exact ⟨neg, ao, len, cap, he, fits_len16 h4 hf, h2, h3, h4, hb⟩

theorem isPos_numB {t : List UInt8} (h : isPos t = true) : numB t = true ∧ t ≠ [48] := by
  refine ⟨by rw [numB_eq, h, Bool.or_true], ?_⟩
  intro e
  obtain ⟨x, s, rfl, h1, _⟩ := isPos_parts h
  have : x = 48 := by simpa using (List.cons.inj e).1
  subst this
  exact absurd h1 (by decide)

end Go.Proofs.Ytcgnmihabkgecaa

/- Facts for the laws about texts of fractions. -/
set_option linter.unusedVariables false
namespace Go.Proofs.Ytcgnmihabkgecaa
open Go.RowKit Go.Proofs

theorem ratText_any (xs : List UInt8) : ∃ a b, xs = ratText a b ∧ 47 ∉ a := by
  rcases ratText_cases xs 47 with h | ⟨a, t, h, h2⟩
  · exact ⟨xs, none, rfl, h⟩
  · exact ⟨a, some t, h, h2⟩

theorem RatSays.bad {a : List UInt8} {b : Option (List UInt8)} {er p : Int} {q : Nat} (h : RatSays a b er p q) (he : er ≠ 0) : p = 0 ∧ q = 1 := by
  rcases h with ⟨_, _, h3, h4⟩ | ⟨_, _, _, h3, h4⟩ | ⟨_, _, _, _, h3, h4⟩ | ⟨_, _, _, h3, _, _⟩
  · exact ⟨h3, h4⟩
  · exact ⟨h3, h4⟩
  · exact ⟨h3, h4⟩
  · exact absurd h3 he

theorem RatSays.fits {a : List UInt8} {b : Option (List UInt8)} {p : Int} {q : Nat} (h : RatSays a b 0 p q) : FitsQ p q := by
  rcases h with ⟨_, h2, _⟩ | ⟨_, _, h2, _⟩ | ⟨_, _, _, h2, _⟩ | ⟨h1, h2, _, _, rfl, rfl⟩
  · exact absurd h2 (by decide)
  · exact absurd h2 (by decide)
  · exact absurd h2 (by decide)
  · cases b with
    | none => exact ⟨h2, Nat.le_trans (blen_le (k := 1) |>.2 (by decide)) (by decide)⟩
    | some t =>
      refine ⟨h2.1, ?_⟩
      have h3 : (isNum a && (isPos t && decide (t ≠ [49]))) = true := h1
      rw [Bool.and_eq_true, Bool.and_eq_true] at h3
      have h4 := h2.2
      rw [(isPos_num h3.2.1).1] at h4
      exact (fits_cast _).1 h4
end Go.Proofs.Ytcgnmihabkgecaa

/- Facts for NumField: equal fractions; a fraction's text is read again as the fraction. -/
set_option linter.unusedVariables false
namespace Go.Proofs.Ytcgnmihabkgecaa
open Go.RowKit Go.Proofs

/-- p / q = x / y -/
def Eqf (p q x y : Int) : Prop := p * y = x * q

theorem eqf_low {x y : Int} (hy : 0 < y) : Eqf (lowP x y) (lowQ x y) x y := by
  obtain ⟨g, hg, h1, h2⟩ := low_back (x := x) hy
  unfold Eqf
  generalize lowP x y = a at *
  generalize (lowQ x y : Int) = b at *
  rw [← h1, ← h2]; grind

theorem lowP_neg (x y : Int) (hy : y ≠ 0) : lowP (-x) (-y) = lowP x y := by
  unfold lowP
  rw [Int.natAbs_neg, Int.natAbs_neg]
  by_cases hx : x = 0
  · subst hx
    rw [Int.natAbs_zero, Nat.zero_div]
    generalize (decide ((-0 : Int) < 0) != decide (-y < 0)) = b
    generalize (decide ((0 : Int) < 0) != decide (y < 0)) = c
    cases b <;> cases c <;> rfl
  · congr 1
    by_cases h1 : x < 0 <;> by_cases h2 : y < 0
    · rw [decide_eq_false (show ¬ -x < 0 by omega), decide_eq_false (show ¬ -y < 0 by omega), decide_eq_true h1, decide_eq_true h2]; rfl
    · rw [decide_eq_false (show ¬ -x < 0 by omega), decide_eq_true (show -y < 0 by omega), decide_eq_true h1, decide_eq_false h2]; rfl
    · rw [decide_eq_true (show -x < 0 by omega), decide_eq_false (show ¬ -y < 0 by omega), decide_eq_false h1, decide_eq_true h2]; rfl
    · rw [decide_eq_true (show -x < 0 by omega), decide_eq_true (show -y < 0 by omega), decide_eq_false h1, decide_eq_false h2]; rfl
theorem lowQ_neg (x y : Int) : lowQ (-x) (-y) = lowQ x y := by unfold lowQ; rw [Int.natAbs_neg, Int.natAbs_neg]

theorem eqf_low' {x y : Int} (hy : y ≠ 0) : Eqf (lowP x y) (lowQ x y) x y := by
  rcases Int.lt_trichotomy y 0 with h | h | h
  · have := eqf_low (x := -x) (y := -y) (by omega)
    unfold Eqf at this ⊢
    rw [lowP_neg x y hy, lowQ_neg] at this
    generalize lowP x y = a at *
    generalize (lowQ x y : Int) = b at *
    grind
  · exact absurd h hy
  · exact eqf_low h

theorem eqf_trans {p q x y u v : Int} (hy : y ≠ 0) (h1 : Eqf p q x y) (h2 : Eqf x y u v) : Eqf p q u v := by
  unfold Eqf at *
  have e : (p * v) * y = (u * q) * y := by
    calc (p * v) * y = (p * y) * v := by grind
      _ = (x * v) * q := by rw [h1]; grind
      _ = (u * q) * y := by rw [h2]; grind
  exact Int.eq_of_mul_eq_mul_right hy e
theorem eqf_refl (p q : Int) : Eqf p q p q := rfl
theorem eqf_add {p q x y p' q' x' y' : Int} (h1 : Eqf p q x y) (h2 : Eqf p' q' x' y') : Eqf (p * q' + p' * q) (q * q') (x * y' + x' * y) (y * y') := by
  unfold Eqf at *
  calc (p * q' + p' * q) * (y * y') = (p * y) * (q' * y') + (p' * y') * (q * y) := by grind
    _ = (x * y' + x' * y) * (q * q') := by rw [h1, h2]; grind
theorem eqf_sub {p q x y p' q' x' y' : Int} (h1 : Eqf p q x y) (h2 : Eqf p' q' x' y') : Eqf (p * q' - p' * q) (q * q') (x * y' - x' * y) (y * y') := by
  unfold Eqf at *
  calc (p * q' - p' * q) * (y * y') = (p * y) * (q' * y') - (p' * y') * (q * y) := by grind
    _ = (x * y' - x' * y) * (q * q') := by rw [h1, h2]; grind
theorem eqf_mul {p q x y p' q' x' y' : Int} (h1 : Eqf p q x y) (h2 : Eqf p' q' x' y') : Eqf (p * p') (q * q') (x * x') (y * y') := by
  unfold Eqf at *
  calc (p * p') * (y * y') = (p * y) * (p' * y') := by grind
    _ = (x * x') * (q * q') := by rw [h1, h2]; grind
theorem eqf_quo {p q x y p' q' x' y' : Int} (h1 : Eqf p q x y) (h2 : Eqf p' q' x' y') : Eqf (p * q') (q * p') (x * y') (y * x') := by
  unfold Eqf at *
  calc (p * q') * (y * x') = (p * y) * (x' * q') := by grind
    _ = (x * y') * (q * p') := by rw [h1, ← h2]; grind
/-- fractions that are equal to equal ones -/
theorem eqf_sign {p q x y p' q' x' y' : Int} (hy : y ≠ 0) (hy' : y' ≠ 0) (h1 : Eqf p q x y) (h2 : Eqf p' q' x' y') (h : x * y' = x' * y) : (p * q' - p' * q).sign = 0 := by
  have e : p * q' = p' * q := by
    have h3 : Eqf p q x' y' := eqf_trans hy h1 h
    unfold Eqf at h2 h3
    apply Int.eq_of_mul_eq_mul_right hy'
    calc p * q' * y' = (p * y') * q' := by grind
      _ = (x' * q') * q := by rw [h3]; grind
      _ = p' * q * y' := by rw [← h2]; grind
  rw [e, Int.sub_self]; rfl

theorem Bl.low {k : Nat} {x : Int} (y : Int) (h : Bl k x) : Bl k (lowP x y) := by
  unfold Bl at *
  rw [blen_le] at *
  unfold lowP; rw [sgn_natAbs]
  exact Nat.lt_of_le_of_lt (Nat.div_le_self _ _) h
theorem Bl.lowq {k : Nat} {y : Int} (x : Int) (h : Bl k y) : Bl k (lowQ x y : Int) := by
  unfold Bl at *
  rw [Int.natAbs_natCast]
  rw [blen_le] at *
  exact Nat.lt_of_le_of_lt (Nat.div_le_self _ _) h

theorem fitsQ_of {p : Int} {q k : Nat} (hp : Bl k p) (hq : Bl k (q : Int)) (hk : k ≤ 16384) : FitsQ p q := ⟨hp.fits hk, (fits_cast _).1 (hq.fits hk)⟩

theorem fits_lt {p : Int} (h : Fits p) : p.natAbs < B32 ^ 512 := by
  obtain ⟨k, hk⟩ : ∃ k, k = 512 := ⟨_, rfl⟩
  rw [← hk, B32_pow]
  exact blen_le.1 (Nat.le_trans h (by omega))

theorem says_back {p : Int} {q : Nat} (hq : 0 < q) (hg : Nat.gcd p.natAbs q = 1) (hf : FitsQ p q) : ∃ a b, textQ p q = ratText a b ∧ 47 ∉ a ∧ ∀ er P Q, RatSays a b er P Q → er = 0 ∧ P = p ∧ Q = q := by
  by_cases h1 : q = 1
  · subst h1
    refine ⟨numeralZ p, none, by unfold textQ; rw [if_pos rfl]; rfl, numeralZ_no47 p, fun er P Q h => ?_⟩
    have h0 : RatSays (numeralZ p) none 0 p 1 := .inr (.inr (.inr ⟨isNum_numeralZ p, by show Fits (numZ (numeralZ p)); rw [numZ_numeralZ]; exact hf.1, Nat.gcd_one_right _, rfl, (numZ_numeralZ p).symm, rfl⟩))
    exact h.same h0
  · have hn0 := numeral_pos (n := q) (by omega)
    have hne : numeral q ≠ [49] := fun e => h1 (by rw [← dec_numeral q, e]; rfl)
    refine ⟨numeralZ p, some (numeral q), by unfold textQ; rw [if_neg h1, List.append_assoc]; rfl, numeralZ_no47 p, fun er P Q h => ?_⟩
    have h0 : RatSays (numeralZ p) (some (numeral q)) 0 p q := by
      refine .inr (.inr (.inr ⟨?_, ⟨by rw [numZ_numeralZ]; exact hf.1, by rw [(isPos_num hn0).1, dec_numeral]; exact (fits_cast _).2 hf.2⟩, ?_, rfl, (numZ_numeralZ p).symm, (dec_numeral q).symm⟩))
      · show (isNum (numeralZ p) && (isPos (numeral q) && decide (numeral q ≠ [49]))) = true
        rw [isNum_numeralZ, hn0, decide_eq_true hne]; rfl
      · show Nat.gcd (numZ (numeralZ p)).natAbs (dec (numeral q)) = 1
        rw [numZ_numeralZ, dec_numeral]; exact hg
    exact h.same h0

end Go.Proofs.Ytcgnmihabkgecaa

/- The region of NumRats that makes a block. -/
set_option linter.unusedVariables false
set_option linter.unusedSimpArgs false
namespace Go.Proofs.Ytcgnmihabkgecaa
open Go.RowKit Go.Proofs

end Go.Proofs.Ytcgnmihabkgecaa

/- The specification's Div. -/
set_option linter.unusedVariables false
namespace Go.Proofs.Ytcgnmihabkgecaa
open Go.RowKit

def DivJ (x y : Int) (W : World) (e : Ending) (w' : World) : Prop :=
  ∃ s1 uo ul uc s2 vo vl vc, e = .returned (.tuple #[.agg #[.bool s1, .slice uo ul uc], .agg #[.bool s2, .slice vo vl vc]]) ∧ ul ≤ uc ∧ uc ≤ 9223372036854775807 ∧ vl ≤ vc ∧ vc ≤ 9223372036854775807 ∧ Z16 w' s1 uo ul (x / y) ∧ Z16 w' s2 vo vl (x % y) ∧ Below W.heap.size W w'

end Go.Proofs.Ytcgnmihabkgecaa

/- Facts for NumDivides. -/
set_option linter.unusedVariables false
namespace Go.Proofs.Ytcgnmihabkgecaa
open Go.RowKit Go.Proofs

theorem fits_div {x y : Int} (h : Fits x) : Fits (x / y) := bl_div (k := 16384) h
theorem fits_mod {x y : Int} (h : Fits y) (hy : y ≠ 0) : Fits (x % y) := bl_mod (k := 16384) h hy

theorem string_zero (W : World) : Calls Try.prog 6 #[.agg #[.bool false, .slice none 0 0]] W (fun e w' => e = .returned (.string { data := #[48] }) ∧ Below W.heap.size W w') :=
  (string_any false none 0 0 0 W (Z32.nil _) (by omega)).mono fun e w h => h
end Go.Proofs.Ytcgnmihabkgecaa

/- NewRat of 0; the specification's Floor. -/
set_option linter.unusedVariables false
set_option linter.unusedSimpArgs false
namespace Go.Proofs.Ytcgnmihabkgecaa
open Go.RowKit Go.Proofs

set_option maxHeartbeats 1000000 in
theorem newRat_zero (na nb : Bool) (ao bo : Option Addr) (la lb ca cb : Nat) (W : World) (hb : Z32 W nb bo lb 0) :
    Calls Try.prog 13 #[.agg #[.bool na, .slice ao la ca], .agg #[.bool nb, .slice bo lb cb]] W (fun e w' => e = .returned (.tuple #[.agg #[.bool false, .slice none 0 0, .slice none 0 0], .int .i64 10]) ∧ Below W.heap.size W w') := by
  have hf : Fr W (((W.alloc (.cells #[.bool na, .slice ao la ca] 27)).alloc (.cells #[.bool nb, .slice bo lb cb] 27)).alloc (.cells #[.bool false, .slice none 0 0, .slice none 0 0] 45))
      [(27, #[.bool na, .slice ao la ca]), (27, #[.bool nb, .slice bo lb cb]), (45, #[.bool false, .slice none 0 0, .slice none 0 0])] := (((Fr.nil W).alloc rfl _ _).alloc (by simp) _ _).alloc (by simp) _ _
  have HF := Lib.hid hf
  have HB := Lib.hid (hb.keep hf.below)
  clear hf hb
  go_enter Try.func13, Try.ntmps13
  go_wp2_with fail
  refine ((sign_any _ _ _ _ 0 _ HB.out).mono fun e w h => (h : e = .returned (.int .i64 0) ∧ _)).mono ?_
  rintro e w1 ⟨rfl, hb1⟩
  have HF1 := Lib.hid (HF.out.later hb1)
  clear hb1
  have g0 : w1.cell? ⟨W.heap.size + 2, 0, none⟩ = some (.bool false) := HF1.out.cell 2 0 rfl rfl
  have g1 : w1.cell? ⟨W.heap.size + 2, 1, none⟩ = some (.slice none 0 0) := HF1.out.cell 2 1 rfl rfl
  have g2 : w1.cell? ⟨W.heap.size + 2, 2, none⟩ = some (.slice none 0 0) := HF1.out.cell 2 2 rfl rfl
  have gf0 : w1.frozen? ⟨W.heap.size + 2, 0, none⟩ = false := HF1.out.frozen 2 0 rfl
  have gf1 : w1.frozen? ⟨W.heap.size + 2, 1, none⟩ = false := HF1.out.frozen 2 1 rfl
  have gf2 : w1.frozen? ⟨W.heap.size + 2, 2, none⟩ = false := HF1.out.frozen 2 2 rfl
  go_wp2
  obtain ⟨e0, e1, e2, hq, hbel⟩ := HF1.out.finQ (cap := 0) (bc := 0) (neg := false) (ao := none) (len := 0) (bo := none) (bl := 0) (p := 0) (q := 1) 2 rfl ⟨Z32.nil _, .inl ⟨rfl, rfl⟩⟩
  exact bodyPost_ret (v := .tuple #[.agg #[.bool false, .slice none 0 0, .slice none 0 0], .int .i64 10]) (by simp [results, Try.results13, go_sem, e0, e1, e2]) rfl ⟨rfl, hbel⟩

end Go.Proofs.Ytcgnmihabkgecaa

/- withPoint, for every number of places. -/
set_option linter.unusedVariables false
namespace Go.Proofs.Ytcgnmihabkgecaa
open Go.RowKit

/-- with zeros ahead, so that a digit stands before the point -/
def padded (l : List UInt8) (k : Nat) : List UInt8 := List.replicate (k + 1 - l.length) 48 ++ l
def pointedZ (l : List UInt8) (k : Nat) : List UInt8 := if k = 0 then l else pointed (padded l k) k

theorem repeat48 (c : Nat) : Lib.repeatL [48] c = List.replicate c (48 : UInt8) := by
  induction c with
  | zero => rfl
  | succ c ih => rw [List.replicate_succ, ← ih]; rfl

theorem padded_long {l : List UInt8} {k : Nat} (h : k < l.length) : padded l k = l := by
  unfold padded
  rw [show k + 1 - l.length = 0 by omega]; rfl

theorem padded_len (l : List UInt8) (k : Nat) : (padded l k).length ≤ l.length + k + 1 := by
  unfold padded; simp; omega

theorem pointedZ_len (l : List UInt8) (k : Nat) : (pointedZ l k).length ≤ l.length + k + 2 := by
  unfold pointedZ
  by_cases h : k = 0
  · rw [if_pos h]; omega
  · rw [if_neg h]
    have h1 := padded_len l k
    unfold pointed
    rw [if_neg h]
    simp
    omega

set_option maxHeartbeats 1000000 in
theorem withPoint_all (l : List UInt8) (K : Int) (k : Nat) (W : World) (hK : K = (k : Int)) (hk : k ≤ 64) (hl : l.length ≤ 1000000000000) :
    Calls Try.prog 39 #[.string ⟨l.toArray⟩, .int .i64 K] W (fun e w' => e = .returned (.string ⟨(pointedZ l k).toArray⟩) ∧ Below W.heap.size W w') := by
  by_cases h0 : k = 0
  · refine (withPoint_any l K k W hK (.inl h0) hl).mono fun e w h => ⟨?_, h.2.below⟩
    rw [h.1]
    unfold pointedZ pointed
    rw [if_pos h0, if_pos h0]
  by_cases h1 : k < l.length
  · refine (withPoint_any l K k W hK (.inr h1) hl).mono fun e w h => ⟨?_, h.2.below⟩
    rw [h.1]
    unfold pointedZ
    rw [if_neg h0, padded_long h1]
  subst hK
  obtain ⟨c, hc⟩ : ∃ c, c = k + 1 - l.length := ⟨_, rfl⟩
  have hc1 : 1 ≤ c := by omega
  have hc2 : c ≤ 65 := by omega
  have e1 : (k : Int) + 1 - (l.length : Int) = (c : Int) := by omega
  have b0 : ((k : Int) == 0) = false := by simp; omega
  have b1 : (l.length : Int) ≤ (k : Int) := by omega
  obtain ⟨p, hp⟩ : ∃ p, p = padded l k := ⟨_, rfl⟩
  have hpl : p.length = k + 1 := by rw [hp]; unfold padded; simp; omega
  have HE : Hid (pointedZ l k = p.take 1 ++ [46] ++ p.drop 1) := by
    show _ = _
    unfold pointedZ
    rw [if_neg h0, ← hp]
    unfold pointed
    rw [if_neg h0, hpl, show k + 1 - k = 1 by omega]
  have happ : (⟨(Lib.repeatL [48] c).toArray⟩ ++ ⟨l.toArray⟩ : ByteArray) = ⟨p.toArray⟩ := by
    rw [bytes_append, repeat48, hp, hc]; rfl
  have hrl : (Lib.repeatL [48] c).length = c := by rw [repeat48]; simp
  have HP := Lib.hid hpl
  rw [HE.out]
  clear hc hp h0 h1
  go_enter Try.func39, Try.ntmps39
  go_wp2_with fail
  refine (Try.strings_Repeat ⟨#[48]⟩ c _ (by omega) (by show 1 * c ≤ _; omega)).mono ?_
  rintro e w1 ⟨rfl, hb⟩
  have HB := Lib.hid hb
  clear hb
  go_upto_region 5 with fail
  have ej : ((p.length : Int) - (k : Int)) = 1 := by have := HP.out; omega
  have c2 : (1 : Int) ≤ (p.length : Int) := by have := HP.out; omega
  have c3 : 1 ≤ p.length := by have := HP.out; omega
  have c4 : ¬ p.length < 1 := by omega
  go_wp2_with fail
  go_region
  go_wp2
  go_ret
  refine ⟨congrArg (fun x => Ending.returned (Value.string x)) ?_, HB.out.drew⟩
  rw [bytes_extract, bytes_extract]
  have h1 := bytes_append (List.take (1 - 0) (List.drop 0 p)) [46]
  have h2 := bytes_append (List.take (1 - 0) (List.drop 0 p) ++ [46]) (List.take (k + 1 - 1) (List.drop 1 p))
  rw [← h1] at h2
  refine h2.trans ?_
  rw [List.drop_zero, Nat.sub_zero, List.take_of_length_le (l := List.drop 1 p) (by have := HP.out; simp; omega)]
end Go.Proofs.Ytcgnmihabkgecaa

/- Decimal, for every number of places. -/
set_option linter.unusedVariables false
namespace Go.Proofs.Ytcgnmihabkgecaa
open Go.RowKit

/-- the decimal -/
def decTextZ (p : Int) (q k : Nat) : List UInt8 :=
  if p < 0 ∧ nearest (p.natAbs * 10 ^ k) q ≠ 0 then 45 :: pointedZ (numeral (nearest (p.natAbs * 10 ^ k) q)) k else pointedZ (numeral (nearest (p.natAbs * 10 ^ k) q)) k

theorem decTextZ_pos {m q k r : Nat} (_ : True) (_ : True) (h : nearest (m * 10 ^ k) q = r) : decTextZ (sgn false m) q k = pointedZ (numeral r) k := by
  unfold decTextZ
  rw [sgn_natAbs, h, if_neg]
  rintro ⟨h1, _⟩
  have : sgn false m = (m : Int) := rfl
  omega

theorem decTextZ_zero {m q k r : Nat} {s : Bool} (_ : True) (_ : True) (h : nearest (m * 10 ^ k) q = r) (hr : r = 0) : decTextZ (sgn s m) q k = pointedZ (numeral r) k := by
  unfold decTextZ
  rw [sgn_natAbs, h, if_neg]
  rintro ⟨_, h1⟩
  exact h1 hr

theorem decTextZ_neg {m q k r : Nat} (_ : True) (hm : m ≠ 0) (h : nearest (m * 10 ^ k) q = r) (hr : r ≠ 0) : decTextZ (sgn true m) q k = 45 :: pointedZ (numeral r) k := by
  unfold decTextZ
  rw [sgn_natAbs, h, if_pos]
  refine ⟨?_, hr⟩
  show -(m : Int) < 0
  omega

set_option maxRecDepth 100000 in
set_option maxHeartbeats 1600000 in
theorem decimal_all (na : Bool) (ao bo : Option Addr) (la lb ca cb : Nat) (p : Int) (q : Nat) (K : Int) (k : Nat) (W : World) (h : Q32 W na ao la bo lb p q) (hla : la ≤ 100000) (hlb : lb ≤ 100000) (hq0 : q ≠ 0) (hK : K = (k : Int)) (hk : k ≤ 64)
    (hD : DivOk (p.natAbs * 10 ^ k) q) :
    Calls Try.prog 17 #[.agg #[.bool na, .slice ao la ca, .slice bo lb cb], .int .i64 K] W (DecPost (decTextZ p q k) W) := by
  subst hK
  have hf : Fr W (W.alloc (.cells #[.bool na, .slice ao la ca, .slice bo lb cb] 45)) [(45, #[.bool na, .slice ao la ca, .slice bo lb cb])] := (Fr.nil W).alloc rfl _ _
  have hqlt : q < B32 ^ (lb + 1) := by
    rcases h.2 with ⟨h1, h2⟩ | ⟨h1, h2⟩
    · rw [h1, h2]; decide
    · exact Nat.lt_of_lt_of_le h1.lt (Nat.pow_le_pow_right B32_pos (by omega))
  have hbl : lb = 0 ∨ 0 < lb := by omega
  have HQ := Lib.hid h
  obtain ⟨⟨m, hm, rfl, hmn⟩, hden⟩ := h
  rw [sgn_natAbs] at hD
  have halt : m * 10 ^ k < B32 ^ (la + 64) := by
    rw [Nat.pow_add]
    have h1 := hm.lt
    have h2 : 10 ^ k < B32 ^ 64 := by
      have : 10 ^ k ≤ 10 ^ 64 := Nat.pow_le_pow_right (by decide) hk
      have h3 : 10 ^ 64 < B32 ^ 64 := by decide
      omega
    exact Nat.mul_lt_mul'' h1 h2
  obtain ⟨a, haq⟩ : ∃ a, a = m * 10 ^ k := ⟨_, rfl⟩
  have HM := Lib.hid hm
  have HMN := Lib.hid hmn
  rw [← haq] at hD halt
  have HAQ := Lib.hid haq
  have HALT := Lib.hid halt
  have HQLT := Lib.hid hqlt
  have HD := Lib.hid hD
  have HQ0 := Lib.hid hq0
  have i1 : ¬ ((k : Int) < 0) := by omega
  have i2 : ¬ (64 < (k : Int)) := by omega
  have hnl : nearest a q < B32 ^ (la + 65) := by
    have h1 : nearest a q ≤ a / q + 1 := by unfold nearest; split <;> omega
    have h2 := Nat.div_le_self a q
    have h3 : B32 ^ (la + 64) * 2 ≤ B32 ^ (la + 65) := by rw [Nat.pow_succ B32 (la + 64)]; exact Nat.mul_le_mul_left _ (by decide)
    omega
  have hln := numeral_len hnl
  have hln2 : (numeral (nearest a q)).length ≤ 1000000000000 := by omega
  have HLN := Lib.hid hln2
  have hpl : ¬ 9223372036854775807 < 1 + (pointedZ (numeral (nearest a q)) k).length := by
    have := pointedZ_len (numeral (nearest a q)) k
    omega
  have HPL := Lib.hid hpl
  have HUPL : Hid (a / q + 1 < B32 ^ (la + 65)) := by
    have h2 := Nat.div_le_self a q
    have h3 : B32 ^ (la + 64) * 2 ≤ B32 ^ (la + 65) := by rw [Nat.pow_succ B32 (la + 64)]; exact Nat.mul_le_mul_left _ (by decide)
    show _ < _
    omega
  clear hm hmn hD halt hqlt hden haq hq0 hnl hln hln2 hpl hbl
  have hfld := field_digits
  go_enter Try.func17, Try.ntmps17
  go_wp2_with fail
  obtain ⟨W1, hW1⟩ : ∃ W1, W1 = W.alloc (.cells #[.bool na, .slice ao la ca, .slice bo lb cb] 45) := ⟨_, rfl⟩
  rw [← hW1] at hf ⊢
  clear hW1
  have HF := Lib.hid hf
  clear hf
  have c0 : W1.cell? ⟨W.heap.size, 0, none⟩ = some (.bool na) := HF.out.cell 0 0 rfl rfl
  have c1 : W1.cell? ⟨W.heap.size, 1, none⟩ = some (.slice ao la ca) := HF.out.cell 0 1 rfl rfl
  have c2 : W1.cell? ⟨W.heap.size, 2, none⟩ = some (.slice bo lb cb) := HF.out.cell 0 2 rfl rfl
  refine (den_any na ao bo la lb ca cb _ q _ (HQ.out.keep HF.out.below) (by omega)).mono ?_
  rintro e w2 ⟨dneg, dp, dl, dc, rfl, hz2, hb2⟩
  have hd2 := hz2.n32
  rw [Int.natAbs_natCast] at hd2
  have hdl : dl ≤ 100001 := Nat.le_trans (hd2.len_le HQLT.out) (by omega)
  have HF2 := Lib.hid (HF.out.later hb2)
  have HD2 := Lib.hid hd2
  clear hb2 hz2 hd2
  go_wp2_with fail
  have d0 : w2.cell? ⟨W.heap.size, 0, none⟩ = some (.bool na) := HF2.out.cell 0 0 rfl rfl
  have d1 : w2.cell? ⟨W.heap.size, 1, none⟩ = some (.slice ao la ca) := HF2.out.cell 0 1 rfl rfl
  go_region_held3 (fun w' => w'.cell? ⟨W.heap.size, 0, none⟩ = some (.bool na) ∧ w'.cell? ⟨W.heap.size, 1, none⟩ = some (.slice ao la ca)) (go_keep)
    (first | (go_at_call 36; refine (powerOfTen_any _ k w2.drew rfl (by omega)).mono ?_; rintro e w3 ⟨to_, tl, tc, rfl, ht3, htl, hb3⟩; have HB3 := Lib.hid (below_of_drew hb3); have HT3 := Lib.hid ht3; have HF3 := Lib.hid (HF2.out.later HB3.out); clear hb3 ht3; have f0 : w3.cell? ⟨W.heap.size, 0, none⟩ = some (.bool na) := HF3.out.cell 0 0 rfl rfl; have f1 : w3.cell? ⟨W.heap.size, 1, none⟩ = some (.slice ao la ca) := HF3.out.cell 0 1 rfl rfl) | (go_at_call 35; refine (product_any _ _ _ _ _ _ m (10 ^ k) _ (HM.out.keep HF3.out.below) HT3.out (by omega) (by omega)).mono ?_; rintro e w4 ⟨po, pl, pc, rfl, hp4, hb4⟩; have HB4 := Lib.hid (below_then HB3.out hb4); have hp5 : N32 w4 po pl a := (by rw [HAQ.out]; exact hp4); have HP4 := Lib.hid hp5; have HF4 := Lib.hid (HF2.out.later HB4.out); have hpl4 := Nat.le_trans (hp5.len_le HALT.out) (show la + 64 ≤ 100064 by omega); clear hb4 hp4 hp5; have j0 : w4.cell? ⟨W.heap.size, 0, none⟩ = some (.bool na) := HF4.out.cell 0 0 rfl rfl; have j1 : w4.cell? ⟨W.heap.size, 1, none⟩ = some (.slice ao la ca) := HF4.out.cell 0 1 rfl rfl) | (go_at_call 25; refine (HD.out _ _ _ _ _ _ _ HP4.out (HD2.out.keep HB4.out) (by omega) (by omega)).mono ?_; rintro e w5 ⟨qo, ql, qc, ro, rl, rc, rfl, hq5, hr5, hb5⟩; have HB5 := Lib.hid (below_then HB4.out hb5); have HQ5 := Lib.hid hq5; have HR5 := Lib.hid hr5; have HF5 := Lib.hid (HF2.out.later HB5.out); clear hb5 hq5 hr5; have m0 : w5.cell? ⟨W.heap.size, 0, none⟩ = some (.bool na) := HF5.out.cell 0 0 rfl rfl; have m1 : w5.cell? ⟨W.heap.size, 1, none⟩ = some (.slice ao la ca) := HF5.out.cell 0 1 rfl rfl))
  have hql : ql ≤ 1000000000 := Nat.le_trans (HQ5.out.len_le (Nat.lt_of_le_of_lt (Nat.div_le_self _ _) HALT.out)) (by omega)
  have hrl : rl ≤ 1000000 := Nat.le_trans (HR5.out.len_le (Nat.lt_trans (Nat.mod_lt _ (Nat.pos_of_ne_zero HQ0.out)) HQLT.out)) (by omega)
  have HRLT := Lib.hid (Nat.lt_trans (Nat.mod_lt a (Nat.pos_of_ne_zero HQ0.out)) HQLT.out)
  clear c0 c1 c2 d0 d1 f0 f1 j0 j1
  go_wp2_with fail
  refine (sum_any _ _ _ _ _ _ (a % q) (a % q) _ HR5.out HR5.out (by omega) (by omega)).mono ?_
  rintro e w55 ⟨so5, sl5, sc5, rfl, hs5, hb55⟩
  have hsl5 : sl5 ≤ 1000000000 := by
    refine Nat.le_trans (hs5.len_le (k := lb + 2) ?_) (by omega)
    rw [Nat.pow_succ]
    have := HRLT.out
    have h3 : B32 ^ (lb + 1) * 2 ≤ B32 ^ (lb + 1) * B32 := Nat.mul_le_mul_left _ (by decide)
    omega
  have HS5 := Lib.hid hs5
  have HF55 := Lib.hid (HF5.out.later hb55)
  have HD55 := Lib.hid (HD2.out.keep (below_then HB5.out hb55))
  have HQ55 := Lib.hid (HQ5.out.keep hb55)
  clear hs5 hb55 m0 m1
  go_wp2_with fail
  refine (compare_any _ _ _ _ _ _ (a % q + a % q) q _ HS5.out HD55.out hsl5 (by omega)).mono ?_
  rintro e w6 ⟨rfl, hd6⟩
  have HF6 := Lib.hid (HF55.out.later hd6.below)
  have HQ6 := Lib.hid (HQ55.out.keep hd6.below)
  clear hd6
  rcases Nat.lt_trichotomy (a % q + a % q) q with hlt | heq | hgt
  · have hnear : nearest a q = a / q := by unfold nearest; rw [if_neg (by omega)]
    rw [cmpN_lt hlt]
    rw [hnear] at HLN HPL
    have HNEAR : Hid (nearest (m * 10 ^ k) q = a / q) := by rw [← HAQ.out]; exact hnear
    clear hnear hlt
    have HNR := Lib.hid HQ6.out
    have hnrl := hql

    go_wp2_with fail
    refine (writeDigits_any _ _ _ (a / q) _ HNR.out hnrl).mono ?_
    rintro e w9 ⟨rfl, hb9⟩
    have HF9 := Lib.hid (HF6.out.later hb9)
    clear hb9
    go_wp2_with fail
    refine (withPoint_all _ _ k _ rfl hk HLN.out).mono ?_
    rintro e w10 ⟨rfl, hd10⟩
    have HF10 := Lib.hid (HF9.out.later hd10)
    clear hd10
    have z0 : w10.cell? ⟨W.heap.size, 0, none⟩ = some (.bool na) := HF10.out.cell 0 0 rfl rfl
    have hnz := HNR.out.zero
    have HNZ := Lib.hid hnz
    clear hnz hnrl hql hrl hsl5 hpl4 htl hdl hla hlb hk i1 i2 HALT HQLT HUPL HRLT HLN
    cases na with
    | false =>
      go_wp2
      go_ret2
      exact ⟨by rw [decTextZ_pos trivial trivial HNEAR.out]; rfl, HF10.out.below⟩
    | true =>
      by_cases hnl0 : ql = 0
      · have hz := Lib.hid (HNZ.out.2 hnl0)
        have q1 : ¬ (0 : Int) < (ql : Int) := by omega
        have q3 : decide (0 < ql) = false := by simp; omega
        clear hnl0
        go_wp2
        go_ret2
        exact ⟨by rw [decTextZ_zero trivial trivial HNEAR.out hz.out]; rfl, HF10.out.below⟩
      · have hz : Hid ((a / q) ≠ 0) := fun h => hnl0 (HNZ.out.1 h)
        have q1 : (0 : Int) < (ql : Int) := by omega
        have q3 : decide (0 < ql) = true := by simp; omega
        clear hnl0
        have q2 := HPL.out
        go_wp2
        go_ret2
        refine ⟨?_, HF10.out.below⟩
        rw [decTextZ_neg trivial (HMN.out trivial) HNEAR.out hz.out]
        have := bytes_append [45] (pointedZ (numeral (a / q)) k)
        exact congrArg (fun x => Ending.returned (.tuple #[Value.string x, .int .i64 0])) this
  · by_cases hodd : (a / q) % 2 = 1
    · have hnear : nearest a q = a / q + 1 := by unfold nearest; rw [if_pos (by omega)]
      rw [cmpN_eq heq]
      rw [hnear] at HLN HPL
      have HNEAR : Hid (nearest (m * 10 ^ k) q = a / q + 1) := by rw [← HAQ.out]; exact hnear
      have hob : ((a / q) % 2 == 1) = true := by simp [hodd]
      clear hnear heq
      go_wp2_with fail
      refine (isOdd_any _ _ _ (a / q) _ HQ6.out).mono ?_
      rw [hob]
      clear hob hodd
      rintro e w7 ⟨rfl, rfl⟩
      have HONE := Lib.hid (one_slice w6)
      have HF6a := Lib.hid (HF6.out.later (box_below w6 61 #[.int .u32 1]))
      go_wp2_with fail
      refine (sum_any _ _ _ _ _ _ (a / q) 1 _ (HQ6.out.keep (box_below _ _ _)) HONE.out hql (by omega)).mono ?_
      rintro e w8 ⟨so, sl, sc, rfl, hs8, hb8⟩
      have HF8 := Lib.hid (HF6a.out.later hb8)
      have HNR := Lib.hid hs8
      have hnrl : sl ≤ 1000000000 := Nat.le_trans (hs8.len_le HUPL.out) (by omega)
      clear hs8 hb8

      go_wp2_with fail
      refine (writeDigits_any _ _ _ (a / q + 1) _ HNR.out hnrl).mono ?_
      rintro e w9 ⟨rfl, hb9⟩
      have HF9 := Lib.hid (HF8.out.later hb9)
      clear hb9
      go_wp2_with fail
      refine (withPoint_all _ _ k _ rfl hk HLN.out).mono ?_
      rintro e w10 ⟨rfl, hd10⟩
      have HF10 := Lib.hid (HF9.out.later hd10)
      clear hd10
      have z0 : w10.cell? ⟨W.heap.size, 0, none⟩ = some (.bool na) := HF10.out.cell 0 0 rfl rfl
      have hnz := HNR.out.zero
      have HNZ := Lib.hid hnz
      clear hnz hnrl hql hrl hsl5 hpl4 htl hdl hla hlb hk i1 i2 HALT HQLT HUPL HRLT HLN
      cases na with
      | false =>
        go_wp2
        go_ret2
        exact ⟨by rw [decTextZ_pos trivial trivial HNEAR.out]; rfl, HF10.out.below⟩
      | true =>
        by_cases hnl0 : sl = 0
        · have hz := Lib.hid (HNZ.out.2 hnl0)
          have q1 : ¬ (0 : Int) < (sl : Int) := by omega
          have q3 : decide (0 < sl) = false := by simp; omega
          clear hnl0
          go_wp2
          go_ret2
          exact ⟨by rw [decTextZ_zero trivial trivial HNEAR.out hz.out]; rfl, HF10.out.below⟩
        · have hz : Hid ((a / q + 1) ≠ 0) := fun h => hnl0 (HNZ.out.1 h)
          have q1 : (0 : Int) < (sl : Int) := by omega
          have q3 : decide (0 < sl) = true := by simp; omega
          clear hnl0
          have q2 := HPL.out
          go_wp2
          go_ret2
          refine ⟨?_, HF10.out.below⟩
          rw [decTextZ_neg trivial (HMN.out trivial) HNEAR.out hz.out]
          have := bytes_append [45] (pointedZ (numeral (a / q + 1)) k)
          exact congrArg (fun x => Ending.returned (.tuple #[Value.string x, .int .i64 0])) this
    · have hnear : nearest a q = a / q := by unfold nearest; rw [if_neg (by omega)]
      rw [cmpN_eq heq]
      rw [hnear] at HLN HPL
      have HNEAR : Hid (nearest (m * 10 ^ k) q = a / q) := by rw [← HAQ.out]; exact hnear
      have hob : ((a / q) % 2 == 1) = false := by simp [hodd]
      clear hnear heq
      go_wp2_with fail
      refine (isOdd_any _ _ _ (a / q) _ HQ6.out).mono ?_
      rw [hob]
      clear hob hodd
      rintro e w7 ⟨rfl, rfl⟩
      have HNR := Lib.hid HQ6.out
      have hnrl := hql

      go_wp2_with fail
      refine (writeDigits_any _ _ _ (a / q) _ HNR.out hnrl).mono ?_
      rintro e w9 ⟨rfl, hb9⟩
      have HF9 := Lib.hid (HF6.out.later hb9)
      clear hb9
      go_wp2_with fail
      refine (withPoint_all _ _ k _ rfl hk HLN.out).mono ?_
      rintro e w10 ⟨rfl, hd10⟩
      have HF10 := Lib.hid (HF9.out.later hd10)
      clear hd10
      have z0 : w10.cell? ⟨W.heap.size, 0, none⟩ = some (.bool na) := HF10.out.cell 0 0 rfl rfl
      have hnz := HNR.out.zero
      have HNZ := Lib.hid hnz
      clear hnz hnrl hql hrl hsl5 hpl4 htl hdl hla hlb hk i1 i2 HALT HQLT HUPL HRLT HLN
      cases na with
      | false =>
        go_wp2
        go_ret2
        exact ⟨by rw [decTextZ_pos trivial trivial HNEAR.out]; rfl, HF10.out.below⟩
      | true =>
        by_cases hnl0 : ql = 0
        · have hz := Lib.hid (HNZ.out.2 hnl0)
          have q1 : ¬ (0 : Int) < (ql : Int) := by omega
          have q3 : decide (0 < ql) = false := by simp; omega
          clear hnl0
          go_wp2
          go_ret2
          exact ⟨by rw [decTextZ_zero trivial trivial HNEAR.out hz.out]; rfl, HF10.out.below⟩
        · have hz : Hid ((a / q) ≠ 0) := fun h => hnl0 (HNZ.out.1 h)
          have q1 : (0 : Int) < (ql : Int) := by omega
          have q3 : decide (0 < ql) = true := by simp; omega
          clear hnl0
          have q2 := HPL.out
          go_wp2
          go_ret2
          refine ⟨?_, HF10.out.below⟩
          rw [decTextZ_neg trivial (HMN.out trivial) HNEAR.out hz.out]
          have := bytes_append [45] (pointedZ (numeral (a / q)) k)
          exact congrArg (fun x => Ending.returned (.tuple #[Value.string x, .int .i64 0])) this
  · have hnear : nearest a q = a / q + 1 := by unfold nearest; rw [if_pos (by omega)]
    rw [cmpN_gt hgt]
    rw [hnear] at HLN HPL
    have HNEAR : Hid (nearest (m * 10 ^ k) q = a / q + 1) := by rw [← HAQ.out]; exact hnear
    clear hnear hgt
    have HONE := Lib.hid (one_slice w6)
    have HF6a := Lib.hid (HF6.out.later (box_below w6 61 #[.int .u32 1]))
    go_wp2_with fail
    refine (sum_any _ _ _ _ _ _ (a / q) 1 _ (HQ6.out.keep (box_below _ _ _)) HONE.out hql (by omega)).mono ?_
    rintro e w8 ⟨so, sl, sc, rfl, hs8, hb8⟩
    have HF8 := Lib.hid (HF6a.out.later hb8)
    have HNR := Lib.hid hs8
    have hnrl : sl ≤ 1000000000 := Nat.le_trans (hs8.len_le HUPL.out) (by omega)
    clear hs8 hb8

    go_wp2_with fail
    refine (writeDigits_any _ _ _ (a / q + 1) _ HNR.out hnrl).mono ?_
    rintro e w9 ⟨rfl, hb9⟩
    have HF9 := Lib.hid (HF8.out.later hb9)
    clear hb9
    go_wp2_with fail
    refine (withPoint_all _ _ k _ rfl hk HLN.out).mono ?_
    rintro e w10 ⟨rfl, hd10⟩
    have HF10 := Lib.hid (HF9.out.later hd10)
    clear hd10
    have z0 : w10.cell? ⟨W.heap.size, 0, none⟩ = some (.bool na) := HF10.out.cell 0 0 rfl rfl
    have hnz := HNR.out.zero
    have HNZ := Lib.hid hnz
    clear hnz hnrl hql hrl hsl5 hpl4 htl hdl hla hlb hk i1 i2 HALT HQLT HUPL HRLT HLN
    cases na with
    | false =>
      go_wp2
      go_ret2
      exact ⟨by rw [decTextZ_pos trivial trivial HNEAR.out]; rfl, HF10.out.below⟩
    | true =>
      by_cases hnl0 : sl = 0
      · have hz := Lib.hid (HNZ.out.2 hnl0)
        have q1 : ¬ (0 : Int) < (sl : Int) := by omega
        have q3 : decide (0 < sl) = false := by simp; omega
        clear hnl0
        go_wp2
        go_ret2
        exact ⟨by rw [decTextZ_zero trivial trivial HNEAR.out hz.out]; rfl, HF10.out.below⟩
      · have hz : Hid ((a / q + 1) ≠ 0) := fun h => hnl0 (HNZ.out.1 h)
        have q1 : (0 : Int) < (sl : Int) := by omega
        have q3 : decide (0 < sl) = true := by simp; omega
        clear hnl0
        have q2 := HPL.out
        go_wp2
        go_ret2
        refine ⟨?_, HF10.out.below⟩
        rw [decTextZ_neg trivial (HMN.out trivial) HNEAR.out hz.out]
        have := bytes_append [45] (pointedZ (numeral (a / q + 1)) k)
        exact congrArg (fun x => Ending.returned (.tuple #[Value.string x, .int .i64 0])) this
end Go.Proofs.Ytcgnmihabkgecaa

/- Facts for NumKeeps: calls whose results are dropped; nine integers in a slice. -/
set_option linter.unusedVariables false
namespace Go.Proofs.Ytcgnmihabkgecaa
open Go.RowKit Go.Proofs

/-- something is returned -/
def Drop (W : World) (e : Ending) (w' : World) : Prop := (∃ v, e = .returned v) ∧ Below W.heap.size W w'

theorem OutF.drop {W w' : World} {z : Int} {e : Ending} (h : OutF W z e w') : Drop W e w' := by
  rcases h with ⟨_, neg, ao, len, cap, rfl, _, hb⟩ | ⟨_, rfl, hb⟩
  · exact ⟨⟨_, rfl⟩, hb⟩
  · exact ⟨⟨_, rfl⟩, hb⟩
theorem OutI.drop {W w' : World} {z : Int} {e : Ending} (h : OutI W z e w') : Drop W e w' := by
  obtain ⟨neg, ao, len, cap, rfl, _, hb⟩ := h
  exact ⟨⟨_, rfl⟩, hb⟩
theorem OutTQ.drop {W w' : World} {p : Int} {q : Nat} {e : Ending} (h : OutTQ W p q e w') : Drop W e w' := by
  obtain ⟨na, ao, la, ca, bo, lb, cb, er, P, Q, rfl, _, _, _, hb, _⟩ := h
  exact ⟨⟨_, rfl⟩, hb⟩
theorem OutQL.drop {W w' : World} {p : Int} {q L M : Nat} {e : Ending} (h : OutQL W p q L M e w') : Drop W e w' := by
  obtain ⟨neg, ao, len, cap, bo, bl, bc, rfl, _, _, _, hb⟩ := h
  exact ⟨⟨_, rfl⟩, hb⟩

section
variable {na nb : Bool} {ao bo : Option Addr} {la lb ca cb : Nat} {x y : Int} {W : World}
theorem add_drop (ha : Z32 W na ao la x) (hb : Z32 W nb bo lb y) (hla : la ≤ 512) (hlb : lb ≤ 512) :
    Calls Try.prog 7 #[.agg #[.bool na, .slice ao la ca], .agg #[.bool nb, .slice bo lb cb]] W (Drop W) :=
  (addI_any na nb ao bo la lb ca cb x y W ha hb (by omega) (by omega)).mono fun e w h => h.drop
theorem sub_drop (ha : Z32 W na ao la x) (hb : Z32 W nb bo lb y) (hla : la ≤ 512) (hlb : lb ≤ 512) :
    Calls Try.prog 9 #[.agg #[.bool na, .slice ao la ca], .agg #[.bool nb, .slice bo lb cb]] W (Drop W) :=
  (subI_any na nb ao bo la lb ca cb x y W ha hb (by omega) (by omega)).mono fun e w h => h.drop
theorem mul_drop (ha : Z32 W na ao la x) (hb : Z32 W nb bo lb y) (hla : la ≤ 512) (hlb : lb ≤ 512) :
    Calls Try.prog 8 #[.agg #[.bool na, .slice ao la ca], .agg #[.bool nb, .slice bo lb cb]] W (Drop W) :=
  (mulI_any na nb ao bo la lb ca cb x y W ha hb (by omega) (by omega)).mono fun e w h => h.drop
theorem neg_drop (ha : Z32 W na ao la x) (hla : la ≤ 512) :
    Calls Try.prog 11 #[.agg #[.bool na, .slice ao la ca]] W (Drop W) :=
  (neg_any na ao la ca x W ha (by omega)).mono fun e w h => h.drop
theorem gcd_drop (ha : Z32 W na ao la x) (hb : Z32 W nb bo lb y) (hla : la ≤ 512) (hlb : lb ≤ 512) :
    Calls Try.prog 12 #[.agg #[.bool na, .slice ao la ca], .agg #[.bool nb, .slice bo lb cb]] W (Drop W) :=
  (gcdI_any na nb ao bo la lb ca cb x y W ha hb (by omega) (by omega)).mono fun e w h => h.drop
end

def DivK (W : World) (e : Ending) (w' : World) : Prop :=
  ∃ n1 o1 l1 c1 n2 o2 l2 c2 er z1 z2, e = .returned (.tuple #[.agg #[.bool n1, .slice o1 l1 c1], .agg #[.bool n2, .slice o2 l2 c2], .int .i64 er]) ∧ l1 ≤ 512 ∧ l2 ≤ 512 ∧ Bl 4000 z1 ∧ Bl 4000 z2 ∧ Z32 w' n1 o1 l1 z1 ∧ Z32 w' n2 o2 l2 z2 ∧ Below W.heap.size W w'

theorem bl_of {k : Nat} {z : Int} (h : z.natAbs < 2 ^ k) : Bl k z := blen_le.2 h
theorem bl_one : Bl 4000 ((1 : Nat) : Int) := (bl_of (k := 1) (by decide)).mono (by decide)
theorem bl_zero (k : Nat) : Bl k 0 := bl_of (Nat.pow_pos (by decide))

theorem div_keep (na nb : Bool) (ao bo : Option Addr) (la lb ca cb : Nat) (x y : Int) (W : World) (ha : Z32 W na ao la x) (hb : Z32 W nb bo lb y) (hla : la ≤ 512) (hlb : lb ≤ 512) (hx : Bl 4000 x) (hy : Bl 4000 y) :
    Calls Try.prog 10 #[.agg #[.bool na, .slice ao la ca], .agg #[.bool nb, .slice bo lb cb]] W (DivK W) := by
  by_cases h0 : y = 0
  · have hl0 : lb = 0 := hb.n32.zero.1 (by omega)
    subst hl0
    refine (div_zero na nb ao bo la ca cb W).mono fun e w h => ?_
    have h1 := h
    unfold DivNone at h1
    exact ⟨false, none, 0, 0, false, none, 0, 0, 10, 0, 0, h1.1, by omega, by omega, bl_zero _, bl_zero _, Z32.nil _, Z32.nil _, h1.2⟩
  · refine (div_any na nb ao bo la lb ca cb x y W ha hb (by omega) (by omega) h0 (divide_ok _ _ (by omega))).mono fun e w h => ?_
    obtain ⟨s1, uo, ul, uc, s2, vo, vl, vc, rfl, h1, h2, h3⟩ := h
    have k1 : Bl 4000 (x / y) := bl_div hx
    have k2 : Bl 4000 (x % y) := bl_mod hy h0
    exact ⟨s1, uo, ul, uc, s2, vo, vl, vc, 0, _, _, rfl, fits_len h1 (k1.fits (by decide)), fits_len h2 (k2.fits (by decide)), k1, k2, h1, h2, h3⟩
theorem DivK.drop {W w' : World} {e : Ending} (h : DivK W e w') : Drop W e w' := by
  obtain ⟨n1, o1, l1, c1, n2, o2, l2, c2, er, z1, z2, rfl, _, _, _, _, _, _, hb⟩ := h
  exact ⟨⟨_, rfl⟩, hb⟩

def RatK (W : World) (e : Ending) (w' : World) : Prop :=
  ∃ (na : Bool) (ao : Option Addr) (la ca : Nat) (bo : Option Addr) (lb cb : Nat) (er p : Int) (q : Nat), e = .returned (.tuple #[.agg #[.bool na, .slice ao la ca, .slice bo lb cb], .int .i64 er]) ∧ la ≤ 512 ∧ lb ≤ 512 ∧ Bl 4000 p ∧ Bl 4000 (q : Int) ∧ Q32 w' na ao la bo lb p q ∧ Below W.heap.size W w'

theorem rat_keep (na nb : Bool) (ao bo : Option Addr) (la lb ca cb : Nat) (x y : Int) (W : World) (ha : Z32 W na ao la x) (hb : Z32 W nb bo lb y) (hla : la ≤ 512) (hlb : lb ≤ 512) (hx : Bl 4000 x) (hy : Bl 4000 y) :
    Calls Try.prog 13 #[.agg #[.bool na, .slice ao la ca], .agg #[.bool nb, .slice bo lb cb]] W (RatK W) := by
  by_cases h0 : y = 0
  · subst h0
    refine (newRat_zero na nb ao bo la lb ca cb W hb).mono fun e w h => ?_
    exact ⟨false, none, 0, 0, none, 0, 0, 10, 0, 1, h.1, by omega, by omega, bl_zero _, bl_one, ⟨Z32.nil _, .inl ⟨rfl, rfl⟩⟩, h.2⟩
  · refine (newRat_L na nb ao bo la lb ca cb x y W ha hb (by omega) (by omega) h0).mono fun e w h => ?_
    obtain ⟨n, o, l, c, b, m, d, rfl, hq, hbel⟩ := h
    have k1 : Bl 4000 (lowP x y) := Bl.low _ hx
    have k2 : Bl 4000 (lowQ x y : Int) := Bl.lowq _ hy
    have hl := hq.lens (fitsQ_of k1 k2 (by decide))
    exact ⟨n, o, l, c, b, m, d, 0, _, _, rfl, hl.1, hl.2, k1, k2, hq, hbel⟩

section
variable {na : Bool} {ao bo : Option Addr} {la lb ca cb : Nat} {p : Int} {q : Nat} {W : World}
theorem ratAdd_drop (h : Q32 W na ao la bo lb p q) (hla : la ≤ 512) (hlb : lb ≤ 512) :
    Calls Try.prog 15 #[.agg #[.bool na, .slice ao la ca, .slice bo lb cb], .agg #[.bool na, .slice ao la ca, .slice bo lb cb]] W (Drop W) :=
  (ratAdd_any na na ao bo ao bo la lb la lb ca cb ca cb p p q q W h h (by omega) (by omega) (by omega) (by omega)).mono fun e w h => h.drop
theorem ratNeg_drop (h : Q32 W na ao la bo lb p q) (hla : la ≤ 512) (hlb : lb ≤ 512) :
    Calls Try.prog 16 #[.agg #[.bool na, .slice ao la ca, .slice bo lb cb]] W (Drop W) :=
  (ratNeg_any na ao bo la lb ca cb p q W h (by omega) (by omega)).mono fun e w h => h.drop
theorem decimal_drop (h : Q32 W na ao la bo lb p q) (hla : la ≤ 512) (hlb : lb ≤ 512) :
    Calls Try.prog 17 #[.agg #[.bool na, .slice ao la ca, .slice bo lb cb], .int .i64 3] W (Drop W) :=
  (decimal_all na ao bo la lb ca cb p q 3 3 W h (by omega) (by omega) (by have := h.pos; omega) rfl (by decide) (divide_ok _ _ h.pos)).mono fun e w h => ⟨⟨_, h.1⟩, h.2⟩
end

theorem bl_gcd {x y : Int} {k : Nat} (hx : Bl k x) (hy : Bl k y) : Bl k ((Int.gcd x y : Nat) : Int) := by
  unfold Bl at *
  rw [Int.natAbs_natCast, blen_le]
  rw [blen_le] at hx hy
  unfold Int.gcd
  by_cases h : x.natAbs = 0
  · rw [h, Nat.gcd_zero_left]; exact hy
  · exact Nat.lt_of_le_of_lt (Nat.gcd_le_left _ (by omega)) hx

theorem OutI.fit {W w' : World} {z : Int} {e : Ending} (h : OutI W z e w') (hf : Fits z) : ∃ neg ao len cap, e = .returned (.agg #[.bool neg, .slice ao len cap]) ∧ len ≤ 512 ∧ Z32 w' neg ao len z ∧ Below W.heap.size W w' := by
  obtain ⟨neg, ao, len, cap, rfl, hz, hb⟩ := h
  exact ⟨neg, ao, len, cap, rfl, fits_len hz hf, hz, hb⟩

/-! Nine integers in a slice. -/
def V4 : Type := Bool × Option Addr × Nat × Nat
def cells9 (vs : List V4) : Array Value := (vs.flatMap fun v => [Value.bool v.1, Value.slice v.2.1 v.2.2.1 v.2.2.2]).toArray

theorem cells9_get (vs : List V4) : ∀ (i : Nat) (v : V4), vs[i]? = some v → (cells9 vs)[i * 2]? = some (.bool v.1) ∧ (cells9 vs)[i * 2 + 1]? = some (.slice v.2.1 v.2.2.1 v.2.2.2) := by
  induction vs with
  | nil => intro i v h; simp at h
  | cons u t ih =>
    intro i v h
    cases i with
    | zero =>
      simp at h
      subst h
      exact ⟨rfl, rfl⟩
    | succ i =>
      have h2 := ih i v (by simpa using h)
      have e : cells9 (u :: t) = (Value.bool u.1 :: Value.slice u.2.1 u.2.2.1 u.2.2.2 :: (cells9 t).toList).toArray := by
        unfold cells9
        simp
      rw [e]
      have e2 : (i + 1) * 2 = i * 2 + 1 + 1 := by omega
      rw [e2]
      simpa using h2

structure Nine (w : World) (g : Nat) (vs : List V4) (zs : List Int) : Prop where
  lv : vs.length = 9
  lz : zs.length = 9
  box : Box w g 27 (cells9 vs)
  all : ∀ (i : Nat) (v : V4) (z : Int), vs[i]? = some v → zs[i]? = some z → v.2.2.1 ≤ 512 ∧ Bl 4000 z ∧ Z32 w v.1 v.2.1 v.2.2.1 z

theorem Nine.later {w w' : World} {g : Nat} {vs : List V4} {zs : List Int} (h : Nine w g vs zs) (hb : Below w.heap.size w w') : Nine w' g vs zs :=
  ⟨h.lv, h.lz, h.box.below hb h.box.lt, fun i v z h1 h2 => ⟨(h.all i v z h1 h2).1, (h.all i v z h1 h2).2.1, (h.all i v z h1 h2).2.2.keep hb⟩⟩

theorem Nine.at {w : World} {g : Nat} {vs : List V4} {zs : List Int} (h : Nine w g vs zs) (i : Nat) (hi : i < 9) :
    ∃ (n : Bool) (o : Option Addr) (l c : Nat) (z : Int), vs[i]? = some (n, o, l, c) ∧ zs[i]? = some z ∧ l ≤ 512 ∧ Bl 4000 z ∧ Z32 w n o l z ∧ w.cell? ⟨g, i * 2, none⟩ = some (.bool n) ∧ w.cell? ⟨g, i * 2 + 1, none⟩ = some (.slice o l c) := by
  have hv : i < vs.length := by rw [h.lv]; exact hi
  have hz : i < zs.length := by rw [h.lz]; exact hi
  have h1 : vs[i]? = some vs[i] := List.getElem?_eq_getElem hv
  have h2 : zs[i]? = some zs[i] := List.getElem?_eq_getElem hz
  have h3 := h.all i _ _ h1 h2
  have h4 := cells9_get vs i _ h1
  exact ⟨_, _, _, _, _, h1, h2, h3.1, h3.2.1, h3.2.2, (h.box.cell _).trans h4.1, (h.box.cell _).trans h4.2⟩

theorem all9 {P : V4 → Int → Prop} {v0 v1 v2 v3 v4 v5 v6 v7 v8 : V4} {z0 z1 z2 z3 z4 z5 z6 z7 z8 : Int} (h0 : P v0 z0) (h1 : P v1 z1) (h2 : P v2 z2) (h3 : P v3 z3) (h4 : P v4 z4) (h5 : P v5 z5) (h6 : P v6 z6) (h7 : P v7 z7) (h8 : P v8 z8) :
    ∀ (i : Nat) (v : V4) (z : Int), [v0, v1, v2, v3, v4, v5, v6, v7, v8][i]? = some v → [z0, z1, z2, z3, z4, z5, z6, z7, z8][i]? = some z → P v z := by
  intro i v z hv hz
  match i, hv, hz with
  | 0, hv, hz => simp at hv hz; subst hv hz; exact h0
  | 1, hv, hz => simp at hv hz; subst hv hz; exact h1
  | 2, hv, hz => simp at hv hz; subst hv hz; exact h2
  | 3, hv, hz => simp at hv hz; subst hv hz; exact h3
  | 4, hv, hz => simp at hv hz; subst hv hz; exact h4
  | 5, hv, hz => simp at hv hz; subst hv hz; exact h5
  | 6, hv, hz => simp at hv hz; subst hv hz; exact h6
  | 7, hv, hz => simp at hv hz; subst hv hz; exact h7
  | 8, hv, hz => simp at hv hz; subst hv hz; exact h8
  | n + 9, hv, _ => simp at hv

/-- two neighbours of the nine -/
structure Two9 (w : World) (g i : Nat) (n0 : Bool) (o0 : Option Addr) (l0 c0 : Nat) (n1 : Bool) (o1 : Option Addr) (l1 c1 : Nat) : Prop where
  a : w.cell? ⟨g, i * 2, none⟩ = some (.bool n0)
  b : w.cell? ⟨g, i * 2 + 1, none⟩ = some (.slice o0 l0 c0)
  c : w.cell? ⟨g, (i + 1) * 2, none⟩ = some (.bool n1)
  d : w.cell? ⟨g, (i + 1) * 2 + 1, none⟩ = some (.slice o1 l1 c1)
theorem Two9.keep {w w' : World} {g i : Nat} {n0 : Bool} {o0 : Option Addr} {l0 c0 : Nat} {n1 : Bool} {o1 : Option Addr} {l1 c1 : Nat} (h : Two9 w g i n0 o0 l0 c0 n1 o1 l1 c1) (hb : Below w.heap.size w w') : Two9 w' g i n0 o0 l0 c0 n1 o1 l1 c1 :=
  ⟨cell_later hb h.a, cell_later hb h.b, cell_later hb h.c, cell_later hb h.d⟩

theorem take_texts {zs : List Int} {i : Nat} {z : Int} (h : zs[i]? = some z) : (zs.take (i + 1)).map numeralZ = (zs.take i).map numeralZ ++ [numeralZ z] := by
  obtain ⟨hi, he⟩ := List.getElem?_eq_some_iff.1 h
  rw [List.take_succ_eq_append_getElem hi, List.map_append, he]; rfl

/-! The texts. -/
def OwnS (w : World) (base e : Nat) (v : Value) (ts : List (List UInt8)) : Prop := w.ownsRow base e 1 v ts.length (ts.map fun t => Value.string ⟨t.toArray⟩)

theorem OwnS.nil (w : World) (base e : Nat) : OwnS w base e (.slice none 0 0) [] := World.ownsRow_nil _ _ _ _

/-- 'append(s, x)' of one string, s the call's own -/
theorem wpList_appS {P : Program} {w : World} {ops : Array Oper} {rest : List Oper} {o : Oper} {a : Act} {Q : Exit → Act → World → Prop} (hgd : o.guard = none) (s x : Operand) (t : TypeId)
    (ho : o.op = .call { callee := .builtin .append, args := #[s, x], argTypes := #[t, t] }) (base e : Nat) (zv : Value) (bytes : Nat)
    (h1 : P.underlying t = some (.slice e)) (h2 : (P.info? e).map (fun i => (i.zero, i.size, i.bytes)) = some (some zv, 1, bytes)) (hzc : zv.cells.size = 1)
    (v : Value) (ts : List (List UInt8)) (hs : a.eval s = v) (hown : OwnS w base e v ts) (tx : List UInt8) (hx : a.eval x = .slice (some ⟨w.heap.size, 0, none⟩) 1 1)
    (hn : ts.length ≤ 1000000) (hby : bytes ≤ 16) (hbase : base ≤ w.heap.size)
    (h : ∀ v' w', OwnS w' base e v' (ts ++ [tx]) → Below base w w' → wpList P ops Q rest (a.put o.dst v') w') :
    wpList P ops Q (o :: rest) a (w.alloc (.cells #[.string ⟨tx.toArray⟩] e)) := by
  obtain ⟨i0, hi, hz0, hz1, hz2⟩ := info_parts h2
  have hown' : (w.alloc (.cells #[.string ⟨tx.toArray⟩] e)).ownsRow base e 1 v ts.length (ts.map fun t => Value.string ⟨t.toArray⟩) := World.ownsRow.alloc hown _
  have hb : (ts.length + 1) * bytes ≤ 140737488355328 := by
    have : (ts.length + 1) * bytes ≤ (ts.length + 1) * 16 := Nat.mul_le_mul_left _ hby
    omega
  refine wpList_append_own _ hgd s x t ho base e i0 zv 1 bytes h1 hi hz0 hz1 hz2 hzc (by decide) v ts.length _ hs hown' ⟨w.heap.size, 0, none⟩ 1 1 [.string ⟨tx.toArray⟩] hx rfl ?_ ?_ (by unfold maxLen; omega) hb (by simp; omega) ?_
  · intro j u hj
    match j, hj with
    | 0, hj => simp at hj; subst hj; simp [Addr.add]
  · intro u hu; simp at hu; subst hu; rfl
  · intro v' w' hr hg _
    refine h v' w' ?_ ?_
    · unfold OwnS
      rw [List.map_append, List.length_append]
      exact hr
    · exact ((Below.refl base w).alloc hbase _).grown hg (by simp; omega) (fun b hb => (World.ownsRow.lt hown b hb).1)

theorem OwnS.later {w w' : World} {base e : Nat} {v : Value} {ts : List (List UInt8)} (h : OwnS w base e v ts) (hb : Below w.heap.size w w') : OwnS w' base e v ts := by
  refine ⟨h.1, ?_⟩
  rcases h.2 with h2 | ⟨g, cap, cur, h3, h4, h5, h6⟩
  · exact .inl h2
  · exact .inr ⟨g, cap, cur, h3, h4, (hb.block g (Array.getElem?_eq_some_iff.1 h5).1).trans h5, h6⟩

theorem OwnS.at {w : World} {base e : Nat} {v : Value} {ts : List (List UInt8)} (h : OwnS w base e v ts) (h0 : 0 < ts.length) :
    ∃ g cap, v = .slice (some ⟨g, 0, none⟩) ts.length cap ∧ ts.length ≤ cap ∧ cap ≤ maxLen ∧ ∀ (i : Nat) (t : List UInt8), ts[i]? = some t → w.cell? ⟨g, i, none⟩ = some (.string ⟨t.toArray⟩) := by
  rcases h.2 with ⟨h2, h3⟩ | ⟨g, cap, cur, rfl, h4, h5, h6, h7, h8⟩
  · exact absurd h3 (by omega)
  · refine ⟨g, cap, rfl, h6, h7, fun i t ht => ?_⟩
    have hi : i < ts.length := (List.getElem?_eq_some_iff.1 ht).1
    have h9 := World.ownsRow.cellAt h i (by simpa using hi)
    rw [h9]
    rw [List.getElem?_map, ht]; rfl
end Go.Proofs.Ytcgnmihabkgecaa
