/- A numeral is read again as what it is the numeral of. -/
import Derived.Test.YtdnnjjclklcihaaLaw2
set_option linter.unusedVariables false
namespace Go.Proofs.Ytdnnjjclklcihaa
open Go.RowKit Go.Proofs

theorem char_toNat {d : Nat} (h : d < 10) : (UInt8.ofNat (48 + d)).toNat = 48 + d := by
  rw [UInt8.toNat_ofNat']
  omega

theorem chars_append (a b : List Nat) : chars (a ++ b) = chars a ++ chars b := by unfold chars; rw [List.map_append]

theorem dec_chars {ts : List Nat} (h : Dig 10 ts) : dec (chars ts.reverse) = val 10 ts := by
  induction ts with
  | nil => rfl
  | cons d ts ih =>
    rw [List.reverse_cons, chars_append]
    show dec (chars ts.reverse ++ [UInt8.ofNat (48 + d)]) = _
    rw [dec_snoc, ih h.tail, char_toNat h.head, val_cons]
    omega

theorem all_chars {ts : List Nat} (h : Dig 10 ts) : (chars ts).all isDig = true := by
  rw [List.all_eq_true]
  intro c hc
  obtain ⟨d, hd, rfl⟩ := List.mem_map.1 hc
  have h1 := h d hd
  unfold isDig
  rw [char_toNat h1]
  simp
  omega

theorem Dig.reverse {B : Nat} {ts : List Nat} (h : Dig B ts) : Dig B ts.reverse := fun x hx => h x (List.mem_reverse.1 hx)

theorem dec_numeral (n : Nat) : dec (numeral n) = n := by
  unfold numeral
  by_cases h : n = 0
  · rw [if_pos h, h]; rfl
  · rw [if_neg h]
    obtain ⟨a, b, c⟩ := lowF_spec n n (Nat.le_refl _)
    exact (dec_chars a).trans c

theorem numeral_pos {n : Nat} (h : n ≠ 0) : isPos (numeral n) = true := by
  unfold numeral
  rw [if_neg h]
  obtain ⟨a, b, c⟩ := lowF_spec n n (Nat.le_refl _)
  change Dig 10 (low n) at a
  change Top (low n) at b
  change val 10 (low n) = n at c
  have hne : low n ≠ [] := fun e => by rw [e] at c; exact h c.symm
  obtain ⟨ys, y, hy⟩ : ∃ ys y, low n = ys ++ [y] := ⟨(low n).dropLast, (low n).getLast hne, (List.dropLast_concat_getLast hne).symm⟩
  have hy0 : y ≠ 0 := by
    have := b hne
    rw [hy] at this
    simpa using this
  have hyd : y < 10 := a y (by rw [hy]; simp)
  have hd := all_chars a.reverse
  rw [hy] at hd ⊢
  rw [List.reverse_append] at hd ⊢
  change (UInt8.ofNat (48 + y) :: chars ys.reverse).all isDig = true at hd
  change isPos (UInt8.ofNat (48 + y) :: chars ys.reverse) = true
  have hc : UInt8.ofNat (48 + y) ≠ 48 := fun e => by
    have := congrArg UInt8.toNat e
    rw [char_toNat hyd] at this
    change 48 + y = 48 at this
    omega
  unfold isPos hasDigs
  rw [hd]
  have h2 : decide ((UInt8.ofNat (48 + y) :: chars ys.reverse).head? ≠ some 48) = true := decide_eq_true (fun e => hc (Option.some.inj e))
  rw [h2]
  rfl

theorem numeral_head {n : Nat} : ∃ x t, numeral n = x :: t ∧ isDig x = true := by
  by_cases h : n = 0
  · exact ⟨48, [], by unfold numeral; rw [if_pos h], rfl⟩
  · have h1 := numeral_pos h
    unfold isPos hasDigs at h1
    simp only [Bool.and_eq_true] at h1
    cases hn : numeral n with
    | nil => rw [hn] at h1; simp at h1
    | cons x t =>
      rw [hn] at h1
      have := h1.1.1
      rw [List.all_cons, Bool.and_eq_true] at this
      exact ⟨x, t, rfl, this.1⟩

theorem prefix_numeral (n : Nat) : Lib.hasPrefix (numeral n) [45] = false := by
  obtain ⟨x, t, h, hd⟩ := numeral_head (n := n)
  rw [h]
  have : x ≠ 45 := fun e => by subst e; exact absurd hd (by decide)
  have h2 : ¬ (45 : UInt8) = x := fun e => this e.symm
  show ([45].isPrefixOf (x :: t)) = false
  rw [List.isPrefixOf_cons_cons, beq_eq_false_iff_ne.2 h2, Bool.false_and]

theorem bare_minus (t : List UInt8) : bare (45 :: t) = t := by unfold bare Lib.trimPrefix; simp [Lib.hasPrefix]
theorem bare_plain {t : List UInt8} (h : Lib.hasPrefix t [45] = false) : bare t = t := by unfold bare Lib.trimPrefix; rw [h]; rfl

theorem isNum_numeralZ (z : Int) : isNum (numeralZ z) = true := by
  unfold numeralZ
  by_cases h : z < 0
  · rw [if_pos h]
    have hn := numeral_pos (n := z.natAbs) (by omega)
    unfold isNum
    change (decide _ || isPos (bare (45 :: numeral z.natAbs))) = true
    rw [bare_minus, hn, Bool.or_true]
  · rw [if_neg h]
    unfold isNum
    change (decide _ || isPos (bare (numeral z.natAbs))) = true
    rw [bare_plain (prefix_numeral _)]
    by_cases h0 : z.natAbs = 0
    · rw [h0]; rfl
    · rw [numeral_pos h0, Bool.or_true]

theorem numZ_numeralZ (z : Int) : numZ (numeralZ z) = z := by
  unfold numeralZ
  by_cases h : z < 0
  · rw [if_pos h]
    unfold numZ
    rw [bare_minus, dec_numeral]
    simp [Lib.hasPrefix, sgn]
    omega
  · rw [if_neg h]
    unfold numZ
    rw [bare_plain (prefix_numeral _), dec_numeral, prefix_numeral]
    simp [sgn]
    omega
end Go.Proofs.Ytdnnjjclklcihaa
