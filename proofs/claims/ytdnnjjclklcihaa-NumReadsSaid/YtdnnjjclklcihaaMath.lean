/- Plain facts on rows of digits: their value to a base, lowest digit first. No program. -/
import Derived.Lib.Hide
set_option linter.unusedVariables false
namespace Go.Proofs.Ytdnnjjclklcihaa

def val (B : Nat) : List Nat → Nat
  | [] => 0
  | d :: ds => d + B * val B ds

theorem val_nil (B : Nat) : val B [] = 0 := rfl
theorem val_cons (B d : Nat) (ds : List Nat) : val B (d :: ds) = d + B * val B ds := rfl

def Dig (B : Nat) (xs : List Nat) : Prop := ∀ x ∈ xs, x < B
/-- no zero at the top -/
def Top (xs : List Nat) : Prop := xs ≠ [] → xs.getLastD 0 ≠ 0

theorem val_append (B : Nat) (xs ys : List Nat) : val B (xs ++ ys) = val B xs + B ^ xs.length * val B ys := by
  induction xs with
  | nil => simp [val]
  | cons x xs ih => simp only [List.cons_append, val, ih, List.length_cons, Nat.pow_succ]; grind

theorem val_snoc (B : Nat) (xs : List Nat) (d : Nat) : val B (xs ++ [d]) = val B xs + B ^ xs.length * d := by
  rw [val_append]; simp [val]

theorem Dig.tail {B d : Nat} {ds : List Nat} (h : Dig B (d :: ds)) : Dig B ds := fun x hx => h x (by simp [hx])
theorem Dig.head {B d : Nat} {ds : List Nat} (h : Dig B (d :: ds)) : d < B := h d (by simp)
theorem Dig.nil (B : Nat) : Dig B [] := fun x hx => by simp at hx
theorem Dig.cons {B d : Nat} {ds : List Nat} (h : d < B) (k : Dig B ds) : Dig B (d :: ds) := by
  intro x hx; simp at hx; rcases hx with rfl | hx
  · exact h
  · exact k x hx
theorem Dig.append {B : Nat} {xs ys : List Nat} (h : Dig B xs) (k : Dig B ys) : Dig B (xs ++ ys) := by
  intro x hx; simp at hx; rcases hx with hx | hx
  · exact h x hx
  · exact k x hx
theorem Dig.take {B : Nat} {xs : List Nat} (h : Dig B xs) (n : Nat) : Dig B (xs.take n) := fun x hx => h x (List.mem_of_mem_take hx)
theorem Dig.drop {B : Nat} {xs : List Nat} (h : Dig B xs) (n : Nat) : Dig B (xs.drop n) := fun x hx => h x (List.mem_of_mem_drop hx)
theorem Dig.get {B : Nat} {xs : List Nat} (h : Dig B xs) (hB : 0 < B) (i : Nat) : xs[i]?.getD 0 < B := by
  by_cases hi : i < xs.length
  · rw [List.getElem?_eq_getElem hi]; exact h _ (List.getElem_mem hi)
  · rw [List.getElem?_eq_none (by omega)]; exact hB
theorem Dig.set {B : Nat} {xs : List Nat} (h : Dig B xs) (i : Nat) {d : Nat} (hd : d < B) : Dig B (xs.set i d) := by
  intro x hx
  rcases List.mem_or_eq_of_mem_set hx with hx | rfl
  · exact h x hx
  · exact hd
theorem Dig.replicate {B : Nat} (hB : 0 < B) (n : Nat) : Dig B (List.replicate n 0) := by
  intro x hx; have := List.eq_of_mem_replicate hx; omega

theorem val_lt {B : Nat} (hB : 0 < B) {xs : List Nat} (h : Dig B xs) : val B xs < B ^ xs.length := by
  induction xs with
  | nil => simp [val]
  | cons x xs ih =>
    have := ih h.tail
    have h0 := h.head
    simp only [val, List.length_cons, Nat.pow_succ]
    have : B * (val B xs + 1) ≤ B * B ^ xs.length := Nat.mul_le_mul_left _ this
    rw [Nat.mul_add] at this
    rw [Nat.mul_comm (B ^ xs.length) B]
    omega

theorem val_take_succ (B : Nat) (xs : List Nat) (i : Nat) : val B (xs.take (i + 1)) = val B (xs.take i) + B ^ i * (xs[i]?.getD 0) := by
  by_cases hi : i < xs.length
  · rw [List.take_succ_eq_append_getElem hi, val_snoc, List.getElem?_eq_getElem hi]
    simp [List.length_take, Nat.min_eq_left (Nat.le_of_lt hi)]
  · rw [List.take_of_length_le (by omega), List.take_of_length_le (by omega), List.getElem?_eq_none (by omega)]; simp

theorem val_split (B : Nat) (xs : List Nat) (i : Nat) (hi : i ≤ xs.length) : val B xs = val B (xs.take i) + B ^ i * val B (xs.drop i) := by
  conv => lhs; rw [← List.take_append_drop i xs]
  rw [val_append]; simp [List.length_take, Nat.min_eq_left hi]

theorem val_set (B : Nat) (xs : List Nat) (i d : Nat) (hi : i < xs.length) : val B (xs.set i d) + B ^ i * (xs[i]?.getD 0) = val B xs + B ^ i * d := by
  induction xs generalizing i with
  | nil => simp at hi
  | cons x xs ih =>
    cases i with
    | zero => simp [val]; omega
    | succ i =>
      have := ih i (by simpa using hi)
      simp only [List.set_cons_succ, val, List.getElem?_cons_succ, Nat.pow_succ]
      grind

theorem val_replicate (B n : Nat) : val B (List.replicate n 0) = 0 := by
  induction n with
  | zero => rfl
  | succ n ih => simp [List.replicate_succ, val, ih]

theorem val_append_zero (B : Nat) (xs : List Nat) : val B (xs ++ [0]) = val B xs := by rw [val_snoc]; simp

/-- A top that is not 0: at least B to the power of the length less 1. -/
theorem val_ge {B : Nat} {xs : List Nat} (ht : Top xs) (hne : xs ≠ []) : B ^ (xs.length - 1) ≤ val B xs := by
  have ⟨d, hd⟩ : ∃ d, xs = xs.dropLast ++ [d] := ⟨xs.getLast hne, (List.dropLast_concat_getLast hne).symm⟩
  have hd0 : d ≠ 0 := by
    have := ht hne
    rw [hd] at this
    simpa using this
  rw [hd, val_snoc]
  simp only [List.length_append, List.length_dropLast, List.length_cons, List.length_nil]
  have : B ^ (xs.length - 1) * 1 ≤ B ^ (xs.length - 1) * d := Nat.mul_le_mul_left _ (by omega)
  simp only [Nat.zero_add, Nat.add_sub_cancel]
  omega

theorem Top.tail {x : Nat} {xs : List Nat} (h : Top (x :: xs)) : Top xs := by
  intro hne
  have := h (by simp)
  cases xs with
  | nil => exact absurd rfl hne
  | cons y ys => simpa [List.getLastD] using this

theorem val_pos {B : Nat} (hB : 0 < B) {xs : List Nat} (ht : Top xs) (hne : xs ≠ []) : 0 < val B xs :=
  Nat.lt_of_lt_of_le (Nat.pow_pos hB) (val_ge ht hne)

theorem val_zero_iff {B : Nat} (hB : 0 < B) {xs : List Nat} (ht : Top xs) : val B xs = 0 ↔ xs = [] := by
  constructor
  · intro h
    by_cases hne : xs = []
    · exact hne
    · have := val_pos hB ht hne; omega
  · rintro rfl; rfl

/-- Digits with a top that is not 0 are known by their value. -/
theorem val_inj {B : Nat} (hB : 0 < B) : ∀ {xs ys : List Nat}, Dig B xs → Dig B ys → Top xs → Top ys → val B xs = val B ys → xs = ys
  | [], ys, _, _, _, ty, h => by
    have := (val_zero_iff hB ty).1 (by rw [← h]; rfl)
    exact this.symm
  | x :: xs, [], _, _, tx, _, h => by
    have := (val_zero_iff hB tx).1 (by rw [h]; rfl)
    exact this
  | x :: xs, y :: ys, dx, dy, tx, ty, h => by
    simp only [val] at h
    have hx := dx.head
    have hy := dy.head
    have e : x = y := by
      have h1 := congrArg (· % B) h
      simp only [Nat.add_mul_mod_self_left] at h1
      rwa [Nat.mod_eq_of_lt hx, Nat.mod_eq_of_lt hy] at h1
    subst e
    have e2 : val B xs = val B ys := Nat.eq_of_mul_eq_mul_left hB (by omega)
    rw [val_inj hB dx.tail dy.tail tx.tail ty.tail e2]

theorem len_le_of_lt {B : Nat} (hB : 1 < B) {xs : List Nat} (ht : Top xs) {k : Nat} (h : val B xs < B ^ k) : xs.length ≤ k := by
  by_cases hne : xs = []
  · simp [hne]
  · have h1 := val_ge (B := B) ht hne
    have h2 : B ^ (xs.length - 1) < B ^ k := Nat.lt_of_le_of_lt h1 h
    have := (Nat.pow_lt_pow_iff_right hB).1 h2
    omega

/-- of two rows with tops the longer one is the greater -/
theorem val_lt_of_len {B : Nat} (hB : 0 < B) {xs ys : List Nat} (dx : Dig B xs) (ty : Top ys) (h : xs.length < ys.length) : val B xs < val B ys := by
  have h1 := val_lt hB dx
  have h2 := val_ge (B := B) ty (by intro e; simp [e] at h)
  exact Nat.lt_of_lt_of_le h1 (Nat.le_trans (Nat.pow_le_pow_right hB (by omega)) h2)

/-- the first place from the top at which two rows part decides -/
theorem val_lt_of_part {B : Nat} (hB : 0 < B) {xs ys : List Nat} (hl : xs.length = ys.length) (dx : Dig B xs) {i : Nat} (hi : i < xs.length)
    (hab : xs.drop (i + 1) = ys.drop (i + 1)) (hlt : xs[i]?.getD 0 < ys[i]?.getD 0) : val B xs < val B ys := by
  rw [val_split B xs (i + 1) (by omega), val_split B ys (i + 1) (by omega), hab, val_take_succ, val_take_succ]
  have h1 := val_lt hB (dx.take i)
  rw [List.length_take, Nat.min_eq_left (Nat.le_of_lt hi)] at h1
  have h2 : B ^ i * (xs[i]?.getD 0 + 1) ≤ B ^ i * (ys[i]?.getD 0) := Nat.mul_le_mul_left _ hlt
  rw [Nat.mul_add] at h2
  omega

theorem drop_eq_cons (xs : List Nat) (i : Nat) (hi : i < xs.length) : xs.drop i = xs[i]?.getD 0 :: xs.drop (i + 1) := by
  rw [List.drop_eq_getElem_cons hi, List.getElem?_eq_getElem hi]; rfl

theorem eq_of_drop {xs ys : List Nat} (hl : xs.length = ys.length) (i : Nat) (hi : i < xs.length) (h : xs.drop (i + 1) = ys.drop (i + 1)) (he : xs[i]?.getD 0 = ys[i]?.getD 0) :
    xs.drop i = ys.drop i := by
  rw [drop_eq_cons xs i hi, drop_eq_cons ys i (by omega), h, he]

theorem getD_append_zero (xs : List Nat) (i : Nat) : (xs ++ [0])[i]?.getD 0 = xs[i]?.getD 0 := by
  by_cases hi : i < xs.length
  · rw [List.getElem?_append_left hi]
  · rw [List.getElem?_append_right (by omega), List.getElem?_eq_none (l := xs) (by omega)]
    cases h : i - xs.length with
    | zero => rfl
    | succ n => rfl

theorem Top.nil : Top [] := fun h => absurd rfl h

/-- a row cut at n, all zeros from n on, and not 0 just below -/
theorem top_take {xs : List Nat} {n : Nat} (hn : n ≤ xs.length) (h : n = 0 ∨ xs[n - 1]?.getD 0 ≠ 0) : Top (xs.take n) := by
  intro hne
  rcases h with rfl | h
  · simp at hne
  · have hn0 : 0 < n := by
      rcases Nat.eq_zero_or_pos n with rfl | h0
      · simp at hne
      · exact h0
    have e : xs.take n = xs.take (n - 1) ++ [xs[n - 1]?.getD 0] := by
      have h1 : n - 1 < xs.length := by omega
      conv => lhs; rw [show n = (n - 1) + 1 by omega]
      rw [List.take_succ_eq_append_getElem h1, List.getElem?_eq_getElem h1]; rfl
    rw [e]
    simpa using h

theorem val_take_of_zeros {B : Nat} {xs : List Nat} {n : Nat} (h : ∀ j, n ≤ j → xs[j]?.getD 0 = 0) : val B (xs.take n) = val B xs := by
  have key : ∀ m, val B (xs.take (n + m)) = val B (xs.take n) := by
    intro m
    induction m with
    | zero => rfl
    | succ m ih => rw [← Nat.add_assoc, val_take_succ, h (n + m) (by omega), ih]; simp
  by_cases hn : n ≤ xs.length
  · have := key (xs.length - n)
    rw [show n + (xs.length - n) = xs.length by omega, List.take_of_length_le (Nat.le_refl _)] at this
    exact this.symm
  · rw [List.take_of_length_le (by omega)]

end Go.Proofs.Ytdnnjjclklcihaa
