/- Part 3 of the contracts: Leh, Scale, Ten, Rev, Text, Write, DivE. -/
import Derived.RegionTactic
import Derived.BigRegion
import Derived.Laws.IdiomStrings
import Derived.Deep.RegionWith
import Derived.Test.YtbihgllfllkkaaaPart2

/- Lehmer's steps, a product minus a product, a window of 64 bits: the numbers. No function of the program is walked here. -/
set_option linter.unusedVariables false
namespace Go.Proofs.Ytbihgllfllkkaaa
open Go.RowKit

theorem leh_even {A B a b L x y α β γ δ r s : Nat} (hA : A = a * L + x) (hB : B = b * L + y) (hx : x < L) (hy : y < L)
    (ha : a = δ * r + β * s) (hb : b = γ * r + α * s) (hs : δ ≤ s) (hr : s + β + δ ≤ r) (hab : α ≤ β) (hb1 : 1 ≤ β) (hgd : γ ≤ δ) (hdet : α * δ = γ * β + 1) :
    ∃ A' B', α * A = β * B + A' ∧ δ * B = γ * A + B' ∧ B' < A' ∧ A = δ * A' + β * B' ∧ B = γ * A' + α * B' := by
  have e1 : α * a = β * b + r := by subst ha hb; grind
  have e2 : δ * b = γ * a + s := by subst ha hb; grind
  have i1 : β * y ≤ r * L := Nat.mul_le_mul (by omega) (by omega)
  have i2 : γ * x ≤ s * L := Nat.mul_le_mul (by omega) (by omega)
  have f1 : α * A = β * B + (r * L + α * x - β * y) := by
    have : α * A + β * y = β * B + (r * L + α * x) := by subst hA hB; grind
    omega
  have f2 : δ * B = γ * A + (s * L + δ * y - γ * x) := by
    have : δ * B + γ * x = γ * A + (s * L + δ * y) := by subst hA hB; grind
    omega
  refine ⟨_, _, f1, f2, ?_, ?_, ?_⟩
  · have h1 : (s + β + δ) * L ≤ r * L := Nat.mul_le_mul_right _ hr
    have h2 : (β + δ) * (y + 1) ≤ (β + δ) * L := Nat.mul_le_mul_left _ hy
    have h3 : (s + β + δ) * L = s * L + (β + δ) * L := by grind
    have h4 : (β + δ) * (y + 1) = β * y + δ * y + (β + δ) := by grind
    omega
  · generalize r * L + α * x - β * y = P at *
    generalize s * L + δ * y - γ * x = Q at *
    clear hA hB ha hb e1 e2 i1 i2
    grind
  · generalize r * L + α * x - β * y = P at *
    generalize s * L + δ * y - γ * x = Q at *
    clear hA hB ha hb e1 e2 i1 i2
    grind

theorem leh_odd {A B a b L x y α β γ δ r s : Nat} (hA : A = a * L + x) (hB : B = b * L + y) (hx : x < L) (hy : y < L)
    (ha : a = δ * r + β * s) (hb : b = γ * r + α * s) (hs : δ ≤ s) (hr : s + β + δ ≤ r) (hab : α ≤ β) (hb1 : 1 ≤ β) (hgd : γ ≤ δ) (hdet : α * δ + 1 = γ * β) :
    ∃ A' B', β * B = α * A + A' ∧ γ * A = δ * B + B' ∧ B' < A' ∧ A = δ * A' + β * B' ∧ B = γ * A' + α * B' := by
  have e1 : β * b = α * a + r := by subst ha hb; grind
  have e2 : γ * a = δ * b + s := by subst ha hb; grind
  have i1 : α * x ≤ r * L := Nat.mul_le_mul (by omega) (by omega)
  have i2 : δ * y ≤ s * L := Nat.mul_le_mul (by omega) (by omega)
  have f1 : β * B = α * A + (r * L + β * y - α * x) := by
    have : β * B + α * x = α * A + (r * L + β * y) := by subst hA hB; grind
    omega
  have f2 : γ * A = δ * B + (s * L + γ * x - δ * y) := by
    have : γ * A + δ * y = δ * B + (s * L + γ * x) := by subst hA hB; grind
    omega
  refine ⟨_, _, f1, f2, ?_, ?_, ?_⟩
  · have h1 : (s + β + δ) * L ≤ r * L := Nat.mul_le_mul_right _ hr
    have h2 : (β + δ) * (x + 1) ≤ (β + δ) * L := Nat.mul_le_mul_left _ hx
    have h3 : (s + β + δ) * L = s * L + (β + δ) * L := by grind
    have h4 : (β + δ) * (x + 1) = β * x + δ * x + (β + δ) := by grind
    have h5 : α * x ≤ β * x := Nat.mul_le_mul_right _ hab
    have h6 : γ * x ≤ δ * x := Nat.mul_le_mul_right _ hgd
    omega
  · generalize r * L + β * y - α * x = P at *
    generalize s * L + γ * x - δ * y = Q at *
    clear hA hB ha hb e1 e2 i1 i2
    grind
  · generalize r * L + β * y - α * x = P at *
    generalize s * L + γ * x - δ * y = Q at *
    clear hA hB ha hb e1 e2 i1 i2
    grind

/-- what foresee returns for the highest bits of two numbers -/
def Fore (a b α β γ δ : Nat) (odd : Bool) : Prop :=
  ∃ r s, a = δ * r + β * s ∧ b = γ * r + α * s ∧ δ ≤ s ∧ s + β + δ ≤ r ∧ α ≤ β ∧ 1 ≤ β ∧ β ≤ δ ∧ γ ≤ δ ∧ 1 ≤ γ ∧ δ < 4294967296 ∧ (odd = false → α * δ = γ * β + 1) ∧ (odd = true → α * δ + 1 = γ * β)

/-- what the steps make of the numbers themselves -/
structure Stepped (A B α β γ δ : Nat) (odd : Bool) (A' B' : Nat) : Prop where
  even : odd = false → α * A = β * B + A' ∧ δ * B = γ * A + B'
  odd : odd = true → β * B = α * A + A' ∧ γ * A = δ * B + B'
  lt : B' < A'
  backA : A = δ * A' + β * B'
  backB : B = γ * A' + α * B'

theorem Fore.stepped {A B L α β γ δ : Nat} {odd : Bool} (hL : 0 < L) (h : Fore (A / L) (B / L) α β γ δ odd) : ∃ A' B', Stepped A B α β γ δ odd A' B' := by
  obtain ⟨r, s, h1, h2, h3, h4, h5, h6, h7, h8, h9, h10, he, ho⟩ := h
  have hA : A = A / L * L + A % L := (Nat.div_add_mod' A L).symm
  have hB : B = B / L * L + B % L := (Nat.div_add_mod' B L).symm
  have hx := Nat.mod_lt A hL
  have hy := Nat.mod_lt B hL
  cases odd with
  | false =>
    obtain ⟨A', B', k1, k2, k3, k4, k5⟩ := leh_even hA hB hx hy h1 h2 h3 h4 h5 h6 h8 (he rfl)
    exact ⟨A', B', ⟨fun _ => ⟨k1, k2⟩, fun h => (by cases h), k3, k4, k5⟩⟩
  | true =>
    obtain ⟨A', B', k1, k2, k3, k4, k5⟩ := leh_odd hA hB hx hy h1 h2 h3 h4 h5 h6 h8 (ho rfl)
    exact ⟨A', B', ⟨fun h => (by cases h), fun _ => ⟨k1, k2⟩, k3, k4, k5⟩⟩

theorem Stepped.gcd {A B α β γ δ A' B' : Nat} {odd : Bool} (h : Stepped A B α β γ δ odd A' B') : Nat.gcd A' B' = Nat.gcd A B := by
  apply Nat.dvd_antisymm
  · apply Nat.dvd_gcd
    · rw [h.backA]; exact Nat.dvd_add (Nat.dvd_trans (Nat.gcd_dvd_left _ _) (Nat.dvd_mul_left _ _)) (Nat.dvd_trans (Nat.gcd_dvd_right _ _) (Nat.dvd_mul_left _ _))
    · rw [h.backB]; exact Nat.dvd_add (Nat.dvd_trans (Nat.gcd_dvd_left _ _) (Nat.dvd_mul_left _ _)) (Nat.dvd_trans (Nat.gcd_dvd_right _ _) (Nat.dvd_mul_left _ _))
  · have dA : ∀ k, Nat.gcd A B ∣ k * A := fun k => Nat.dvd_trans (Nat.gcd_dvd_left _ _) (Nat.dvd_mul_left _ _)
    have dB : ∀ k, Nat.gcd A B ∣ k * B := fun k => Nat.dvd_trans (Nat.gcd_dvd_right _ _) (Nat.dvd_mul_left _ _)
    cases odd with
    | false =>
      obtain ⟨h1, h2⟩ := h.even rfl
      apply Nat.dvd_gcd
      · exact (Nat.dvd_add_right (dB β)).1 (h1 ▸ dA α)
      · exact (Nat.dvd_add_right (dA γ)).1 (h2 ▸ dB δ)
    | true =>
      obtain ⟨h1, h2⟩ := h.odd rfl
      apply Nat.dvd_gcd
      · exact (Nat.dvd_add_right (dA α)).1 (h1 ▸ dB β)
      · exact (Nat.dvd_add_right (dB δ)).1 (h2 ▸ dA γ)

theorem Stepped.le {A B α β γ δ A' B' : Nat} {odd : Bool} (h : Stepped A B α β γ δ odd A' B') (hd : 1 ≤ δ) (hg : 1 ≤ γ) (hb : 1 ≤ β) : A' ≤ A ∧ B' ≤ A ∧ A' + B' < A + B := by
  have h1 : 1 * A' ≤ δ * A' := Nat.mul_le_mul_right _ hd
  have h2 : 1 * A' ≤ γ * A' := Nat.mul_le_mul_right _ hg
  have h3 : 1 * B' ≤ β * B' := Nat.mul_le_mul_right _ hb
  have := h.backA
  have := h.backB
  have := h.lt
  omega

/-- the state of foresee's loop -/
def ForeInv (A B a b na nb la lb : Nat) (odd : Bool) : Prop :=
  A = lb * a + nb * b ∧ B = la * a + na * b ∧ b ≤ a ∧ la ≤ lb ∧ 1 ≤ lb ∧ nb ≤ lb ∧ ((nb = 0 ∧ na = 1 ∧ la = 0 ∧ lb = 1) ∨ (1 ≤ nb ∧ na ≤ nb ∧ 1 ≤ la)) ∧ (odd = true → na * lb = la * nb + 1) ∧ (odd = false → na * lb + 1 = la * nb)

theorem ForeInv.start {a b : Nat} (h : b ≤ a) : ForeInv a b a b 1 0 0 1 true := by
  refine ⟨by omega, by omega, h, by omega, by omega, by omega, .inl ⟨rfl, rfl, rfl, rfl⟩, fun _ => by omega, fun h => by cases h⟩

theorem ForeInv.fore {A B a b na nb la lb : Nat} {odd : Bool} (h : ForeInv A B a b na nb la lb odd) (hA : A < 18446744073709551616) (h1 : lb ≤ b) (h2 : nb + lb ≤ a - b) (hn : nb ≠ 0) :
    Fore A B na nb la lb (!odd) := by
  obtain ⟨e1, e2, hba, hl, hl1, hnl, hc, ho, he⟩ := h
  rcases hc with hc | ⟨hn1, hna, hla⟩
  · omega
  have hlt : lb < 4294967296 := by
    rcases Nat.lt_or_ge lb 4294967296 with h | h
    · exact h
    · have : 4294967296 * 4294967296 ≤ lb * a := Nat.mul_le_mul h (by omega)
      omega
  refine ⟨a, b, e1, e2, h1, by omega, hna, hn1, hnl, hl, hla, hlt, fun h => ?_, fun h => ?_⟩
  · have := ho (by simpa using h); omega
  · have := he (by simpa using h); omega

theorem ForeInv.next {A B a b na nb la lb : Nat} {odd : Bool} (h : ForeInv A B a b na nb la lb odd) (hb : 0 < b) :
    ForeInv A B b (a % b) la lb (na + a / b * la) (nb + a / b * lb) (!odd) := by
  obtain ⟨e1, e2, hba, hl, hl1, hnl, hc, ho, he⟩ := h
  have hq : 1 ≤ a / b := (Nat.one_le_div_iff hb).2 hba
  have hm := Nat.div_add_mod a b
  have hlt := Nat.mod_lt a hb
  generalize a / b = q at *
  generalize a % b = r at *
  have h3 : 1 * lb ≤ q * lb := Nat.mul_le_mul_right _ hq
  have h4 : q * la ≤ q * lb := Nat.mul_le_mul_left _ hl
  refine ⟨by subst hm; grind, by subst hm; grind, by omega, ?_, by omega, by omega, ?_, fun h => ?_, fun h => ?_⟩
  · rcases hc with ⟨rfl, rfl, rfl, rfl⟩ | hc
    · omega
    · omega
  · right
    rcases hc with ⟨rfl, rfl, rfl, rfl⟩ | hc
    · omega
    · have h5 : 1 * la ≤ q * la := Nat.mul_le_mul_right _ hq
      omega
  · have := he (by simpa using h)
    grind
  · have := ho (by simpa using h)
    grind

/-- nothing wraps around -/
theorem ForeInv.bounds {A B a b na nb la lb : Nat} {odd : Bool} (h : ForeInv A B a b na nb la lb odd) (h1 : lb ≤ b) :
    nb + lb ≤ A ∧ nb + a / b * lb ≤ A ∧ na + a / b * la ≤ A ∧ a / b * lb ≤ A ∧ a / b * la ≤ A ∧ a ≤ A ∧ lb ≤ A ∧ la ≤ A ∧ na ≤ A ∧ nb ≤ A := by
  obtain ⟨e1, e2, hba, hl, hl1, hnl, hc, ho, he⟩ := h
  have hb : 0 < b := by omega
  have hm : b * (a / b) ≤ a := Nat.mul_div_le a b
  generalize a / b = q at *
  have k1 : lb * 1 ≤ lb * a := Nat.mul_le_mul_left _ (by omega)
  have k2 : nb * 1 ≤ nb * b := Nat.mul_le_mul_left _ (by omega)
  have k3 : lb * (b * q) ≤ lb * a := Nat.mul_le_mul_left _ hm
  have k4 : (q * lb) * 1 ≤ (q * lb) * b := Nat.mul_le_mul_left _ (by omega)
  have k5 : lb * (b * q) = (q * lb) * b := by grind
  have k6 : q * la ≤ q * lb := Nat.mul_le_mul_left _ hl
  have k7 : 1 * a ≤ lb * a := Nat.mul_le_mul_right _ hl1
  refine ⟨by omega, by omega, ?_, by omega, by omega, by omega, by omega, by omega, ?_, by omega⟩
  · rcases hc with ⟨rfl, rfl, rfl, rfl⟩ | hc <;> omega
  · rcases hc with hc | hc <;> omega

theorem comb_step {B : Nat} {zs xs ys : List Nat} {i c d w f g nw w' : Nat} (hi : i < zs.length) (h0 : zs[i]?.getD 0 = 0)
    (hv : val B zs + c * B ^ i + g * val B (ys.take i) = f * val B (xs.take i) + (d + w) * B ^ i)
    (hn : nw + (d + ys[i]?.getD 0 * g) % B + w = (c + xs[i]?.getD 0 * f) % B + w' * B) :
    val B (zs.set i nw) + (c + xs[i]?.getD 0 * f) / B * B ^ (i + 1) + g * val B (ys.take (i + 1)) = f * val B (xs.take (i + 1)) + ((d + ys[i]?.getD 0 * g) / B + w') * B ^ (i + 1) := by
  have h1 := val_set B zs i nw hi
  have h2 := Nat.mod_add_div (c + xs[i]?.getD 0 * f) B
  have h3 := Nat.mod_add_div (d + ys[i]?.getD 0 * g) B
  rw [h0] at h1
  rw [val_take_succ, val_take_succ, Nat.pow_succ]
  generalize (c + xs[i]?.getD 0 * f) % B = c0 at *
  generalize (c + xs[i]?.getD 0 * f) / B = c1 at *
  generalize (d + ys[i]?.getD 0 * g) % B = d0 at *
  generalize (d + ys[i]?.getD 0 * g) / B = d1 at *
  generalize val B (zs.set i nw) = v at *
  generalize val B (xs.take i) = vx at *
  generalize val B (ys.take i) = vy at *
  generalize xs[i]?.getD 0 = x at *
  generalize ys[i]?.getD 0 = y at *
  generalize B ^ i = p at *
  have e : (nw + d0 + w) * p = (c0 + w' * B) * p := by rw [hn]
  have e2 : (c0 + B * c1) * p = (c + x * f) * p := by rw [h2]
  have e3 : (d0 + B * d1) * p = (d + y * g) * p := by rw [h3]
  grind

theorem comb_carry {B c x f : Nat} (hB : 0 < B) (hc : c ≤ f) (hx : x < B) : (c + x * f) / B ≤ f := by
  have : (x + 1) * f ≤ B * f := Nat.mul_le_mul_right _ hx
  rw [Nat.add_mul] at this
  have h2 := Nat.div_le_div_right (c := B) (show c + x * f ≤ B * f by omega)
  rwa [Nat.mul_div_cancel_left _ hB] at h2

theorem comb_end {P v c X Y f g e D : Nat} (hv : v + c * P + g * Y = f * X + e * P) (hD : f * X = g * Y + D) (hD2 : D < P) (hv2 : v < P) : v = D := by
  have h : v + c * P = D + e * P := by omega
  have h1 := congrArg (· % P) h
  simp only [Nat.add_mul_mod_self_right] at h1
  rwa [Nat.mod_eq_of_lt hv2, Nat.mod_eq_of_lt hD2] at h1

theorem pow64_split {s : Nat} (hs : s ≤ 64) : 2 ^ s * 2 ^ (64 - s) = 18446744073709551616 := by
  rw [← Nat.pow_add, show s + (64 - s) = 64 by omega]

theorem win_num {x0 x1 x2 R s : Nat} (hs : s < 32) :
    (x0 + 4294967296 * (x1 + 4294967296 * (x2 + 4294967296 * R))) / 2 ^ s % 18446744073709551616 = (x0 + x1 * 4294967296) / 2 ^ s + x2 % 2 ^ s * 2 ^ (64 - s) ∨ 18446744073709551616 ≤ x0 + x1 * 4294967296 := by
  by_cases hp : 18446744073709551616 ≤ x0 + x1 * 4294967296
  · exact .inr hp
  · left
    have h64 := pow64_split (show s ≤ 64 by omega)
    have h32 : 2 ^ s * 2 ^ (32 - s) = 4294967296 := by rw [← Nat.pow_add, show s + (32 - s) = 32 by omega]
    have hm : 0 < 2 ^ s := Nat.pow_pos (by decide)
    generalize 2 ^ (64 - s) = k at *
    generalize 2 ^ (32 - s) = j at *
    generalize 2 ^ s = m at *
    have e : x0 + 4294967296 * (x1 + 4294967296 * (x2 + 4294967296 * R)) = (x0 + x1 * 4294967296) + m * (k * (x2 + m * (j * R))) := by
      have : m * (k * (x2 + m * (j * R))) = (m * k) * (x2 + (m * j) * R) := by grind
      rw [this, h64, h32]
      omega
    rw [e, Nat.add_mul_div_left _ _ hm]
    have hdm := Nat.div_add_mod x2 m
    have e2 : k * (x2 + m * (j * R)) = k * (x2 % m) + 18446744073709551616 * (x2 / m + j * R) := by
      rw [← h64]
      conv => lhs; rw [← hdm]
      grind
    have hlt : (x0 + x1 * 4294967296) / m < k := by
      rw [Nat.div_lt_iff_lt_mul hm, Nat.mul_comm k m, h64]; omega
    have hr := Nat.mod_lt x2 hm
    have hb : k * (x2 % m) + k ≤ k * m := by
      have : k * (x2 % m + 1) ≤ k * m := Nat.mul_le_mul_left _ hr
      rwa [Nat.mul_add, Nat.mul_one] at this
    rw [Nat.mul_comm k m, h64] at hb
    rw [e2, ← Nat.add_assoc, Nat.add_mul_mod_self_left, Nat.mod_eq_of_lt (by omega), Nat.mul_comm k]

theorem val_at_split (xs : List Nat) (i : Nat) : val B32 (xs.drop i) = xs[i]?.getD 0 + B32 * val B32 (xs.drop (i + 1)) := by
  rcases Nat.lt_or_ge i xs.length with h | h
  · rw [drop_eq_cons xs i h, val_cons]
  · rw [List.drop_of_length_le h, List.drop_of_length_le (by omega), List.getElem?_eq_none h]; rfl

theorem val_drop_any (xs : List Nat) (hd : Dig B32 xs) (i : Nat) : val B32 xs / B32 ^ i = val B32 (xs.drop i) := by
  rcases Nat.lt_or_ge xs.length i with h | h
  · rw [List.drop_of_length_le (by omega)]
    have h1 := val_lt B32_pos hd
    have h2 : B32 ^ xs.length ≤ B32 ^ i := Nat.pow_le_pow_right B32_pos (by omega)
    exact Nat.div_eq_of_lt (by omega)
  · exact val_drop_div xs hd i h

/-- the window of 64 bits from the bit at 32 i + s on -/
theorem win_val {xs : List Nat} (hd : Dig B32 xs) (i s : Nat) (hs : s < 32) :
    val B32 xs / 2 ^ (32 * i + s) % 18446744073709551616 = (xs[i]?.getD 0 + xs[i + 1]?.getD 0 * 4294967296) / 2 ^ s + xs[i + 2]?.getD 0 % 2 ^ s * 2 ^ (64 - s) := by
  have e : 2 ^ (32 * i + s) = B32 ^ i * 2 ^ s := by
    rw [Nat.pow_add, Nat.pow_mul]; rfl
  rw [e, ← Nat.div_div_eq_div_mul, val_drop_any xs hd, val_at_split xs i, val_at_split xs (i + 1), val_at_split xs (i + 1 + 1)]
  have h0 := hd.get B32_pos i
  have h1 := hd.get B32_pos (i + 1)
  rw [B32_eq] at *
  rcases win_num (x0 := xs[i]?.getD 0) (x1 := xs[i + 1]?.getD 0) (x2 := xs[i + 2]?.getD 0) (R := val 4294967296 (xs.drop (i + 1 + 1 + 1))) hs with h | h
  · exact h
  · omega
end Go.Proofs.Ytbihgllfllkkaaa

/- scale, powerOfTen. -/
set_option linter.unusedVariables false
namespace Go.Proofs.Ytbihgllfllkkaaa
open Go.RowKit

/-- The slice (v, n) starts at the head of a block of the call's own (from block base on) whose first cells are the numbers xs; it may be written and appended to. -/
def Own (k : IntKind) (w : World) (base e : Nat) (v : Value) (n : Nat) (xs : List Nat) : Prop := w.ownsRow base e 1 v n ((xs.map fun z => Value.int k ((z : Nat) : Int))) 

theorem Own.len {k : IntKind} {w : World} {base e n : Nat} {v : Value} {xs : List Nat} (h : Own k w base e v n xs) : xs.length = n := by
  have := h.1
  simpa using this

/-- It is a nil slice, or a slice whose block is known. -/
theorem Own.cases {k : IntKind} {w : World} {base e n : Nat} {v : Value} {xs : List Nat} (h : Own k w base e v n xs) :
    (v = .slice none 0 0 ∧ n = 0 ∧ xs = []) ∨ ∃ g cap, v = .slice (some ⟨g, 0, none⟩) n cap ∧ base ≤ g ∧ g < w.heap.size ∧ n ≤ cap ∧ cap ≤ maxLen ∧ ∀ i, i < n → w.cell? ⟨g, i, none⟩ = some (.int k ((xs[i]?.getD 0 : Nat) : Int)) ∧ w.frozen? ⟨g, i, none⟩ = false := by
  have hl := h.len
  rcases h.2 with ⟨rfl, rfl⟩ | ⟨g, cap, cur, rfl, hb, hg, hnc, hcm, hcs, htake⟩
  · exact .inl ⟨rfl, rfl, List.eq_nil_of_length_eq_zero hl⟩
  · refine .inr ⟨g, cap, rfl, hb, (Array.getElem?_eq_some_iff.1 hg).1, hnc, hcm, fun i hi => ⟨?_, ?_⟩⟩
    · have := h.cellAt i (by omega)
      rw [this]
      simp [List.getElem?_eq_getElem (show i < xs.length by omega)]
    · exact h.frozenAt i

theorem Own.sl {k : IntKind} {w : World} {base e n : Nat} {v : Value} {xs : List Nat} (h : Own k w base e v n xs) : ∃ ao cap, v = .slice ao n cap ∧ n ≤ cap ∧ cap ≤ maxLen ∧ Sl k w ao n xs := by
  have hl := h.len
  rcases h.cases with ⟨rfl, rfl, rfl⟩ | ⟨g, cap, rfl, _, _, h1, h2, h3⟩
  · exact ⟨none, 0, rfl, Nat.le_refl _, Nat.zero_le _, Sl.nil _ _ _⟩
  · exact ⟨_, cap, rfl, h1, h2, hl, g, 0, fun _ => rfl, fun i hi => by rw [Nat.zero_add]; exact (h3 i hi).1⟩

theorem Own.nil (k : IntKind) (w : World) (base e : Nat) : Own k w base e (.slice none 0 0) 0 [] := World.ownsRow_nil _ _ _ _

theorem Own.kept {k : IntKind} {w w' : World} {base e n : Nat} {v : Value} {xs : List Nat} (h : Own k w base e v n xs) {row : Option Nat} (hg : w.grownBy w' row) (hne : v.ownBlock = none ∨ v.ownBlock ≠ row) : Own k w' base e v n xs :=
  World.ownsRow.kept h hg hne

theorem Own.stored {k : IntKind} {w : World} {base e g n cap : Nat} {xs : List Nat} (h : Own k w base e (.slice (some ⟨g, 0, none⟩) n cap) n xs) (i x : Nat) (hi : i < n) (V : Int) (hV : V = (x : Int)) :
    Own k (w.setCell ⟨g, i, none⟩ (.int k V)) base e (.slice (some ⟨g, 0, none⟩) n cap) n (xs.set i x) := by
  subst hV
  have := (World.ownsRow.stored h i (.int k (x : Int))).1
  unfold Own
  rw [List.map_set]
  exact this

theorem Own.storedBy {k : IntKind} {w : World} {base e g n cap : Nat} {xs : List Nat} (h : Own k w base e (.slice (some ⟨g, 0, none⟩) n cap) n xs) (i : Nat) (u : Value) : w.grownBy (w.setCell ⟨g, i, none⟩ u) (some g) :=
  (World.ownsRow.stored h i u).2

theorem Own.ge {k : IntKind} {w : World} {base e n : Nat} {v : Value} {xs : List Nat} (h : Own k w base e v n xs) : ∀ b, v.ownBlock = some b → base ≤ b := fun b hb => (World.ownsRow.lt h b hb).1

/-- 'append(s, x)' of one element, s the call's own -/
theorem wpList_app {P : Program} {w : World} {ops : Array Oper} {rest : List Oper} {o : Oper} {a : Act} {Q : Exit → Act → World → Prop} (hgd : o.guard = none) (s x : Operand) (t : TypeId)
    (ho : o.op = .call { callee := .builtin .append, args := #[s, x], argTypes := #[t, t] }) (base e : Nat) (k : IntKind) (bytes : Nat)
    (h1 : P.underlying t = some (.slice e)) (h2 : (P.info? e).map (fun i => (i.zero, i.size, i.bytes)) = some (some (.int k 0), 1, bytes))
    (v : Value) (n : Nat) (xs : List Nat) (hs : a.eval s = v) (hown : Own k w base e v n xs) (V : Int) (xx : Nat) (hx : a.eval x = .slice (some ⟨w.heap.size, 0, none⟩) 1 1) (hV : V = (xx : Int))
    (hn : n ≤ 9000000000000) (hby : bytes ≤ 8) (hbase : base ≤ w.heap.size)
    (h : ∀ v' w', Own k w' base e v' (n + 1) (xs ++ [xx]) → Below base w w' → wpList P ops Q rest (a.put o.dst v') w') :
    wpList P ops Q (o :: rest) a (w.alloc (.cells #[.int k V] e)) := by
  subst hV
  obtain ⟨i0, hi, hz0, hz1, hz2⟩ := info_parts h2
  have hown' : (w.alloc (.cells #[.int k (xx : Int)] e)).ownsRow base e 1 v n (xs.map fun z => Value.int k ((z : Nat) : Int)) := World.ownsRow.alloc hown _
  have hsz : (1 : Nat) ≤ bytes ∨ bytes = 0 := by omega
  have hb : (n + 1) * bytes ≤ 140737488355328 := by
    have : (n + 1) * bytes ≤ (n + 1) * 8 := Nat.mul_le_mul_left _ hby
    omega
  refine wpList_append_own _ hgd s x t ho base e i0 (.int k 0) 1 bytes h1 hi hz0 hz1 hz2 rfl (by decide) v n _ hs hown' ⟨w.heap.size, 0, none⟩ 1 1 [.int k (xx : Int)] hx rfl ?_ ?_ (by unfold maxLen; omega) hb (by simp; omega) ?_
  · intro j u hj
    match j, hj with
    | 0, hj => simp at hj; subst hj; simp [Addr.add]
  · intro u hu; simp at hu; subst hu; rfl
  · intro v' w' hr hg _
    refine h v' w' ?_ ?_
    · unfold Own
      rw [List.map_append]
      exact hr
    · exact ((Below.refl base w).alloc hbase _).grown hg (by simp; omega) hown.ge

/-- the same, with what it writes -/
theorem wpList_app2 {P : Program} {w : World} {ops : Array Oper} {rest : List Oper} {o : Oper} {a : Act} {Q : Exit → Act → World → Prop} (hgd : o.guard = none) (s x : Operand) (t : TypeId)
    (ho : o.op = .call { callee := .builtin .append, args := #[s, x], argTypes := #[t, t] }) (base e : Nat) (k : IntKind) (bytes : Nat)
    (h1 : P.underlying t = some (.slice e)) (h2 : (P.info? e).map (fun i => (i.zero, i.size, i.bytes)) = some (some (.int k 0), 1, bytes))
    (v : Value) (n : Nat) (xs : List Nat) (hs : a.eval s = v) (hown : Own k w base e v n xs) (V : Int) (xx : Nat) (hx : a.eval x = .slice (some ⟨w.heap.size, 0, none⟩) 1 1) (hV : V = (xx : Int))
    (hn : n ≤ 9000000000000) (hby : bytes ≤ 8) (hbase : base ≤ w.heap.size)
    (h : ∀ v' w', Own k w' base e v' (n + 1) (xs ++ [xx]) → Below base w w' → (w.alloc (.cells #[.int k V] e)).grownBy w' v.ownBlock → wpList P ops Q rest (a.put o.dst v') w') :
    wpList P ops Q (o :: rest) a (w.alloc (.cells #[.int k V] e)) := by
  subst hV
  obtain ⟨i0, hi, hz0, hz1, hz2⟩ := info_parts h2
  have hown' : (w.alloc (.cells #[.int k (xx : Int)] e)).ownsRow base e 1 v n (xs.map fun z => Value.int k ((z : Nat) : Int)) := World.ownsRow.alloc hown _
  have hsz : (1 : Nat) ≤ bytes ∨ bytes = 0 := by omega
  have hb : (n + 1) * bytes ≤ 140737488355328 := by
    have : (n + 1) * bytes ≤ (n + 1) * 8 := Nat.mul_le_mul_left _ hby
    omega
  refine wpList_append_own _ hgd s x t ho base e i0 (.int k 0) 1 bytes h1 hi hz0 hz1 hz2 rfl (by decide) v n _ hs hown' ⟨w.heap.size, 0, none⟩ 1 1 [.int k (xx : Int)] hx rfl ?_ ?_ (by unfold maxLen; omega) hb (by simp; omega) ?_
  · intro j u hj
    match j, hj with
    | 0, hj => simp at hj; subst hj; simp [Addr.add]
  · intro u hu; simp at hu; subst hu; rfl
  · intro v' w' hr hg _
    refine h v' w' ?_ ?_ hg
    · unfold Own
      rw [List.map_append]
      exact hr
    · exact ((Below.refl base w).alloc hbase _).grown hg (by simp; omega) hown.ge

theorem Sl.grown {k : IntKind} {w w' : World} {ao : Option Addr} {len : Nat} {xs : List Nat} {row : Option Nat} (h : Sl k w ao len xs) (hg : w.grownBy w' row) (hne : ∀ b, 0 < len → ao = some b → some b.block ≠ row) : Sl k w' ao len xs := by
  obtain ⟨h1, b, off, h2, h3⟩ := h
  exact ⟨h1, b, off, h2, fun i hi => hg.cell (h3 i hi) (hne ⟨b, off, none⟩ (by omega) (h2 (by omega)))⟩

theorem top_of_ge {B : Nat} (hB : 0 < B) {xs : List Nat} (hd : Dig B xs) (h : xs ≠ [] → B ^ (xs.length - 1) ≤ val B xs) : Top xs := by
  intro hne h0
  have h1 := h hne
  have ⟨d, hdl⟩ : ∃ d, xs = xs.dropLast ++ [d] := ⟨xs.getLast hne, (List.dropLast_concat_getLast hne).symm⟩
  have hd0 : d = 0 := by rw [hdl] at h0; simpa using h0
  have h2 := val_lt hB (xs := xs.dropLast) (fun x hx => hd x (List.dropLast_subset _ hx))
  rw [List.length_dropLast] at h2
  rw [hdl, val_snoc, hd0] at h1
  simp only [Nat.mul_zero, Nat.add_zero, List.length_append, List.length_dropLast, List.length_cons, List.length_nil, Nat.zero_add, Nat.add_sub_cancel] at h1
  omega

theorem scale_step {B : Nat} {zs xs : List Nat} {i c f va : Nat} (h : val B (zs.take i) + c * B ^ i = f * val B (xs.take i) + va) (hi : i < zs.length) :
    val B ((zs.set i ((c + xs[i]?.getD 0 * f) % B)).take (i + 1)) + (c + xs[i]?.getD 0 * f) / B * B ^ (i + 1) = f * val B (xs.take (i + 1)) + va := by
  have h2 := Nat.mod_add_div (c + xs[i]?.getD 0 * f) B
  rw [val_take_succ, val_take_succ, List.take_set_of_le (Nat.le_refl _), List.getElem?_set_self hi]
  simp only [Option.getD_some]
  generalize (c + xs[i]?.getD 0 * f) % B = d at *
  generalize (c + xs[i]?.getD 0 * f) / B = c' at *
  generalize xs[i]?.getD 0 = x at *
  rw [Nat.pow_succ]
  generalize B ^ i = p at *
  grind

def ScaleRel (base e g n cap f ex : Nat) (xs : List Nat) (W : World) (cv iv : Value) (wr : World) : Prop :=
  ∃ (c i : Nat) (zs : List Nat), cv = .int .u64 (c : Int) ∧ iv = .int .i64 (i : Int) ∧ Own .u32 wr base e (.slice (some ⟨g, 0, none⟩) n cap) n zs ∧ Dig B32 zs ∧ i ≤ n ∧ c < 4294967296 ∧
    val B32 (zs.take i) + c * B32 ^ i = f * val B32 (xs.take i) + ex ∧ zs.drop i = xs.drop i ∧ Below base W wr

def ScalePost (base e n v : Nat) (W : World) (en : Ending) (w' : World) : Prop :=
  ∃ v' n' xs', en = .returned v' ∧ Own .u32 w' base e v' n' xs' ∧ Dig B32 xs' ∧ n' ≤ n + 1 ∧ val B32 xs' = v ∧ Top xs' ∧ Below base W w'

theorem scale_rel {base e g n cap f ex i c x : Nat} {xs zs : List Nat} {W wr : World} (hB : Own .u32 wr base e (.slice (some ⟨g, 0, none⟩) n cap) n zs) (hd : Dig B32 zs) (hi : i < n) (hc : c < 4294967296) (hf : f < 4294967296)
    (hx : x = xs[i]?.getD 0) (hxb : x < 4294967296) (hv : val B32 (zs.take i) + c * B32 ^ i = f * val B32 (xs.take i) + ex) (ht : zs.drop i = xs.drop i) (hb : Below base W wr) (hbg : base ≤ g) (hxl : xs.length = n)
    (t : Nat) (htt : t = x * f) :
    ScaleRel base e g n cap f ex xs W (.int .u64 (((c : Int) + (t : Int)) / 4294967296)) (.int .i64 ((i : Int) + 1)) (wr.setCell ⟨g, i, none⟩ (.int .u32 (((c : Int) + (t : Int)) % 4294967296))) := by
  have hl := hB.len
  have hs := scale_step (B := B32) (zs := zs) (xs := xs) (f := f) hv (by omega)
  rw [← hx, ← htt] at hs
  have hbound : c + t < 18446744073709551616 := by
    have : x * f ≤ 4294967295 * 4294967295 := Nat.mul_le_mul (by omega) (by omega)
    omega
  refine ⟨(c + t) / B32, i + 1, zs.set i ((c + t) % B32), congrArg (Value.int _) (by rw [B32_eq]; omega), by go_num, hB.stored _ _ hi _ (by rw [B32_eq]; omega), hd.set _ (Nat.mod_lt _ B32_pos), by omega, by rw [B32_eq]; omega, hs, ?_, hb.setCell hbg _⟩
  rw [List.drop_set_of_lt (by omega)]
  have := congrArg List.tail ht
  rwa [List.tail_drop, List.tail_drop] at this

theorem scale_top {xs zs : List Nat} {f ex n : Nat} (hf : 0 < f) (ht : Top xs) (hl : xs.length = n) (hzl : zs.length = n) (hd : Dig B32 zs) (hv : val B32 zs = f * val B32 xs + ex) : Top zs := by
  refine top_of_ge B32_pos hd (fun hne => ?_)
  have h1 := val_ge (B := B32) ht (by intro e; rw [e] at hl; simp at hl; rw [← hl] at hzl; exact hne (List.eq_nil_of_length_eq_zero hzl))
  rw [hzl, hv]
  rw [hl] at h1
  have := Nat.mul_le_mul_right (val B32 xs) hf
  omega

set_option maxHeartbeats 1000000 in
theorem scale_own (base g n cap : Nat) (xs : List Nat) (F E : Int) (f ex : Nat) (W : World) (hown : Own .u32 W base 68 (.slice (some ⟨g, 0, none⟩) n cap) n xs) (hd : Dig B32 xs) (ht : Top xs) (hF : F = (f : Int)) (hE : E = (ex : Int))
    (hf0 : 0 < f) (hf : f < 4294967296) (hex : ex < 4294967296) (hn : n ≤ 1000000000) (hbase : base ≤ W.heap.size) :
    Calls Try.prog 89 #[.slice (some ⟨g, 0, none⟩) n cap, .int .u32 F, .int .u32 E] W (ScalePost base 68 n (f * val B32 xs + ex) W) := by
  subst hF hE
  have hxl := hown.len
  have hgb : base ≤ g := hown.ge g rfl
  have HB := Lib.hid hown
  have HD := Lib.hid hd
  have HT := Lib.hid ht
  have HX := Lib.hid hxl
  clear hown hd ht hxl
  go_enter Try.func89, Try.ntmps89
  go_wp2
  go_loopw [7, 14] (fun cv iv wr => ScaleRel base 68 g n cap f ex xs W cv iv wr) (fun cv iv _ => n - (intOf iv).toNat)
  case atStart =>
    exact ⟨ex, 0, xs, rfl, rfl, HB.out, HD.out, Nat.zero_le _, hex, by simp [val], rfl, Below.refl _ _⟩
  case round =>
    obtain ⟨c, i, zs, rfl, rfl, hB, hdz, hi, hc, hv, ht, hbel⟩ := hrel
    have GZ := Lib.hid hB
    have GD := Lib.hid hdz
    have GV := Lib.hid hv
    have GT := Lib.hid ht
    have GW := Lib.hid hbel
    clear hB hdz hv ht hbel
    by_cases hil : i < n
    · have hcell : wr.cell? ⟨g, i, none⟩ = some (.int .u32 ((zs[i]?.getD 0 : Nat) : Int)) ∧ wr.frozen? ⟨g, i, none⟩ = false := by
        rcases GZ.out.cases with ⟨h, _⟩ | ⟨g', cap', h, _, _, _, _, h3⟩
        · cases h
        · cases h; exact h3 i hil
      obtain ⟨c1, f1⟩ := hcell
      have hzx : zs[i]?.getD 0 = xs[i]?.getD 0 := by
        have := congrArg (fun l => l[0]?.getD 0) GT.out
        simpa using this
      rw [hzx] at c1
      have hx := HD.out.get B32_pos i
      obtain ⟨x, hxe⟩ : ∃ x, x = xs[i]?.getD 0 := ⟨_, rfl⟩
      rw [← hxe] at c1 hx
      rw [B32_eq] at hx
      have HXE := Lib.hid hxe
      clear hxe hzx
      have b2 : (i : Int) < (n : Int) := by omega
      have hm0 : (0 : Int) ≤ (x : Int) * (f : Int) := Int.mul_nonneg (by omega) (by omega)
      have hm1 : (x : Int) * (f : Int) ≤ 18446744065119617025 := by
        have h1 : x * f ≤ 4294967295 * 4294967295 := Nat.mul_le_mul (by omega) (by omega)
        have h2 : ((x * f : Nat) : Int) ≤ ((4294967295 * 4294967295 : Nat) : Int) := Int.ofNat_le.2 h1
        rw [Int.natCast_mul] at h2
        exact h2
      obtain ⟨t, ht⟩ : ∃ t : Nat, t = x * f := ⟨_, rfl⟩
      have ht2 : (x : Int) * (f : Int) = (t : Int) := by rw [ht, Int.natCast_mul]
      have HT3 := Lib.hid ht
      have HT2 := Lib.hid ht2
      clear ht ht2
      go_wp2
      rw [HT2.out]
      exact ⟨scale_rel GZ.out GD.out hil hc hf HXE.out hx GV.out GT.out GW.out hgb HX.out t HT3.out, by simp [intOf]; omega⟩
    · obtain rfl : i = n := by omega
      have hzl := GZ.out.len
      have hval : val B32 zs + c * B32 ^ i = f * val B32 xs + ex := by
        have := GV.out
        rwa [List.take_of_length_le (l := zs) (by omega), List.take_of_length_le (l := xs) (by have := HX.out; omega)] at this
      have HVV := Lib.hid hval
      have HZL := Lib.hid hzl
      have hbw := Lib.hid (Nat.le_trans hbase GW.out.size)
      clear hval hzl
      by_cases hc0 : c = 0
      · subst hc0
        go_wp2
        go_ret
        have hvv : val B32 zs = f * val B32 xs + ex := by have := HVV.out; omega
        exact ⟨_, i, zs, rfl, GZ.out, GD.out, by omega, hvv, scale_top hf0 HT.out HX.out HZL.out GD.out hvv, GW.out⟩
      · have hc1 : (0 : Int) < (c : Int) := by omega
        go_wp2_with (at_builtin; refine wpList_app rfl _ _ 29 rfl base 68 .u32 4 Try.underlying29 (by kernel_rfl) _ i zs rfl GZ.out _ c rfl rfl (by omega) (by omega) hbw.out ?_; intro v' w2 hown' hbel')
        go_ret
        refine ⟨v', i + 1, zs ++ [c], rfl, hown', GD.out.append (Dig.cons (by rw [B32_eq]; exact hc) (Dig.nil _)), Nat.le_refl _, ?_, ?_, GW.out.trans hbel'⟩
        · rw [val_snoc, HZL.out, Nat.mul_comm]
          exact HVV.out
        · intro _
          simpa using hc0


end Go.Proofs.Ytbihgllfllkkaaa

/- scale at nil; powerOfTen. -/
set_option linter.unusedVariables false
namespace Go.Proofs.Ytbihgllfllkkaaa
open Go.RowKit

set_option maxHeartbeats 1000000 in
theorem scale_nil (base : Nat) (F E : Int) (ex : Nat) (W : World) (hE : E = (ex : Int)) (hex : ex < 4294967296) (hbase : base ≤ W.heap.size) :
    Calls Try.prog 89 #[.slice none 0 0, .int .u32 F, .int .u32 E] W (ScalePost base 68 0 ex W) := by
  subst hE
  go_enter Try.func89, Try.ntmps89
  go_wp2
  go_loop [7, 14] (fun cv iv => cv = .int .u64 (ex : Int) ∧ iv = .int .i64 0) (fun cv iv => 0)
  case atStart => exact ⟨rfl, rfl⟩
  case round =>
    obtain ⟨rfl, rfl⟩ := hrel
    have HBa := Lib.hid hbase
    clear hbase
    by_cases hc0 : ex = 0
    · subst hc0
      go_wp2
      go_ret
      exact ⟨_, 0, [], rfl, Own.nil _ _ _ _, Dig.nil _, by omega, rfl, Top.nil, Below.refl _ _⟩
    · have hc1 : (0 : Int) < (ex : Int) := by omega
      go_wp2_with (at_builtin; refine wpList_app rfl _ _ 29 rfl base 68 .u32 4 Try.underlying29 (by kernel_rfl) _ 0 [] rfl (Own.nil _ _ _ _) _ ex rfl rfl (by omega) (by omega) HBa.out ?_; intro v' w2 hown' hbel')
      go_ret
      refine ⟨v', 1, [ex], rfl, hown', Dig.cons (by rw [B32_eq]; exact hex) (Dig.nil _), by omega, ?_, ?_, hbel'⟩
      · simp [val]
      · intro _; simpa using hc0

/-- scale of whatever the call owns -/
theorem scale_any (base n : Nat) (v : Value) (xs : List Nat) (F E : Int) (f ex : Nat) (W : World) (hown : Own .u32 W base 68 v n xs) (hd : Dig B32 xs) (ht : Top xs) (hF : F = (f : Int)) (hE : E = (ex : Int))
    (hf0 : 0 < f) (hf : f < 4294967296) (hex : ex < 4294967296) (hn : n ≤ 1000000000) (hbase : base ≤ W.heap.size) :
    Calls Try.prog 89 #[v, .int .u32 F, .int .u32 E] W (ScalePost base 68 n (f * val B32 xs + ex) W) := by
  rcases hown.cases with ⟨rfl, rfl, rfl⟩ | ⟨g, cap, rfl, _⟩
  · have := scale_nil base F E ex W hE hex hbase
    simpa [val] using this
  · exact scale_own base g n cap xs F E f ex W hown hd ht hF hE hf0 hf hex hn hbase

theorem Own.new1 (w : World) (k : IntKind) (e : Nat) (V : Int) (x : Nat) (hV : V = (x : Int)) : Own k (w.alloc (.cells #[.int k V] e)) w.heap.size e (.slice (some ⟨w.heap.size, 0, none⟩) 1 1) 1 [x] := by
  subst hV
  have := World.ownsRow_lit (base := w.heap.size) (e := e) (size := 1) w #[.int k (x : Int)] 1 (Nat.le_refl _) (by decide) rfl
  exact this

def TenRel (W : World) (pv iv : Value) (wr : World) : Prop :=
  ∃ (n i : Nat) (xs : List Nat), iv = .int .i64 (i : Int) ∧ Own .u32 wr W.heap.size 68 pv n xs ∧ Dig B32 xs ∧ Top xs ∧ n ≤ i + 1 ∧ val B32 xs = 10 ^ i ∧ Below W.heap.size W wr

set_option maxHeartbeats 1000000 in
theorem powerOfTen_any (N : Int) (n : Nat) (W : World) (hN : N = (n : Int)) (hn : n ≤ 100000000) :
    Calls Try.prog 60 #[.int .i64 N] W (fun e w' => ∃ ao len cap, e = .returned (.slice ao len cap) ∧ N32 w' ao len (10 ^ n) ∧ len ≤ n + 1 ∧ Below W.heap.size W w') := by
  subst hN
  have hA := Lib.hid (Own.new1 W .u32 68 1 1 rfl)
  have hB := Lib.hid ((Below.refl W.heap.size W).alloc (Nat.le_refl _) (.cells #[.int .u32 1] 68))
  go_enter Try.func60, Try.ntmps60
  go_wp2
  go_loopw [3, 6] (fun pv iv wr => TenRel W pv iv wr ∧ intOf iv ≤ (n : Int)) (fun pv iv _ => n - (intOf iv).toNat)
  case atStart =>
    refine ⟨⟨1, 0, [1], rfl, hA.out, Dig.cons (by decide) (Dig.nil _), fun _ => by simp, by omega, rfl, hB.out⟩, by simp [intOf]⟩
  case round =>
    obtain ⟨⟨k, i, xs, rfl, hown, hd, ht, hk, hv, hbel⟩, hin⟩ := hrel
    have hin2 : i ≤ n := by simp only [intOf] at hin; omega
    clear hin
    obtain ⟨ao, cap, rfl, hlc, hcm, hsl⟩ := hown.sl
    have HO := Lib.hid hown
    have HD := Lib.hid hd
    have HT := Lib.hid ht
    have HV := Lib.hid hv
    have HB := Lib.hid hbel
    have HS := Lib.hid hsl
    clear hown hd ht hv hbel hsl
    by_cases hil : i < n
    · have b1 : (i : Int) < (n : Int) := by omega
      go_wp2_with (go_at_call 89; refine (scale_any _ k _ xs _ _ 10 0 _ HO.out HD.out HT.out rfl rfl (by omega) (by omega) (by omega) (by omega) HB.out.size).mono ?_; rintro e w2 ⟨v', n', xs', rfl, hown', hd', hn', hv', ht', hb'⟩)
      go_roundw
      case rel => exact ⟨⟨n', i + 1, xs', by go_num, hown', hd', ht', by omega, by rw [hv', HV.out, Nat.pow_succ]; omega, HB.out.trans hb'⟩, by simp [intOf]; omega⟩
      case measure => simp [intOf]; omega
    · obtain rfl : i = n := by omega
      go_wp2
      go_ret
      exact ⟨ao, k, cap, rfl, ⟨xs, HS.out, HD.out, HT.out, HV.out⟩, hk, HB.out⟩
end Go.Proofs.Ytbihgllfllkkaaa

/- slices.Reverse of bytes. -/
set_option linter.unusedVariables false
namespace Go.Proofs.Ytbihgllfllkkaaa
open Go.RowKit

/-- the first i places and the last i places have changed places -/
def Turned (xs zs : List Nat) (i : Nat) : Prop := zs.length = xs.length ∧ ∀ t, t < xs.length → zs[t]?.getD 0 = if t < i ∨ xs.length < t + 1 + i then xs[xs.length - 1 - t]?.getD 0 else xs[t]?.getD 0

theorem turned_end {xs zs : List Nat} {i : Nat} (h : Turned xs zs i) (hi : xs.length ≤ 2 * i + 1) : zs = xs.reverse := by
  apply List.ext_getElem?
  intro t
  by_cases ht : t < xs.length
  · have h1 := h.2 t ht
    rw [List.getElem?_reverse ht]
    have e1 : zs[t]?.getD 0 = zs[t]'(by have := h.1; omega) := by rw [List.getElem?_eq_getElem]; rfl
    have e2 : xs[xs.length - 1 - t]?.getD 0 = xs[xs.length - 1 - t] := by rw [List.getElem?_eq_getElem]; rfl
    rw [List.getElem?_eq_getElem (by have := h.1; omega), List.getElem?_eq_getElem (by omega), ← e1, ← e2, h1]
    split
    · rfl
    · have : t = xs.length - 1 - t := by omega
      rw [← this]
  · rw [List.getElem?_eq_none (by have := h.1; omega), List.getElem?_eq_none (by simp; omega)]

theorem getD_set (zs : List Nat) (i x t : Nat) : (zs.set i x)[t]?.getD 0 = if i = t ∧ t < zs.length then x else zs[t]?.getD 0 := by
  rw [List.getElem?_set]
  by_cases h : i = t
  · subst h
    by_cases h2 : i < zs.length
    · simp [h2]
    · simp [h2]
  · simp [h]

theorem turned_step {xs zs : List Nat} {i j : Nat} (h : Turned xs zs i) (hij : i < j) (hj : i + j + 1 = xs.length) :
    Turned xs ((zs.set i (zs[j]?.getD 0)).set j (zs[i]?.getD 0)) (i + 1) := by
  refine ⟨by simpa using h.1, fun t ht => ?_⟩
  have hl := h.1
  rw [getD_set, getD_set, h.2 t ht, h.2 i (by omega), h.2 j (by omega)]
  simp only [List.length_set]
  by_cases h1 : j = t
  · subst h1
    rw [if_pos ⟨rfl, by omega⟩, if_neg (by omega), if_pos (by omega)]
    congr 2; omega
  · rw [if_neg (by omega)]
    by_cases h2 : i = t
    · subst h2
      rw [if_pos ⟨rfl, by omega⟩, if_neg (by omega), if_pos (by omega)]
      congr 2; omega
    · rw [if_neg (by omega)]
      by_cases h3 : t < i ∨ xs.length < t + 1 + i
      · rw [if_pos h3, if_pos (by omega)]
      · rw [if_neg h3, if_neg (by omega)]

def RevRel (base e g n cap : Nat) (xs : List Nat) (W : World) (iv jv : Value) (wr : World) : Prop :=
  ∃ (i : Nat) (zs : List Nat), iv = .int .i64 (i : Int) ∧ jv = .int .i64 ((n : Int) - 1 - (i : Int)) ∧ 2 * i ≤ n + 1 ∧ Own .u8 wr base e (.slice (some ⟨g, 0, none⟩) n cap) n zs ∧ Turned xs zs i ∧ Below base W wr

set_option maxHeartbeats 1000000 in
theorem reverse_own (base g n cap : Nat) (xs : List Nat) (W : World) (hown : Own .u8 W base 5 (.slice (some ⟨g, 0, none⟩) n cap) n xs) (hn : n ≤ 1000000000000) :
    Calls Try.prog 71 #[.slice (some ⟨g, 0, none⟩) n cap] W (fun en w' => en = .returned (.tuple #[]) ∧ Own .u8 w' base 5 (.slice (some ⟨g, 0, none⟩) n cap) n xs.reverse ∧ Below base W w') := by
  have hgb : base ≤ g := hown.ge g rfl
  have HX := Lib.hid hown.len
  have HB := Lib.hid hown
  clear hown
  go_enter Try.func71, Try.ntmps71
  go_wp2
  go_loopw [2, 3] (fun iv jv wr => RevRel base 5 g n cap xs W iv jv wr) (fun iv jv _ => n - (intOf iv).toNat)
  case atStart =>
    refine ⟨0, xs, rfl, by simp, by omega, HB.out, ⟨rfl, fun t ht => ?_⟩, Below.refl _ _⟩
    rw [if_neg (by omega)]
  case round =>
    obtain ⟨i, zs, rfl, rfl, hi, hB, ht, hbel⟩ := hrel
    have GZ := Lib.hid hB
    have GT := Lib.hid ht
    have GW := Lib.hid hbel
    clear hB ht hbel
    by_cases hlt : 2 * i + 1 < n
    · obtain ⟨j, hj⟩ : ∃ j, i + j + 1 = n := ⟨n - 1 - i, by omega⟩
      have ej : ((n : Int) - 1 - (i : Int)) = (j : Int) := by omega
      rw [ej]
      have HJ := Lib.hid hj
      have hij : i < j := by omega
      have hin : i < n := by omega
      have hjn : j < n := by omega
      have b0 : (i : Int) < (j : Int) := by omega
      have b1 : (0 : Int) ≤ (i : Int) := by omega
      have b2 : (i : Int) < (n : Int) := by omega
      have b3 : (0 : Int) ≤ (j : Int) := by omega
      have b4 : (j : Int) < (n : Int) := by omega
      have hcells : ∀ t, t < n → wr.cell? ⟨g, t, none⟩ = some (.int .u8 ((zs[t]?.getD 0 : Nat) : Int)) ∧ wr.frozen? ⟨g, t, none⟩ = false := by
        rcases GZ.out.cases with ⟨h, _⟩ | ⟨g', cap', h, _, _, _, _, h3⟩
        · cases h
        · cases h; exact h3
      obtain ⟨c1, f1⟩ := hcells i hin
      obtain ⟨c2, f2⟩ := hcells j hjn
      clear hcells ej hj
      obtain ⟨x, hxe⟩ : ∃ x, x = zs[i]?.getD 0 := ⟨_, rfl⟩
      obtain ⟨y, hye⟩ : ∃ x, x = zs[j]?.getD 0 := ⟨_, rfl⟩
      rw [← hxe] at c1
      rw [← hye] at c2
      have HXE := Lib.hid hxe
      have HYE := Lib.hid hye
      clear hxe hye
      have hne : i ≠ j := by omega
      go_wp2
      go_region
      go_wp2
      refine ⟨?_, by simp [intOf]; omega⟩
      refine ⟨i + 1, (zs.set i y).set j x, by go_num, congrArg (Value.int _) (by have := HJ.out; omega), by omega, ?_, ?_, ?_⟩
      · have h1 := GZ.out.stored i y hin _ rfl
        have h2 := h1.stored j x hjn _ rfl
        exact h2
      · have h3 := turned_step GT.out hij (by rw [HX.out]; exact HJ.out)
        rw [← HXE.out, ← HYE.out] at h3
        exact h3
      · exact ((GW.out.setCell hgb _).setCell hgb _).drew
    · have b0 : ¬ (i : Int) < (n : Int) - 1 - (i : Int) := by omega
      go_wp2
      go_end0
      have := turned_end GT.out (by rw [HX.out]; omega)
      refine ⟨rfl, ?_, GW.out⟩
      rw [← this]
      exact GZ.out
end Go.Proofs.Ytbihgllfllkkaaa

/- numerals: writeDigits. -/
set_option linter.unusedVariables false
namespace Go.Proofs.Ytbihgllfllkkaaa
open Go.RowKit

/-- the digits of n to the base 10, the lowest first; f: fuel -/
def lowF : Nat → Nat → List Nat
  | 0, _ => []
  | f + 1, n => if n = 0 then [] else n % 10 :: lowF f (n / 10)

theorem lowF_spec : ∀ (f n : Nat), n ≤ f → Dig 10 (lowF f n) ∧ Top (lowF f n) ∧ val 10 (lowF f n) = n
  | 0, n, h => by
    obtain rfl : n = 0 := by omega
    exact ⟨Dig.nil _, Top.nil, rfl⟩
  | f + 1, n, h => by
    simp only [lowF]
    split
    · rename_i h0; subst h0; exact ⟨Dig.nil _, Top.nil, rfl⟩
    · rename_i h0
      obtain ⟨h1, h2, h3⟩ := lowF_spec f (n / 10) (by omega)
      refine ⟨Dig.cons (Nat.mod_lt _ (by decide)) h1, ?_, ?_⟩
      · by_cases he : lowF f (n / 10) = []
        · intro _
          rw [he] at h3
          simp only [val] at h3
          rw [he]
          simp
          omega
        · intro _
          have := h2 he
          rw [List.getLastD_eq_getLast?] at this ⊢
          rw [List.getLast?_cons]
          cases h : (lowF f (n / 10)).getLast? with
          | none => exact absurd (List.getLast?_eq_none_iff.1 h) he
          | some d => rw [h] at this; simpa using this
      · rw [val_cons, h3]; omega

def low (n : Nat) : List Nat := lowF n n

theorem low_of {n : Nat} {ts : List Nat} (h1 : Dig 10 ts) (h2 : Top ts) (h3 : val 10 ts = n) : ts = low n := by
  obtain ⟨a, b, c⟩ := lowF_spec n n (Nat.le_refl _)
  exact val_inj (by decide) h1 a h2 b (by rw [h3]; exact c.symm)

def chars (ts : List Nat) : List UInt8 := ts.map fun d => UInt8.ofNat (48 + d)

/-- the numeral of a natural number -/
def numeral (n : Nat) : List UInt8 := if n = 0 then [48] else chars (low n).reverse

/-- one decimal digit more -/
theorem write_step {ts : List Nat} {v r g m : Nat} (h : val 10 ts + 10 ^ ts.length * (g + 10 * m * r) = v) :
    val 10 (ts ++ [g % 10]) + 10 ^ (ts ++ [g % 10]).length * (g / 10 + m * r) = v := by
  rw [val_snoc]
  simp only [List.length_append, List.length_cons, List.length_nil, Nat.zero_add, Nat.pow_succ]
  have h2 := Nat.mod_add_div g 10
  generalize g % 10 = d at *
  generalize g / 10 = q at *
  generalize 10 ^ ts.length = p at *
  grind


def pow10 (i : Nat) : Nat := 10 ^ i

/-- what the text holds so far, and what is still to come: the group g, of at most 9 - i digits, and r above it -/
structure WIn (g i r n : Nat) (ts : List Nat) : Prop where
  dig : Dig 10 ts
  sum : val 10 ts + 10 ^ ts.length * (g + 10 ^ (9 - i) * r) = n
  small : g < 10 ^ (9 - i)
  le : i ≤ 9
  top : r = 0 → 0 < g ∨ (ts ≠ [] ∧ Top ts)

theorem WIn.step {g i r n : Nat} {ts : List Nat} (h : WIn g i r n ts) (hi : i < 9) (hgo : 0 < g ∨ 0 < r) : WIn (g / 10) (i + 1) r n (ts ++ [g % 10]) := by
  obtain ⟨m, hm⟩ : ∃ m, 10 ^ (9 - (i + 1)) = m := ⟨_, rfl⟩
  have e : 10 ^ (9 - i) = 10 * m := by rw [← hm, show 9 - i = (9 - (i + 1)) + 1 by omega, Nat.pow_succ, Nat.mul_comm]
  have h1 := h.sum
  have h2 := h.small
  rw [e] at h1 h2
  refine ⟨h.dig.append (Dig.cons (Nat.mod_lt _ (by decide)) (Dig.nil _)), ?_, ?_, by omega, ?_⟩
  · rw [hm]; exact write_step h1
  · rw [hm]; omega
  · intro hr
    by_cases hq : 0 < g / 10
    · exact .inl hq
    · refine .inr ⟨by simp, fun _ => ?_⟩
      have : 0 < g := by omega
      simp
      omega

theorem WIn.done {g i r n : Nat} {ts : List Nat} (h : WIn g i r n ts) (hd : ¬ (i < 9 ∧ (0 < g ∨ 0 < r))) : val 10 ts + 10 ^ ts.length * r = n ∧ (r = 0 → ts ≠ [] ∧ Top ts) := by
  have h1 := h.sum
  have h2 := h.small
  have h3 := h.le
  by_cases hi : i = 9
  · subst hi
    simp only [Nat.sub_self, Nat.pow_zero, Nat.lt_one_iff] at h2
    subst h2
    simp at h1
    refine ⟨h1, fun hr => ?_⟩
    rcases h.top hr with h4 | h4
    · omega
    · exact h4
  · have hg : g = 0 := by omega
    have hr : r = 0 := by omega
    subst hg hr
    simp at h1 ⊢
    refine ⟨h1, ?_⟩
    rcases h.top rfl with h4 | h4
    · omega
    · exact h4

theorem WIn.start {n v : Nat} {ts : List Nat} (hd : Dig 10 ts) (h : val 10 ts + 10 ^ ts.length * v = n) (hv : 0 < v) : WIn (v % 1000000000) 0 (v / 1000000000) n ts := by
  refine ⟨hd, ?_, ?_, by omega, ?_⟩
  · have e : v % 1000000000 + 10 ^ (9 - 0) * (v / 1000000000) = v := by
      have := Nat.mod_add_div v 1000000000
      exact this
    rw [e]; exact h
  · have := Nat.mod_lt v (show 0 < 1000000000 by decide)
    exact this
  · intro hr; left; omega

/-- the rest in block g, the text in blocks behind it -/
def WrRel (n g : Nat) (W : World) (rv tv : Value) (wr : World) : Prop :=
  ∃ (ao : Option Addr) (len k v : Nat) (zs post ts : List Nat), rv = .slice ao len len ∧ (0 < len → ao = some ⟨g, 0, none⟩) ∧ Blk .u32 wr g 68 (zs ++ post) ∧ zs.length = len ∧ len ≤ 1000000000 ∧ Dig B32 zs ∧ Top zs ∧ val B32 zs = v ∧
    Own .u8 wr (g + 1) 5 tv k (ts.map (48 + ·)) ∧ Dig 10 ts ∧ val 10 ts + 10 ^ ts.length * v = n ∧ (v = 0 → ts ≠ [] ∧ Top ts) ∧ Below W.heap.size W wr ∧ W.heap.size ≤ g ∧ g < wr.heap.size

def WrIn (n g r : Nat) (W0 : World) (gv tv iv : Value) (wr : World) : Prop :=
  ∃ (d i k : Nat) (ts : List Nat), gv = .int .u32 (d : Int) ∧ iv = .int .i64 (i : Int) ∧ Own .u8 wr (g + 1) 5 tv k (ts.map (48 + ·)) ∧ WIn d i r n ts ∧ Below (g + 1) W0 wr

theorem text_len {n la k : Nat} (h : 10 ^ k ≤ n) (hn : n < B32 ^ la) : k ≤ 32 * la := by
  rw [B32_pow] at hn
  have h1 : 2 ^ k ≤ 10 ^ k := Nat.pow_le_pow_left (by decide) k
  have h2 : 2 ^ k < 2 ^ (32 * la) := by omega
  have := (Nat.pow_lt_pow_iff_right (show 1 < 2 by decide)).1 h2
  omega

theorem WIn.len {g i r n la : Nat} {ts : List Nat} (h : WIn g i r n ts) (hgo : 0 < g ∨ 0 < r) (hn : n < B32 ^ la) : ts.length ≤ 32 * la := by
  refine text_len ?_ hn
  have h1 := h.sum
  have h2 : 0 < g + 10 ^ (9 - i) * r := by
    rcases hgo with h3 | h3
    · omega
    · have := Nat.mul_pos (Nat.pow_pos (n := 9 - i) (show 0 < 10 by decide)) h3
      omega
  have h3 := Nat.mul_le_mul_left (10 ^ ts.length) h2
  omega

/-- the bytes of a row of digits -/
theorem chars_cells {w : World} {g n cap e base : Nat} {ts : List Nat} (h : Own .u8 w base e (.slice (some ⟨g, 0, none⟩) n cap) n (ts.map (48 + ·))) (hd : Dig 10 ts) :
    ∀ j (hj : j < (chars ts).length), w.cell? ((⟨g, 0, none⟩ : Addr).add j) = some (.int .u8 ((chars ts)[j].toNat : Int)) := by
  intro j hj
  have hl := h.len
  simp only [List.length_map] at hl
  have hj2 : j < ts.length := by simpa [chars] using hj
  have e1 : ((⟨g, 0, none⟩ : Addr).add j) = ⟨g, j, none⟩ := by unfold Addr.add; split <;> simp_all
  rw [e1]
  rcases h.cases with ⟨h0, _⟩ | ⟨g', cap', h0, _, _, _, _, h3⟩
  · cases h0
  · cases h0
    rw [(h3 j (by omega)).1]
    have hdj := hd ts[j] (List.getElem_mem hj2)
    have e2 : (chars ts)[j].toNat = 48 + ts[j] := by
      simp only [chars, List.getElem_map, UInt8.toNat_ofNat']
      omega
    rw [e2]
    simp [List.getElem?_eq_getElem hj2]

end Go.Proofs.Ytbihgllfllkkaaa

/- writeDigits. -/
set_option linter.unusedVariables false
namespace Go.Proofs.Ytbihgllfllkkaaa
open Go.RowKit

/-- the number that a slice of digits reads as: for a loop's measure -/
def readNat (w : World) : Value → Nat
  | .slice (some a) l _ => val B32 ((List.range l).map fun i => match w.cell? ⟨a.block, a.off + i, none⟩ with | some (.int _ x) => x.toNat | _ => 0)
  | _ => 0

theorem readNat_of {w : World} {ao : Option Addr} {len cap : Nat} {xs : List Nat} (h : Sl .u32 w ao len xs) : readNat w (.slice ao len cap) = val B32 xs := by
  obtain ⟨h1, b, off, h2, h3⟩ := h
  by_cases h0 : len = 0
  · obtain rfl : xs = [] := List.eq_nil_of_length_eq_zero (by omega)
    subst h0
    cases ao <;> rfl
  · rw [h2 (by omega)]
    simp only [readNat]
    congr 1
    apply List.ext_getElem
    · simp [h1]
    · intro i h4 h5
      simp only [List.getElem_map, List.getElem_range]
      rw [h3 i (by simpa using h4)]
      simp [List.getElem?_eq_getElem h5]

def StrPost (l : List UInt8) (W : World) (e : Ending) (w' : World) : Prop := e = .returned (.string ⟨l.toArray⟩) ∧ Below W.heap.size W w'

theorem wr_pos {zs : List Nat} {l m q : Nat} (hl : zs.length = l) (ht : Top (zs.take m)) (hv : val B32 (zs.take m) = q) (hm : m ≤ l) : 0 < q ↔ 0 < m := by
  have := val_zero_iff B32_pos ht
  rw [hv] at this
  rw [← List.length_eq_zero_iff, List.length_take] at this
  omega

theorem wr_blk {k : IntKind} {w : World} {g e m : Nat} {zs post : List Nat} (h : Blk k w g e (zs ++ post)) : Blk k w g e (zs.take m ++ (zs.drop m ++ post)) := by
  rwa [← List.append_assoc, List.take_append_drop]

theorem wr_read {w4 wr : World} {g l m q : Nat} {ao : Option Addr} {zs post : List Nat} (hb : Below (g + 1) w4 wr) (hB : Blk .u32 w4 g 68 (zs ++ post)) (hl : zs.length = l)
    (ha : 0 < m → ao = some ⟨g, 0, none⟩) (hv : val B32 (zs.take m) = q) (hm : m ≤ l) : readNat wr (.slice ao m m) = q := by
  rw [← hv]
  by_cases h : m = 0
  · subst h; rw [readNat_of (Sl.nil _ _ _)]; rfl
  · rw [ha (by omega)]
    have := (wr_blk (m := m) (hB.below hb (Nat.lt_succ_self _))).sl0 m (by simp; omega)
    rw [List.take_append_of_le_length (by simp; omega), List.take_of_length_le (by simp; omega)] at this
    exact readNat_of this

theorem wr_next {n l m v d i k2 : Nat} {ao : Option Addr} {zs post ts2 : List Nat} {W wo w4 wr : World} {tv : Value} (hown : Own .u8 wr (W.heap.size + 1) 5 tv k2 (ts2.map (48 + ·))) (hin : WIn d i (v / 1000000000) n ts2)
    (hb : Below (W.heap.size + 1) w4 wr) (hx : ¬ (i < 9 ∧ (0 < d ∨ 0 < v / 1000000000))) (hB : Blk .u32 w4 W.heap.size 68 (zs ++ post)) (hl : zs.length = l) (hd : Dig B32 zs)
    (ha : 0 < m → ao = some ⟨W.heap.size, 0, none⟩) (ht : Top (zs.take m)) (hv : val B32 (zs.take m) = v / 1000000000) (hm : m ≤ l ∧ l ≤ 1000000000) (hW : Below W.heap.size W wo) (hg4 : wo.grownBy w4 (some W.heap.size)) (hgl : W.heap.size < wo.heap.size) :
    WrRel n W.heap.size W (.slice ao m m) tv wr := by
  obtain ⟨h1, h2⟩ := hin.done hx
  refine ⟨ao, m, k2, v / 1000000000, zs.take m, zs.drop m ++ post, ts2, rfl, ha, wr_blk (hB.below hb (Nat.lt_succ_self _)), by simp; omega, by omega, hd.take _, ht, hv, hown, hin.dig, h1, h2, ?_, Nat.le_refl _, ?_⟩
  · exact (hW.grown hg4 (Nat.le_of_lt hgl) (fun k hk => by cases hk; exact Nat.le_refl _)).trans (hb.mono (Nat.le_succ _))
  · have a1 := hg4.size
    have a2 := hb.size
    omega

set_option maxHeartbeats 2000000 in
theorem writeDigits_any (ao : Option Addr) (la ca n : Nat) (W : World) (ha : N32 W ao la n) (hla : la ≤ 1000000000) :
    Calls Try.prog 40 #[.slice ao la ca] W (StrPost (numeral n) W) := by
  have hlt := ha.lt
  have hz := ha.zero
  obtain ⟨xs, hs, hd, ht, hv⟩ := ha
  have HS := Lib.hid hs
  have HD := Lib.hid hd
  have HT := Lib.hid ht
  have HV := Lib.hid hv
  have HLT := Lib.hid hlt
  by_cases h0 : la = 0
  · have hn : n = 0 := hz.2 h0
    have HN : Hid (StrPost (numeral n) W = StrPost [48] W) := by
      rw [hn]; rfl
    rw [HN.out]
    subst h0
    clear hs hd ht hv hlt hz HV HLT hn HN
    go_enter Try.func40, Try.ntmps40
    go_wp2
    go_ret
    exact ⟨rfl, Below.refl _ _⟩
  · have hn0 : n ≠ 0 := fun h => h0 (hz.1 h)
    have HN := Lib.hid hn0
    have hb0 : ((la : Int) == 0) = false := by simp; omega
    clear hs hd ht hv hlt hz hn0
    go_enter Try.func40, Try.ntmps40
    go_wp2_with fail
    refine (duplicate_any _ _ _ _ _ HS.out (by omega)).mono ?_
    rintro e w1 (⟨h, _⟩ | ⟨_, rfl, hB, hb1, hz1⟩)
    · omega
    · have H1 := Lib.hid hB
      have H2 := Lib.hid hb1
      have H3 := Lib.hid hz1
      clear hB hb1 hz1
      go_wp2_with fail
      go_loopw [3, 5] (fun rv tv wr => WrRel n W.heap.size W rv tv wr) (fun rv tv wr => readNat wr rv)
      case atStart =>
        exact ⟨_, la, 0, n, xs, [], [], rfl, fun _ => rfl, by simpa using H1.out, HS.out.len, hla, HD.out, HT.out, HV.out, Own.nil _ _ _ _, Dig.nil _, by simp [val], fun h => absurd h HN.out, H2.out, Nat.le_refl _, H3.out⟩
      case round =>
        obtain ⟨ao', len, k, v, zs, post, ts, rfl, hao, hB, hzl, hlen, hdz, htz, hvz, hown, hdt, hsum, htop, hbel, hge, hgl⟩ := hrel
        obtain ⟨wo, rfl⟩ : ∃ wo : World, wo = wr := ⟨_, rfl⟩
        have hv0 : v = 0 ↔ len = 0 := by
          rw [← hvz, val_zero_iff B32_pos htz, ← List.length_eq_zero_iff, hzl]
        have hrn : readNat wo (.slice ao' len len) = v := by
          rw [← hvz]
          by_cases h : len = 0
          · subst h
            rw [readNat_of (Sl.nil _ _ _), (val_zero_iff B32_pos htz).2 (List.eq_nil_of_length_eq_zero hzl)]; rfl
          · rw [hao (by omega)]
            have := hB.sl0 len (by simp; omega)
            rw [List.take_append_of_le_length (by omega), List.take_of_length_le (by omega)] at this
            exact readNat_of this
        have GA := Lib.hid hao
        have GB := Lib.hid hB
        have GL := Lib.hid hzl
        have GD := Lib.hid hdz
        have GT := Lib.hid htz
        have GV := Lib.hid hvz
        have GO := Lib.hid hown
        have GDT := Lib.hid hdt
        have GS := Lib.hid hsum
        have GTOP := Lib.hid htop
        have GW := Lib.hid hbel
        have GN := Lib.hid hrn
        have GV0 := Lib.hid hv0
        have GG := Lib.hid hge
        have GGL := Lib.hid hgl
        clear hao hB hzl hdz htz hvz hown hdt hsum htop hbel hrn hv0 hge hgl
        by_cases hlen0 : len = 0
        · subst hlen0
          have hv : v = 0 := GV0.out.2 rfl
          have h9 := GTOP.out hv
          have h10 : val 10 ts = n := by
            have := GS.out
            rw [hv] at this
            simpa using this
          have h11 := low_of GDT.out h9.2 h10
          have hnum : numeral n = chars ts.reverse := by
            unfold numeral
            rw [if_neg HN.out, h11]
          have HNUM := Lib.hid hnum
          rcases GO.out.cases with ⟨_, _, h⟩ | ⟨g', cap', rfl, hb', _, _, _, _⟩
          · exact absurd (List.map_eq_nil_iff.1 h) h9.1
          · have hk : k = ts.length := by have := GO.out.len; simpa using this.symm
            have hk2 : k ≤ 32 * la + 1 := by
              have h12 := val_ge (B := 10) h9.2 h9.1
              rw [h10] at h12
              have := text_len h12 HLT.out
              have : ts.length ≠ 0 := fun h => h9.1 (List.eq_nil_of_length_eq_zero h)
              omega
            subst hk
            have HK := Lib.hid hk2
            clear hv h9 h10 h11 hnum hk2
            go_wp2_with fail
            refine (reverse_own (W.heap.size + 1) g' ts.length cap' _ _ GO.out (by have := HK.out; omega)).mono ?_
            rintro e w5 ⟨rfl, hown5, hbel5⟩
            have hcv := run_convert_bytes_back (P := Try.prog) w5 92 9 5 ⟨g', 0, none⟩ cap' (chars ts.reverse) Try.underlying92 Try.underlying5 Try.underlying9 (chars_cells (by rw [← List.map_reverse] at hown5; exact hown5) (fun x hx => GDT.out x (List.mem_reverse.1 hx)))
            have hlc : (chars ts.reverse).length = ts.length := by simp [chars]
            rw [hlc] at hcv
            have L5 := Lib.hid hbel5
            clear hown5 hbel5 hlc
            go_wp2
            go_ret
            exact ⟨by rw [HNUM.out]; rfl, GW.out.trans (L5.out.mono (Nat.le_succ _))⟩
        · obtain ⟨l1, rfl⟩ : ∃ l1, len = l1 + 1 := ⟨len - 1, by omega⟩
          have hvpos : 0 < v := by have := GV0.out; omega
          obtain rfl := GA.out (by omega)
          go_wp2_with fail
          refine (shrink_any W.heap.size 68 (l1 + 1) (l1 + 1) zs post _ 1000000000 _ GB.out GL.out GD.out rfl (by decide) (by decide) (by omega) (Nat.le_refl _) (by omega)).mono ?_
          rintro e w4 ⟨ao4, m4, zs4, rfl, hB4, hl4, hd4, hv4, hm4, ha4, hz4, ht4, hvt4, hg4, hs4⟩
          rw [GV.out] at hvt4
          have I1 := Lib.hid hB4
          have I2 := Lib.hid hl4
          have I3 := Lib.hid hd4
          have I4 := Lib.hid hv4
          have I5 := Lib.hid ha4
          have I6 := Lib.hid ht4
          have I7 := Lib.hid hvt4
          have I8 := Lib.hid hg4
          have I9 := Lib.hid hs4
          clear hB4 hl4 hd4 hv4 ha4 hz4 ht4 hvt4 hg4 hs4
          rw [GV.out]
          have HGO : Hid (Own .u8 w4 (W.heap.size + 1) 5 u5 k (ts.map (48 + ·))) := by
            refine GO.out.kept I8.out ?_
            cases hob : u5.ownBlock with
            | none => exact .inl rfl
            | some b => right; intro e; have := GO.out.ge b hob; simp only [Option.some.injEq] at e; omega
          have hstart := WIn.start GDT.out GS.out hvpos
          have HST := Lib.hid hstart
          have hm4 : 0 < v / 1000000000 ↔ 0 < m4 := wr_pos I2.out I6.out I7.out (by omega)
          have HM4 := Lib.hid hm4
          have HSZ : Hid (W.heap.size + 1 ≤ w4.heap.size) := by have := I9.out; have := GGL.out; show _ ≤ _; omega
          clear hstart hm4
          go_wp2_with fail
          go_loopw [4, 5, 6] (fun gv tv iv wr => WrIn n W.heap.size (v / 1000000000) w4 gv tv iv wr) (fun gv tv iv _ => 9 - (intOf iv).toNat)
          case atStart =>
            exact ⟨v % 1000000000, 0, k, ts, by first | rfl | exact congrArg (Value.int _) (by omega), rfl, HGO.out, HST.out, Below.refl _ _⟩
          case round =>
            obtain ⟨d, i, k2, ts2, rfl, rfl, hown2, hin, hbel2⟩ := hrel
            have hi9 := hin.le
            have hsmall := hin.small
            have hd9 : d < 1000000000 := Nat.lt_of_lt_of_le hsmall (Nat.pow_le_pow_right (by decide) (by omega) : 10 ^ (9 - i) ≤ 10 ^ 9)
            have hk2 : k2 = ts2.length := by have := hown2.len; simpa using this.symm
            have hkb : (0 < d ∨ 0 < v / 1000000000) → k2 ≤ 32 * la := fun h => by rw [hk2]; exact hin.len h HLT.out
            have J1 := Lib.hid hown2
            have J2 := Lib.hid hin
            have J3 := Lib.hid hbel2
            have J4 : Hid (W.heap.size + 1 ≤ wr.heap.size) := Nat.le_trans HSZ.out hbel2.size
            clear hown2 hin hbel2 hsmall hk2
            by_cases hc : i < 9 ∧ (0 < d ∨ 0 < v / 1000000000)
            · have hkk := hkb hc.2
              have hc1 := hc.1
              have hc2 := hc.2
              have hm := HM4.out
              clear hc hkb
              have b1 : (i : Int) < 9 := by omega
              by_cases hd0 : 0 < d
              · have b2 : (0 : Int) < (d : Int) := by omega
                clear hc2 hm
                go_wp2_with (at_builtin; refine wpList_app rfl _ _ 92 rfl (W.heap.size + 1) 5 .u8 1 Try.underlying92 (by kernel_rfl) _ k2 (ts2.map (48 + ·)) rfl J1.out _ (48 + d % 10) rfl (by omega) (by omega) (by omega) J4.out ?_; intro v' w6 hown' hbel')
                go_roundw
                case rel => exact ⟨d / 10, i + 1, k2 + 1, ts2 ++ [d % 10], by first | rfl | exact congrArg (Value.int _) (by omega), by go_num, by rw [List.map_append]; exact hown', J2.out.step (by omega) (by have := HM4.out; omega), J3.out.trans hbel'⟩
                case measure => simp [intOf]; omega
              · obtain rfl : d = 0 := by omega
                have hm4p : 0 < m4 := by omega
                have b2 : (0 : Int) < (m4 : Int) := by omega
                clear hc2 hm
                go_wp2_with (at_builtin; refine wpList_app rfl _ _ 92 rfl (W.heap.size + 1) 5 .u8 1 Try.underlying92 (by kernel_rfl) _ k2 (ts2.map (48 + ·)) rfl J1.out _ (48 + 0 % 10) rfl ?_ ?_ ?_ J4.out ?_; (first | rfl | decide | omega); omega; omega; intro v' w6 hown' hbel')
                go_roundw
                case rel => exact ⟨0 / 10, i + 1, k2 + 1, ts2 ++ [0 % 10], by first | rfl | exact congrArg (Value.int _) (by omega), by go_num, by rw [List.map_append]; exact hown', J2.out.step (by omega) (by have := HM4.out; omega), J3.out.trans hbel'⟩
                case measure => simp [intOf]; omega
            · have hm := HM4.out
              clear hkb
              by_cases hc1 : i < 9
              · obtain rfl : d = 0 := by omega
                obtain rfl : m4 = 0 := by omega
                have b1 : (i : Int) < 9 := by omega
                clear hc hm
                go_wp2
                go_roundw
                case rel => exact wr_next J1.out J2.out J3.out (by have := HM4.out; omega) I1.out I2.out I3.out I5.out I6.out I7.out (by omega) GW.out I8.out GGL.out
                case measure =>
                  rw [GN.out, wr_read J3.out I1.out I2.out I5.out I7.out (by omega)]
                  exact Nat.div_lt_self hvpos (by decide)
              · have b1 : ¬ (i : Int) < 9 := by omega
                clear hm
                go_wp2
                go_roundw
                case rel => exact wr_next J1.out J2.out J3.out (by have := HM4.out; omega) I1.out I2.out I3.out I5.out I6.out I7.out (by omega) GW.out I8.out GGL.out
                case measure =>
                  rw [GN.out, wr_read J3.out I1.out I2.out I5.out I7.out (by omega)]
                  exact Nat.div_lt_self hvpos (by decide)
end Go.Proofs.Ytbihgllfllkkaaa

/- divide by one digit. -/
set_option linter.unusedVariables false
namespace Go.Proofs.Ytbihgllfllkkaaa
open Go.RowKit

set_option maxHeartbeats 400000 in
theorem shrink_nil (D : Int) (W : World) :
    Calls Try.prog 66 #[.slice none 0 0, .int .u32 D] W (fun e w' => e = .returned (.tuple #[.slice none 0 0, .int .u32 0]) ∧ W = w') := by
  go_enter Try.func66, Try.ntmps66
  go_wp2
  go_loop [6, 7] (fun rv iv => rv = .int .u64 0 ∧ iv = .int .i64 (-1)) (fun rv iv => 0)
  case atStart => exact ⟨rfl, rfl⟩
  case round =>
    obtain ⟨rfl, rfl⟩ := hrel
    go_wp2_with (go_at_call 69; refine (trim_raw _ _ _ _ _ (Sl.nil _ _ _) (by omega) (by omega)).mono ?_; rintro e w3 ⟨⟨ao', m, rfl, hm, ha', hz', ht, hzz⟩, rfl⟩)
    go_ret2
    obtain rfl : m = 0 := by omega
    obtain rfl := hz' rfl
    exact ⟨rfl, rfl⟩

def DupDrew (len : Nat) (xs : List Nat) (W : World) (e : Ending) (w' : World) : Prop :=
  (len = 0 ∧ e = .returned (.slice none 0 0) ∧ W.drew = w') ∨
  (0 < len ∧ e = .returned (.slice (some ⟨W.heap.size, 0, none⟩) len len) ∧ Hid (Blk .u32 w' W.heap.size 68 xs) ∧ Hid (Below W.heap.size W w') ∧ W.heap.size < w'.heap.size)

/-- duplicate behind a draw -/
theorem duplicate_drew (ao : Option Addr) (len cap : Nat) (xs : List Nat) (W : World) (hs : Sl .u32 W ao len xs) (hl : len ≤ 1000000000) :
    Calls Try.prog 51 #[.slice ao len cap] W.drew (DupDrew len xs W) :=
  (duplicate_any ao len cap xs W.drew hs.drew hl).mono fun e w' h => by
    rcases h with ⟨h1, h2, h3⟩ | ⟨h1, h2, h3, h4, h5⟩
    · exact .inl ⟨h1, h2, h3⟩
    · exact .inr ⟨h1, h2, h3, (Below.refl _ _).drew.trans h4, h5⟩

def DivPost (m n : Nat) (W : World) (e : Ending) (w' : World) : Prop :=
  ∃ qo ql qc ro rl rc, e = .returned (.tuple #[.slice qo ql qc, .slice ro rl rc]) ∧ N32 w' qo ql (m / n) ∧ N32 w' ro rl (m % n) ∧ Below W.heap.size W w'

/-- divide is right for m and n -/
def DivOk (m n : Nat) : Prop := ∀ (ao bo : Option Addr) (la lb ca cb : Nat) (W : World), N32 W ao la m → N32 W bo lb n → la ≤ 1000000000 → lb ≤ 1000000000 →
  Calls Try.prog 36 #[.slice ao la ca, .slice bo lb cb] W (DivPost m n W)

set_option maxHeartbeats 2000000 in
theorem divide_easy (m n : Nat) (hn0 : 0 < n) (hn : n < B32) : DivOk m n := by
  intro ao bo la lb ca cb W ha hb hla hlb
  obtain ⟨xb, ⟨hxb, bb, ob, hbo, hcb⟩, hdb, htb, hvb⟩ := hb
  have hlb1 : lb = 1 := by
    have h1 : xb = [n] := val_inj B32_pos hdb (Dig.cons hn (Dig.nil _)) htb (fun _ => by simp; omega) (by rw [hvb]; simp [val])
    rw [h1] at hxb
    exact hxb.symm
  subst hlb1
  have hx0 : xb[0]?.getD 0 = n := by
    have h1 : xb = [n] := val_inj B32_pos hdb (Dig.cons hn (Dig.nil _)) htb (fun _ => by simp; omega) (by rw [hvb]; simp [val])
    rw [h1]; rfl
  obtain rfl := hbo (by omega)
  have hcell := hcb 0 (by omega)
  rw [Nat.add_zero, hx0] at hcell
  obtain ⟨xa, hsa, hda, hta, hva⟩ := ha
  have HSA := Lib.hid hsa
  have HDA := Lib.hid hda
  have HTA := Lib.hid hta
  have HVA := Lib.hid hva
  rw [B32_eq] at hn
  clear hxb hbo hcb hdb htb hvb hx0 hsa hda hta hva
  by_cases h0 : la = 0
  · subst h0
    go_enter Try.func36, Try.ntmps36
    go_wp2_with fail
    go_region_with (first | (go_at_call 51; refine (duplicate_drew _ _ _ xa W HSA.out (by omega)).mono ?_; rintro e w1 (⟨_, rfl, rfl⟩ | ⟨h, _⟩); rotate_left; omega) | (go_at_call 66; refine (shrink_nil _ _).mono ?_; rintro e w1 ⟨rfl, rfl⟩))
    all_goals
      go_wp2_with (go_at_call 56; refine (fromWord_any _ 0 _ rfl (by omega)).mono ?_; rintro e w5 ⟨ro, rl, rc, rfl, hr5, hb5⟩)
      go_ret2
      have hm0 : m = 0 := by
        rw [← HVA.out, List.eq_nil_of_length_eq_zero HSA.out.len]; rfl
      exact ⟨none, 0, 0, ro, rl, rc, rfl, by rw [hm0, Nat.zero_div]; exact N32.nil _ _, by rw [hm0, Nat.zero_mod]; exact hr5, (Below.refl _ _).drew.trans hb5⟩
  · have hcl : ∀ w1, Below W.heap.size W w1 → w1.cell? ⟨bb, ob, none⟩ = some (.int .u32 (n : Int)) := fun w1 h => cell_later h hcell
    have HCL := Lib.hid hcl
    clear hcl
    go_enter Try.func36, Try.ntmps36
    go_wp2_with fail
    go_region_with (first | (go_at_call 51; refine (duplicate_drew _ _ _ xa W HSA.out (by omega)).mono ?_; rintro e w1 (⟨h, _⟩ | ⟨_, rfl, hB, hb1, hz1⟩); omega; have hcl1 := HCL.out w1 hb1.out) | (go_at_call 66; refine (shrink_any W.heap.size 68 la la xa [] _ n _ (by simpa using hB.out) HSA.out.len HDA.out rfl hn0 hn (by omega) (Nat.le_refl _) (by omega)).mono ?_; rintro e w4 ⟨ao4, m4, zs4, rfl, hB4, hl4, hd4, hv4, hm4, ha4, hz4, ht4, hvt4, hg4, hs4⟩))
    all_goals
      have hmod : val B32 xa % n < 4294967296 := Nat.lt_of_lt_of_le (Nat.mod_lt _ hn0) (by omega)
      have HB4 := Lib.hid hB4
      have HT4 := Lib.hid ht4
      have HV4 := Lib.hid hvt4
      have HG4 := Lib.hid hg4
      have HL4 := Lib.hid hl4
      have HD4 := Lib.hid hd4
      have HA4 := Lib.hid ha4
      clear hB4 ht4 hvt4 hg4 hl4 hd4 ha4 hz4 hv4 hs4
      go_wp2_with (go_at_call 56; refine (fromWord_any _ (val B32 xa % n) _ rfl (by omega)).mono ?_; rintro e w5 ⟨ro, rl, rc, rfl, hr5, hb5⟩)
      go_ret2
      have hbel4 : Below W.heap.size W w4 := hb1.out.grown HG4.out (Nat.le_of_lt hz1) (fun k hk => by cases hk; exact Nat.le_refl _)
      have hq : N32 w4 ao4 m4 (m / n) := by
        refine ⟨zs4.take m4, ?_, HD4.out.take _, HT4.out, by rw [HV4.out, HVA.out]⟩
        have := HB4.out.sl0 m4 (by have := HL4.out; simp; omega)
        rw [List.append_nil] at this
        by_cases h : m4 = 0
        · subst h; exact Sl.nil _ _ _
        · rw [HA4.out (by omega)]; exact this
      exact ⟨ao4, m4, m4, ro, rl, rc, rfl, hq.keep hb5, by rw [← HVA.out]; exact hr5, below_then hbel4 hb5⟩
end Go.Proofs.Ytbihgllfllkkaaa
