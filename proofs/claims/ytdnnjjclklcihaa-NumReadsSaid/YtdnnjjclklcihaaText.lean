/- numerals: writeDigits. -/
import Derived.Test.YtdnnjjclklcihaaRev
set_option linter.unusedVariables false
namespace Go.Proofs.Ytdnnjjclklcihaa
open Go.RowKit

/-- the digits of n to the base 10, the lowest first; f: fuel -/
def lowF : Nat → Nat → List Nat
  | 0, _ => []
  | f + 1, n => if n = 0 then [] else n % 10 :: lowF f (n / 10)

theorem lowF_spec : ∀ (f n : Nat), n ≤ f → Dig 10 (lowF f n) ∧ Top (lowF f n) ∧ val 10 (lowF f n) = n
  | 0, n, h => by
    obtain rfl : n = 0 := by omega
    exact ⟨Dig.nil _, Top.nil, rfl⟩
  | f + 1, n, h => by
    simp only [lowF]
    split
    · rename_i h0; subst h0; exact ⟨Dig.nil _, Top.nil, rfl⟩
    · rename_i h0
      obtain ⟨h1, h2, h3⟩ := lowF_spec f (n / 10) (by omega)
      refine ⟨Dig.cons (Nat.mod_lt _ (by decide)) h1, ?_, ?_⟩
      · by_cases he : lowF f (n / 10) = []
        · intro _
          rw [he] at h3
          simp only [val] at h3
          rw [he]
          simp
          omega
        · intro _
          have := h2 he
          rw [List.getLastD_eq_getLast?] at this ⊢
          rw [List.getLast?_cons]
          cases h : (lowF f (n / 10)).getLast? with
          | none => exact absurd (List.getLast?_eq_none_iff.1 h) he
          | some d => rw [h] at this; simpa using this
      · rw [val_cons, h3]; omega

def low (n : Nat) : List Nat := lowF n n

theorem low_of {n : Nat} {ts : List Nat} (h1 : Dig 10 ts) (h2 : Top ts) (h3 : val 10 ts = n) : ts = low n := by
  obtain ⟨a, b, c⟩ := lowF_spec n n (Nat.le_refl _)
  exact val_inj (by decide) h1 a h2 b (by rw [h3]; exact c.symm)

def chars (ts : List Nat) : List UInt8 := ts.map fun d => UInt8.ofNat (48 + d)

/-- the numeral of a natural number -/
def numeral (n : Nat) : List UInt8 := if n = 0 then [48] else chars (low n).reverse

/-- one decimal digit more -/
theorem write_step {ts : List Nat} {v r g m : Nat} (h : val 10 ts + 10 ^ ts.length * (g + 10 * m * r) = v) :
    val 10 (ts ++ [g % 10]) + 10 ^ (ts ++ [g % 10]).length * (g / 10 + m * r) = v := by
  rw [val_snoc]
  simp only [List.length_append, List.length_cons, List.length_nil, Nat.zero_add, Nat.pow_succ]
  have h2 := Nat.mod_add_div g 10
  generalize g % 10 = d at *
  generalize g / 10 = q at *
  generalize 10 ^ ts.length = p at *
  grind


def pow10 (i : Nat) : Nat := 10 ^ i

/-- what the text holds so far, and what is still to come: the group g, of at most 9 - i digits, and r above it -/
structure WIn (g i r n : Nat) (ts : List Nat) : Prop where
  dig : Dig 10 ts
  sum : val 10 ts + 10 ^ ts.length * (g + 10 ^ (9 - i) * r) = n
  small : g < 10 ^ (9 - i)
  le : i ≤ 9
  top : r = 0 → 0 < g ∨ (ts ≠ [] ∧ Top ts)

theorem WIn.step {g i r n : Nat} {ts : List Nat} (h : WIn g i r n ts) (hi : i < 9) (hgo : 0 < g ∨ 0 < r) : WIn (g / 10) (i + 1) r n (ts ++ [g % 10]) := by
  obtain ⟨m, hm⟩ : ∃ m, 10 ^ (9 - (i + 1)) = m := ⟨_, rfl⟩
  have e : 10 ^ (9 - i) = 10 * m := by rw [← hm, show 9 - i = (9 - (i + 1)) + 1 by omega, Nat.pow_succ, Nat.mul_comm]
  have h1 := h.sum
  have h2 := h.small
  rw [e] at h1 h2
  refine ⟨h.dig.append (Dig.cons (Nat.mod_lt _ (by decide)) (Dig.nil _)), ?_, ?_, by omega, ?_⟩
  · rw [hm]; exact write_step h1
  · rw [hm]; omega
  · intro hr
    by_cases hq : 0 < g / 10
    · exact .inl hq
    · refine .inr ⟨by simp, fun _ => ?_⟩
      have : 0 < g := by omega
      simp
      omega

theorem WIn.done {g i r n : Nat} {ts : List Nat} (h : WIn g i r n ts) (hd : ¬ (i < 9 ∧ (0 < g ∨ 0 < r))) : val 10 ts + 10 ^ ts.length * r = n ∧ (r = 0 → ts ≠ [] ∧ Top ts) := by
  have h1 := h.sum
  have h2 := h.small
  have h3 := h.le
  by_cases hi : i = 9
  · subst hi
    simp only [Nat.sub_self, Nat.pow_zero, Nat.lt_one_iff] at h2
    subst h2
    simp at h1
    refine ⟨h1, fun hr => ?_⟩
    rcases h.top hr with h4 | h4
    · omega
    · exact h4
  · have hg : g = 0 := by omega
    have hr : r = 0 := by omega
    subst hg hr
    simp at h1 ⊢
    refine ⟨h1, ?_⟩
    rcases h.top rfl with h4 | h4
    · omega
    · exact h4

theorem WIn.start {n v : Nat} {ts : List Nat} (hd : Dig 10 ts) (h : val 10 ts + 10 ^ ts.length * v = n) (hv : 0 < v) : WIn (v % 1000000000) 0 (v / 1000000000) n ts := by
  refine ⟨hd, ?_, ?_, by omega, ?_⟩
  · have e : v % 1000000000 + 10 ^ (9 - 0) * (v / 1000000000) = v := by
      have := Nat.mod_add_div v 1000000000
      exact this
    rw [e]; exact h
  · have := Nat.mod_lt v (show 0 < 1000000000 by decide)
    exact this
  · intro hr; left; omega

/-- the rest in block g, the text in blocks behind it -/
def WrRel (n g : Nat) (W : World) (rv tv : Value) (wr : World) : Prop :=
  ∃ (ao : Option Addr) (len k v : Nat) (zs post ts : List Nat), rv = .slice ao len len ∧ (0 < len → ao = some ⟨g, 0, none⟩) ∧ Blk .u32 wr g 104 (zs ++ post) ∧ zs.length = len ∧ len ≤ 1000000000 ∧ Dig B32 zs ∧ Top zs ∧ val B32 zs = v ∧
    Own .u8 wr (g + 1) 5 tv k (ts.map (48 + ·)) ∧ Dig 10 ts ∧ val 10 ts + 10 ^ ts.length * v = n ∧ (v = 0 → ts ≠ [] ∧ Top ts) ∧ Below W.heap.size W wr ∧ W.heap.size ≤ g ∧ g < wr.heap.size

def WrIn (n g r : Nat) (W0 : World) (gv tv iv : Value) (wr : World) : Prop :=
  ∃ (d i k : Nat) (ts : List Nat), gv = .int .u32 (d : Int) ∧ iv = .int .i64 (i : Int) ∧ Own .u8 wr (g + 1) 5 tv k (ts.map (48 + ·)) ∧ WIn d i r n ts ∧ Below (g + 1) W0 wr

theorem text_len {n la k : Nat} (h : 10 ^ k ≤ n) (hn : n < B32 ^ la) : k ≤ 32 * la := by
  rw [B32_pow] at hn
  have h1 : 2 ^ k ≤ 10 ^ k := Nat.pow_le_pow_left (by decide) k
  have h2 : 2 ^ k < 2 ^ (32 * la) := by omega
  have := (Nat.pow_lt_pow_iff_right (show 1 < 2 by decide)).1 h2
  omega

theorem WIn.len {g i r n la : Nat} {ts : List Nat} (h : WIn g i r n ts) (hgo : 0 < g ∨ 0 < r) (hn : n < B32 ^ la) : ts.length ≤ 32 * la := by
  refine text_len ?_ hn
  have h1 := h.sum
  have h2 : 0 < g + 10 ^ (9 - i) * r := by
    rcases hgo with h3 | h3
    · omega
    · have := Nat.mul_pos (Nat.pow_pos (n := 9 - i) (show 0 < 10 by decide)) h3
      omega
  have h3 := Nat.mul_le_mul_left (10 ^ ts.length) h2
  omega

/-- the bytes of a row of digits -/
theorem chars_cells {w : World} {g n cap e base : Nat} {ts : List Nat} (h : Own .u8 w base e (.slice (some ⟨g, 0, none⟩) n cap) n (ts.map (48 + ·))) (hd : Dig 10 ts) :
    ∀ j (hj : j < (chars ts).length), w.cell? ((⟨g, 0, none⟩ : Addr).add j) = some (.int .u8 ((chars ts)[j].toNat : Int)) := by
  intro j hj
  have hl := h.len
  simp only [List.length_map] at hl
  have hj2 : j < ts.length := by simpa [chars] using hj
  have e1 : ((⟨g, 0, none⟩ : Addr).add j) = ⟨g, j, none⟩ := by unfold Addr.add; split <;> simp_all
  rw [e1]
  rcases h.cases with ⟨h0, _⟩ | ⟨g', cap', h0, _, _, _, _, h3⟩
  · cases h0
  · cases h0
    rw [(h3 j (by omega)).1]
    have hdj := hd ts[j] (List.getElem_mem hj2)
    have e2 : (chars ts)[j].toNat = 48 + ts[j] := by
      simp only [chars, List.getElem_map, UInt8.toNat_ofNat']
      omega
    rw [e2]
    simp [List.getElem?_eq_getElem hj2]

end Go.Proofs.Ytdnnjjclklcihaa
