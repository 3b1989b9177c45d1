/- Part 4 of the contracts: PFacts, PLaw, PPair, BedTurnsW. -/
import Derived.Deep.AppendLies
import Derived.Deep.RegionHeldLaw
import Derived.Test.YtcbbdbglbfnbpaaPart3

/- Facts on ticks, runs and steeping: sums, bounds, rest, turning, adding. No function is walked here. -/
set_option linter.unusedVariables false
set_option linter.unusedSimpArgs false
namespace Go.Proofs.Ytcbbdbglbfnbpaa
open Go.RowKit

theorem sum_set : ∀ (xs : List Int) (i : Nat) (v : Int), i < xs.length → (xs.set i v).sum = xs.sum - xs[i]?.getD 0 + v
  | [], i, v, h => by simp at h
  | x :: xs, 0, v, h => by simp [List.sum_cons]; omega
  | x :: xs, i + 1, v, h => by
    have := sum_set xs i v (by simpa using h)
    simp only [List.set_cons_succ, List.sum_cons, List.getElem?_cons_succ]
    omega

theorem get_set_ne (xs : List Int) {i j : Nat} (h : i ≠ j) (v : Int) : (xs.set i v)[j]?.getD 0 = xs[j]?.getD 0 := by rw [List.getElem?_set, if_neg h]

theorem pairF_sum (n d : Int) (xs acc : List Int) {j : Nat} (h1 : 1 ≤ j) (hj : j < acc.length) : (pairF n d xs acc j).sum = acc.sum := by
  unfold pairF
  rw [sum_set _ _ _ (by rw [List.length_set]; exact hj), sum_set _ _ _ (by omega), get_set_ne _ (by omega)]
  omega

theorem fold_sum (n d : Int) (xs : List Int) : ∀ m, m + 1 ≤ xs.length → ((List.range' 1 m).foldl (pairF n d xs) xs).sum = xs.sum
  | 0, _ => rfl
  | m + 1, h => by
    rw [List.range'_concat, List.foldl_append, Nat.one_mul, Nat.add_comm 1 m]
    show (pairF n d xs _ (m + 1)).sum = _
    rw [pairF_sum n d xs _ (by omega) (by rw [(done_fold n d xs m (by omega)).1]; omega), fold_sum n d xs m (by omega)]

theorem tick_sum {n d l : Int} {xs : List Int} (h0 : 1 ≤ xs.length) : (tickL n d l xs).sum + lostL d l xs = xs.sum := by
  have hd := done_fold n d xs (xs.length - 1) (by omega)
  rw [← tick_of_done (l := l) h0 hd _ rfl, sum_set _ _ _ (by rw [hd.1]; omega), fold_sum n d xs _ (by omega)]
  omega

theorem run_bed {n d l : Int} (hg : Grainy n d l) : ∀ (t : Nat) (xs : List Int), Bedly xs → Bedly (runL n d l t xs).1
  | 0, _, h => h
  | t + 1, xs, h => by
    simp only [runL]
    split
    · exact h
    · exact run_bed hg t _ (tick_bed h hg)

theorem run_sum {n d l : Int} (hg : Grainy n d l) : ∀ (t : Nat) (xs : List Int), Bedly xs → (runL n d l t xs).1.sum + (runL n d l t xs).2.1 = xs.sum ∧ 0 ≤ (runL n d l t xs).2.1 ∧ (runL n d l t xs).2.1 ≤ t * 1048576
  | 0, xs, _ => by simp [runL]
  | t + 1, xs, h => by
    have ih := run_sum hg t _ (tick_bed h hg)
    have hs := tick_sum (n := n) (d := d) (l := l) h.1
    have hl := lost_bound h hg
    simp only [runL]
    split
    · simp only []
      omega
    · simp only []
      omega

theorem steep_bed {full : Int} (hf : 0 ≤ full ∧ full ≤ 1048576) : ∀ (xs : List Int) (water : Int), 0 ≤ water → (∀ i, i < xs.length → 0 ≤ xs[i]?.getD 0 ∧ xs[i]?.getD 0 ≤ 1048576) → ∀ i, i < (steepL full xs water).1.length → 0 ≤ (steepL full xs water).1[i]?.getD 0 ∧ (steepL full xs water).1[i]?.getD 0 ≤ 1048576
  | [], _, _, _, i, hi => by simp [steepL] at hi
  | x :: xs, water, hw, h, i, hi => by
    have h0 := h 0 (by simp)
    simp only [List.getElem?_cons_zero, Option.getD_some] at h0
    cases i with
    | zero => simp only [steepL, List.getElem?_cons_zero, Option.getD_some]; omega
    | succ i =>
      simp only [steepL, List.getElem?_cons_succ]
      exact steep_bed hf xs _ (by omega) (fun k hk => by have := h (k + 1) (by simpa using hk); simpa using this) i (by simpa [steepL] using hi)
theorem steepBed {full water : Int} {xs : List Int} (hb : Bedly xs) (hf : 0 ≤ full ∧ full ≤ 1048576) (hw : 0 ≤ water) : Bedly (steepL full xs water).1 :=
  ⟨by rw [steepL_len]; exact hb.1, by rw [steepL_len]; exact hb.2.1, steep_bed hf xs water hw hb.2.2⟩

/-! runs one after the other -/
theorem run_add (n d l : Int) : ∀ (p q : Nat) (xs : List Int), runL n d l (p + q) xs =
    ((runL n d l q (runL n d l p xs).1).1, (runL n d l p xs).2.1 + (runL n d l q (runL n d l p xs).1).2.1, (runL n d l p xs).2.2 + (runL n d l q (runL n d l p xs).1).2.2)
  | 0, q, xs => by simp [runL]
  | p + 1, q, xs => by
    rw [show p + 1 + q = (p + q) + 1 by omega]
    by_cases h : tickL n d l xs = xs
    · have hq : runL n d l q xs = (xs, 0, 0) := by
        cases q with
        | zero => rfl
        | succ q => simp only [runL]; rw [if_pos h]
      simp only [runL]
      rw [if_pos h, if_pos h]
      simp only [hq]
      simp
    · simp only [runL]
      rw [if_neg h, if_neg h, run_add n d l p q]
      simp only [Prod.mk.injEq, true_and]
      omega

theorem run_le (n d l : Int) : ∀ (t : Nat) (xs : List Int), (runL n d l t xs).2.2 ≤ t
  | 0, _ => Nat.le_refl _
  | t + 1, xs => by
    have := run_le n d l t (tickL n d l xs)
    simp only [runL]
    split
    · exact Nat.zero_le _
    · simp only []; omega
/-- a run that ends ahead of time has come to rest -/
theorem run_rest (n d l : Int) : ∀ (t : Nat) (xs : List Int), (runL n d l t xs).2.2 < t → tickL n d l (runL n d l t xs).1 = (runL n d l t xs).1
  | 0, _, h => absurd h (by simp [runL])
  | t + 1, xs, h => by
    simp only [runL] at h ⊢
    split at h
    · rename_i hr
      rw [if_pos hr]
      exact hr
    · rename_i hr
      rw [if_neg hr]
      exact run_rest n d l t _ (by simp only [] at h; omega)

theorem after_succ (n d l : Int) (xs : List Int) : ∀ k, afterL n d l xs (k + 1) = afterL n d l (tickL n d l xs) k
  | 0 => rfl
  | k + 1 => by
    show tickL n d l (afterL n d l xs (k + 1)) = tickL n d l (afterL n d l (tickL n d l xs) k)
    rw [after_succ n d l xs k]
theorem after_same {n d l : Int} {xs : List Int} (h : tickL n d l xs = xs) : ∀ k, afterL n d l xs k = xs
  | 0 => rfl
  | k + 1 => by show tickL n d l (afterL n d l xs k) = xs; rw [after_same h k, h]
theorem run_after (n d l : Int) : ∀ (t : Nat) (xs : List Int), (runL n d l t xs).1 = afterL n d l xs t
  | 0, _ => rfl
  | t + 1, xs => by
    by_cases h : tickL n d l xs = xs
    · rw [after_same h]
      simp only [runL]
      rw [if_pos h]
    · rw [after_succ, ← run_after n d l t]
      simp only [runL]
      rw [if_neg h]

/-! without a loss -/
theorem lost_none (d : Int) (xs : List Int) : lostL d 0 xs = 0 := by unfold lostL; rw [Int.mul_zero]; exact Int.zero_tdiv d
theorem flow_turn (n d x y : Int) : flow n d y x = -flow n d x y := by
  unfold flow
  rw [show y - x = -(x - y) by omega, Int.neg_mul, Int.neg_tdiv]
theorem flow_add (n d x y z : Int) : flow n d (x + z) (y + z) = flow n d x y := by unfold flow; rw [show x + z - (y + z) = x - y by omega]
theorem flow_same (n d x : Int) : flow n d x x = 0 := by unfold flow; rw [Int.sub_self, Int.zero_mul]; exact Int.zero_tdiv d

theorem cell_in {n d low high : Int} {xs : List Int} (h3 : 0 ≤ n) (h5 : 1 ≤ d) (h6 : 2 * n ≤ d) (h : In low high xs) {i : Nat} (hi : i < xs.length) : low ≤ cellT n d 0 xs i ∧ cellT n d 0 xs i ≤ high := by
  have hx := h i hi
  unfold cellT
  rw [lost_none]
  by_cases c : i = 0
  · subst c
    rw [if_pos rfl]
    by_cases c2 : 0 + 1 < xs.length
    · rw [if_pos c2]
      have hz := h (0 + 1) c2
      have := half_part (p := xs[0]?.getD 0 - xs[0 + 1]?.getD 0) (n := n) (d := d) h3 h5 h6
      unfold flow
      omega
    · rw [if_neg c2]; omega
  · rw [if_neg c]
    have hy := h (i - 1) (by omega)
    have h1 := half_part (p := xs[i - 1]?.getD 0 - xs[i]?.getD 0) (n := n) (d := d) h3 h5 h6
    unfold flow
    by_cases c2 : i + 1 < xs.length
    · rw [if_pos c2]
      have hz := h (i + 1) c2
      have h2 := half_part (p := xs[i]?.getD 0 - xs[i + 1]?.getD 0) (n := n) (d := d) h3 h5 h6
      omega
    · rw [if_neg c2]; omega
theorem tick_in {n d low high : Int} {xs : List Int} (hg : Grainy n d 0) (h : In low high xs) : In low high (tickL n d 0 xs) := fun i hi => by
  obtain ⟨g1, g2, g3, g4, g5, g6, g7⟩ := hg
  rw [tickL_len] at hi
  rw [tickL_get n d 0 xs i hi]
  exact cell_in g3 g1 (by omega) h hi
theorem runs_in {n d low high : Int} (hg : Grainy n d 0) : ∀ (t : Nat) (xs : List Int), In low high xs → In low high (runL n d 0 t xs).1
  | 0, _, h => h
  | t + 1, xs, h => by
    simp only [runL]
    split
    · exact h
    · exact runs_in hg t _ (tick_in hg h)
theorem run_lost0 (n d : Int) : ∀ (t : Nat) (xs : List Int), (runL n d 0 t xs).2.1 = 0
  | 0, _ => rfl
  | t + 1, xs => by
    simp only [runL]
    split
    · rfl
    · simp only [lost_none, run_lost0 n d t]; rfl

theorem lowZ_le (z : Int) (xs : List Int) : ∀ k, k ≤ xs.length → lowZ z (xs.take k) ≤ z ∧ ∀ i, i < k → lowZ z (xs.take k) ≤ xs[i]?.getD 0
  | 0, _ => ⟨by simp [lowZ], fun i hi => absurd hi (by omega)⟩
  | k + 1, hk => by
    have ih := lowZ_le z xs k (by omega)
    rw [lowZ_step z (by omega)]
    refine ⟨by omega, fun i hi => ?_⟩
    rcases Nat.lt_succ_iff_lt_or_eq.1 hi with h | rfl
    · have := ih.2 i h; omega
    · omega
theorem le_highZ (z : Int) (xs : List Int) : ∀ k, k ≤ xs.length → z ≤ highZ z (xs.take k) ∧ ∀ i, i < k → xs[i]?.getD 0 ≤ highZ z (xs.take k)
  | 0, _ => ⟨by simp [highZ], fun i hi => absurd hi (by omega)⟩
  | k + 1, hk => by
    have ih := le_highZ z xs k (by omega)
    rw [highZ_step z (by omega)]
    refine ⟨by omega, fun i hi => ?_⟩
    rcases Nat.lt_succ_iff_lt_or_eq.1 hi with h | rfl
    · have := ih.2 i h; omega
    · omega
theorem lowZ_ge {low z : Int} (xs : List Int) (hz : low ≤ z) (h : ∀ i, i < xs.length → low ≤ xs[i]?.getD 0) : ∀ k, k ≤ xs.length → low ≤ lowZ z (xs.take k)
  | 0, _ => by simpa [lowZ] using hz
  | k + 1, hk => by
    have ih := lowZ_ge xs hz h k (by omega)
    have := h k (by omega)
    rw [lowZ_step z (by omega)]
    omega
theorem highZ_le {high z : Int} (xs : List Int) (hz : z ≤ high) (h : ∀ i, i < xs.length → xs[i]?.getD 0 ≤ high) : ∀ k, k ≤ xs.length → highZ z (xs.take k) ≤ high
  | 0, _ => by simpa [highZ] using hz
  | k + 1, hk => by
    have ih := highZ_le xs hz h k (by omega)
    have := h k (by omega)
    rw [highZ_step z (by omega)]
    omega
theorem in_span (xs : List Int) : In (lowZ (xs[0]?.getD 0) xs) (highZ (xs[0]?.getD 0) xs) xs := fun i hi => by
  have a := lowZ_le (xs[0]?.getD 0) xs xs.length (Nat.le_refl _)
  have b := le_highZ (xs[0]?.getD 0) xs xs.length (Nat.le_refl _)
  rw [List.take_length] at a b
  exact ⟨a.2 i hi, b.2 i hi⟩
theorem spread_le {low high : Int} {xs : List Int} (h0 : 0 < xs.length) (h : In low high xs) : spreadL xs ≤ high - low := by
  have a := lowZ_ge xs (h 0 h0).1 (fun i hi => (h i hi).1) xs.length (Nat.le_refl _)
  have b := highZ_le xs (h 0 h0).2 (fun i hi => (h i hi).2) xs.length (Nat.le_refl _)
  rw [List.take_length] at a b
  unfold spreadL
  omega

/-- no flow between the cells i and i + 1 -/
def Calm (n d : Int) (xs : List Int) (m : Nat) : Prop := ∀ i, i < m → max (xs[i]?.getD 0 - xs[i + 1]?.getD 0) (xs[i + 1]?.getD 0 - xs[i]?.getD 0) * n < d

theorem flow_zero {n d x y : Int} (h3 : 0 ≤ n) (h5 : 1 ≤ d) : flow n d x y = 0 ↔ max (x - y) (y - x) * n < d := by
  have key : ∀ p : Int, 0 ≤ p → ((p * n).tdiv d = 0 ↔ p * n < d) := by
    intro p hp
    have h1 : 0 ≤ p * n := Int.mul_nonneg hp h3
    rw [Int.tdiv_eq_ediv_of_nonneg h1]
    constructor
    · intro h
      have h2 := Int.emod_add_mul_ediv (p * n) d
      rw [h, Int.mul_zero, Int.add_zero] at h2
      have h4 := Int.emod_lt_of_pos (p * n) (show 0 < d by omega)
      omega
    · exact Int.ediv_eq_zero_of_lt h1
  by_cases hp : 0 ≤ x - y
  · rw [show max (x - y) (y - x) = x - y by omega]
    exact key _ hp
  · rw [show max (x - y) (y - x) = y - x by omega, ← key (y - x) (by omega)]
    show flow n d x y = 0 ↔ flow n d y x = 0
    rw [flow_turn n d y x]
    omega

theorem calm_iff {n d l : Int} {xs : List Int} (hg : Grainy n d l) : Calm n d xs (xs.length - 1) ↔ ∀ i, i + 1 < xs.length → flow n d (xs[i]?.getD 0) (xs[i + 1]?.getD 0) = 0 := by
  obtain ⟨g1, g2, g3, g4, g5, g6, g7⟩ := hg
  exact ⟨fun h i hi => (flow_zero g3 g1).2 (h i (by omega)), fun h i hi => (flow_zero g3 g1).1 (h i (by omega))⟩

theorem rest_iff {n d : Int} {xs : List Int} (hg : Grainy n d 0) : tickL n d 0 xs = xs ↔ Calm n d xs (xs.length - 1) := by
  rw [calm_iff hg]
  constructor
  · intro h i
    have hc : ∀ i, i < xs.length → cellT n d 0 xs i = xs[i]?.getD 0 := fun i hi => by rw [← tickL_get n d 0 xs i hi, h]
    induction i with
    | zero =>
      intro hi
      have h0 := hc 0 (by omega)
      unfold cellT at h0
      rw [if_pos rfl, if_pos hi, lost_none] at h0
      omega
    | succ i ih =>
      intro hi
      have h1 := ih (by omega)
      have h0 := hc (i + 1) (by omega)
      unfold cellT at h0
      rw [if_neg (by omega), if_pos hi, Nat.add_sub_cancel] at h0
      omega
  · intro h
    refine list_eq (tickL_len _ _ _ _) fun i hi => ?_
    rw [tickL_len] at hi
    rw [tickL_get n d 0 xs i hi]
    unfold cellT
    rw [lost_none]
    by_cases c : i = 0
    · subst c
      rw [if_pos rfl]
      by_cases c2 : 0 + 1 < xs.length
      · rw [if_pos c2, h 0 c2]; omega
      · rw [if_neg c2]; omega
    · have h1 := h (i - 1) (by omega)
      rw [show i - 1 + 1 = i by omega] at h1
      rw [if_neg c, h1]
      by_cases c2 : i + 1 < xs.length
      · rw [if_pos c2, h i c2]; omega
      · rw [if_neg c2]; omega

theorem tick_turn (n d : Int) (xs : List Int) : tickL n d 0 xs.reverse = (tickL n d 0 xs).reverse := by
  refine list_eq (by rw [tickL_len, List.length_reverse, List.length_reverse, tickL_len]) fun i hi => ?_
  rw [tickL_len, List.length_reverse] at hi
  rw [tickL_get n d 0 _ i (by rw [List.length_reverse]; exact hi), List.getElem?_reverse (by rw [tickL_len]; exact hi), tickL_len, tickL_get n d 0 xs _ (by omega)]
  unfold cellT
  rw [lost_none, lost_none, List.length_reverse, List.getElem?_reverse (show i < xs.length from hi)]
  by_cases c : i = 0
  · subst c
    rw [if_pos rfl]
    by_cases c2 : 0 + 1 < xs.length
    · rw [if_pos c2, List.getElem?_reverse c2, if_neg (show ¬ xs.length - 1 - 0 = 0 by omega), if_neg (show ¬ xs.length - 1 - 0 + 1 < xs.length by omega), List.getElem?_reverse (show 0 < xs.length by omega)]
      rw [flow_turn n d (xs[xs.length - 1 - (0 + 1)]?.getD 0) (xs[xs.length - 1 - 0]?.getD 0), show xs.length - 1 - 0 - 1 = xs.length - 1 - (0 + 1) by omega]
      omega
    · rw [if_neg c2, if_pos (show xs.length - 1 - 0 = 0 by omega), if_neg (show ¬ xs.length - 1 - 0 + 1 < xs.length by omega), List.getElem?_reverse (show 0 < xs.length by omega), show xs.length - 1 - 0 = 0 by omega]
  · rw [if_neg c, List.getElem?_reverse (show i - 1 < xs.length by omega)]
    rw [if_pos (show xs.length - 1 - i + 1 < xs.length by omega), show xs.length - 1 - (i - 1) = xs.length - 1 - i + 1 by omega, flow_turn n d (xs[xs.length - 1 - i]?.getD 0) (xs[xs.length - 1 - i + 1]?.getD 0)]
    by_cases c2 : i + 1 < xs.length
    · rw [if_pos c2, List.getElem?_reverse c2, if_neg (show ¬ xs.length - 1 - i = 0 by omega), show xs.length - 1 - (i + 1) = xs.length - 1 - i - 1 by omega, flow_turn n d (xs[xs.length - 1 - i - 1]?.getD 0) (xs[xs.length - 1 - i]?.getD 0)]
      omega
    · rw [if_neg c2, if_pos (show xs.length - 1 - i = 0 by omega), show xs.length - 1 - i = 0 by omega]
      omega

/-- z more in each cell -/
def moreL (z : Int) (xs : List Int) : List Int := xs.map (· + z)
theorem moreL_len (z : Int) (xs : List Int) : (moreL z xs).length = xs.length := by simp [moreL]
theorem moreL_get (z : Int) (xs : List Int) {i : Nat} (hi : i < xs.length) : (moreL z xs)[i]?.getD 0 = xs[i]?.getD 0 + z := by
  simp [moreL, List.getElem?_eq_getElem hi]
theorem tick_more (n d z : Int) (xs : List Int) : tickL n d 0 (moreL z xs) = moreL z (tickL n d 0 xs) := by
  refine list_eq (by rw [tickL_len, moreL_len, moreL_len, tickL_len]) fun i hi => ?_
  rw [tickL_len, moreL_len] at hi
  rw [tickL_get n d 0 _ i (by rw [moreL_len]; exact hi), moreL_get z _ (by rw [tickL_len]; exact hi), tickL_get n d 0 xs i hi]
  unfold cellT
  rw [lost_none, lost_none, moreL_len, moreL_get z xs hi]
  by_cases c : i = 0
  · subst c
    rw [if_pos rfl, if_pos rfl, moreL_get z xs hi]
    by_cases c2 : 0 + 1 < xs.length
    · rw [if_pos c2, if_pos c2, moreL_get z xs c2, flow_add]; omega
    · rw [if_neg c2, if_neg c2]; omega
  · rw [if_neg c, if_neg c, moreL_get z xs (show i - 1 < xs.length by omega), flow_add]
    by_cases c2 : i + 1 < xs.length
    · rw [if_pos c2, if_pos c2, moreL_get z xs c2, flow_add]; omega
    · rw [if_neg c2, if_neg c2]; omega
theorem tick_flat {n d z : Int} (hg : Grainy n d 0) (k : Nat) : tickL n d 0 (List.replicate k z) = List.replicate k z := by
  rw [rest_iff hg, calm_iff hg]
  intro i hi
  rw [List.length_replicate] at hi
  rw [List.getElem?_replicate, List.getElem?_replicate, if_pos (by omega), if_pos hi]
  exact flow_same n d z
end Go.Proofs.Ytcbbdbglbfnbpaa

/- The laws' end, and package bed's functions at arguments that are valid, or not. -/
set_option linter.unusedVariables false
set_option linter.unusedSimpArgs false
namespace Go.Proofs.Ytcbbdbglbfnbpaa
open Go.RowKit

theorem awakeP (W : World) : Calls Try.prog 12 #[] W (fun e w' => e = .returned (.bool true) ∧ Below W.heap.size W w') := awake_any runOk steepOk W

def Out2 (W : World) (kv ev : Int) (e : Ending) (w' : World) : Prop := e = .returned (.tuple #[.int .i64 kv, .int .i64 ev]) ∧ Below W.heap.size W w'

section
variable {n d l t full water low high : Int} {ao : Option Addr} {la ca : Nat} {xs : List Int} {W : World}
theorem tickYes (hs : Il W ao la xs) (hla : la ≤ 9223372036854775807) (hb : Bedly xs) (hg : Grainy n d l) :
    Calls Try.prog 14 #[.agg #[.int .i64 n, .int .i64 d, .int .i64 l], .slice ao la ca] W (OutLIE W (tickL n d l xs) (lostL d l xs)) :=
  (tickOk n d l ao la ca xs W hs hla).mono fun e w k => k.elim (fun k => k.2.2) (fun k => absurd ⟨hb, hg⟩ k.1)
theorem tickNo (hs : Il W ao la xs) (hla : la ≤ 9223372036854775807) (hv : ¬ (Bedly xs ∧ Grainy n d l)) :
    Calls Try.prog 14 #[.agg #[.int .i64 n, .int .i64 d, .int .i64 l], .slice ao la ca] W (NoneLIE W 2) :=
  (tickOk n d l ao la ca xs W hs hla).mono fun e w k => k.elim (fun k => absurd ⟨k.1, k.2.1⟩ hv) (fun k => k.2)
theorem runYes (hs : Il W ao la xs) (hla : la ≤ 9223372036854775807) (hv : Bedly xs ∧ Grainy n d l ∧ 0 ≤ t ∧ t ≤ 1048576) {T : Nat} (hT : t.toNat = T) :
    Calls Try.prog 19 #[.agg #[.int .i64 n, .int .i64 d, .int .i64 l], .slice ao la ca, .int .i64 t] W (OutRunE W (runL n d l T xs)) := by
  subst hT
  exact (runOk n d l t ao la ca xs W hs hla).mono fun e w k => k.elim (fun k => k.2.2.2.2) (fun k => absurd hv k.1)
theorem runNo (hs : Il W ao la xs) (hla : la ≤ 9223372036854775807) (hv : ¬ (Bedly xs ∧ Grainy n d l ∧ 0 ≤ t ∧ t ≤ 1048576)) :
    Calls Try.prog 19 #[.agg #[.int .i64 n, .int .i64 d, .int .i64 l], .slice ao la ca, .int .i64 t] W (NoneRunE W) :=
  (runOk n d l t ao la ca xs W hs hla).mono fun e w k => k.elim (fun k => absurd ⟨k.1, k.2.1, k.2.2.1, k.2.2.2.1⟩ hv) (fun k => k.2)
theorem steepYes (hs : Il W ao la xs) (hla : la ≤ 9223372036854775807) (hw : water ≤ 9223372036854775807) (hv : Bedly xs ∧ 0 ≤ full ∧ full ≤ 1048576 ∧ 0 ≤ water) :
    Calls Try.prog 23 #[.slice ao la ca, .int .i64 full, .int .i64 water] W (OutLIE W (steepL full xs water).1 (steepL full xs water).2) :=
  (steepOk full water ao la ca xs W hs hla hw).mono fun e w k => k.elim (fun k => k.2.2.2.2) (fun k => absurd hv k.1)
theorem steepNo (hs : Il W ao la xs) (hla : la ≤ 9223372036854775807) (hw : water ≤ 9223372036854775807) (hv : ¬ (Bedly xs ∧ 0 ≤ full ∧ full ≤ 1048576 ∧ 0 ≤ water)) :
    Calls Try.prog 23 #[.slice ao la ca, .int .i64 full, .int .i64 water] W (NoneLIE W 2) :=
  (steepOk full water ao la ca xs W hs hla hw).mono fun e w k => k.elim (fun k => absurd ⟨k.1, k.2.1, k.2.2.1, k.2.2.2.1⟩ hv) (fun k => k.2)
theorem turnYes (hs : Il W ao la xs) (hla : la ≤ 9223372036854775807) (hv : Bedly xs) : Calls Try.prog 24 #[.slice ao la ca] W (OutLE W xs.reverse) :=
  (turnOk ao la ca xs W hs hla).mono fun e w k => k.elim (fun k => k.2) (fun k => absurd hv k.1)
theorem spreadYes (hs : Il W ao la xs) (hla : la ≤ 9223372036854775807) (hv : Bedly xs) : Calls Try.prog 25 #[.slice ao la ca] W (Out2 W (spreadL xs) 0) :=
  (spreadOk ao la ca xs W hs hla).mono fun e w k => k.elim (fun k => k.2) (fun k => absurd hv k.1)
theorem untilYes (hs : Il W ao la xs) (hla : la ≤ 9223372036854775807) (hv : Bedly xs ∧ Grainy n d l ∧ 0 ≤ t ∧ t ≤ 1048576) {M : Nat} (hM : t.toNat = M) :
    Calls Try.prog 21 #[.agg #[.int .i64 n, .int .i64 d, .int .i64 l], .slice ao la ca, .int .i64 low, .int .i64 high, .int .i64 t] W (OutUntil n d l low high M xs W) := by
  subst hM
  exact (untilOk n d l low high t ao la ca xs W hs hla).mono fun e w k => k.elim (fun k => k.2.2.2.2) (fun k => absurd hv k.1)
theorem untilNo (hs : Il W ao la xs) (hla : la ≤ 9223372036854775807) (hv : ¬ (Bedly xs ∧ Grainy n d l ∧ 0 ≤ t ∧ t ≤ 1048576)) :
    Calls Try.prog 21 #[.agg #[.int .i64 n, .int .i64 d, .int .i64 l], .slice ao la ca, .int .i64 low, .int .i64 high, .int .i64 t] W (Out2 W 0 2) :=
  (untilOk n d l low high t ao la ca xs W hs hla).mono fun e w k => k.elim (fun k => absurd ⟨k.1, k.2.1, k.2.2.1, k.2.2.2.1⟩ hv) (fun k => k.2)
end

theorem bed_sum {xs : List Int} (h : Bedly xs) : 0 ≤ xs.sum ∧ xs.sum ≤ 67108864 := by
  have key : ∀ (xs : List Int), (∀ i, i < xs.length → 0 ≤ xs[i]?.getD 0 ∧ xs[i]?.getD 0 ≤ 1048576) → 0 ≤ xs.sum ∧ xs.sum ≤ 1048576 * xs.length := by
    intro xs
    induction xs with
    | nil => intro _; simp
    | cons x xs ih =>
      intro h
      have h0 := h 0 (by simp)
      have h1 := ih (fun i hi => by have := h (i + 1) (by simpa using hi); simpa using this)
      simp only [List.getElem?_cons_zero, Option.getD_some] at h0
      simp only [List.sum_cons, List.length_cons, Int.natCast_add, Int.natCast_one]
      omega
  have := key xs h.2.2
  have := h.2.1
  omega
theorem bed_small {xs : List Int} (h : Bedly xs) : ∀ i, i < xs.length → -4194304 ≤ xs[i]?.getD 0 ∧ xs[i]?.getD 0 ≤ 4194304 := fun i hi => by have := h.2.2 i hi; omega
theorem bedYes {ao : Option Addr} {la ca : Nat} {xs : List Int} {W : World} (hs : Il W ao la xs) (hla : la ≤ 9223372036854775807) (hb : Bedly xs) :
    Calls Try.prog 15 #[.slice ao la ca] W (fun e w' => e = .returned (.bool true) ∧ w' = W) :=
  (bed_any ao la ca xs W hs hla).mono fun e w k => ⟨(k.1.resolve_right fun k => k.1 hb).2, k.2⟩
theorem withinYes {low high : Int} {ao : Option Addr} {la ca : Nat} {xs : List Int} {W : World} (hs : Il W ao la xs) (hla : la ≤ 9223372036854775807) (hb : In low high xs) :
    Calls Try.prog 30 #[.slice ao la ca, .int .i64 low, .int .i64 high] W (fun e w' => e = .returned (.bool true) ∧ w' = W) :=
  (within_any ao la ca low high xs W hs hla).mono fun e w k => ⟨(k.1.resolve_right fun k => k.1 hb).2, k.2⟩
theorem withinNo {low high : Int} {ao : Option Addr} {la ca : Nat} {xs : List Int} {W : World} (hs : Il W ao la xs) (hla : la ≤ 9223372036854775807) (hb : ¬ In low high xs) :
    Calls Try.prog 30 #[.slice ao la ca, .int .i64 low, .int .i64 high] W (fun e w' => e = .returned (.bool false) ∧ w' = W) :=
  (within_any ao la ca low high xs W hs hla).mono fun e w k => ⟨(k.1.resolve_left fun k => hb k.1).2, k.2⟩
theorem sameYes {ao bo : Option Addr} {la lb ca cb : Nat} {xs ys : List Int} {W : World} (hs : Il W ao la xs) (ht : Il W bo lb ys) (hla : la ≤ 9223372036854775807) (hlb : lb ≤ 9223372036854775807) (h : xs = ys) :
    Calls Try.prog 18 #[.slice ao la ca, .slice bo lb cb] W (fun e w' => e = .returned (.bool true) ∧ Drew W w') :=
  (same_any ao bo la lb ca cb xs ys W hs ht hla hlb).mono fun e w k => ⟨(k.1.resolve_right fun k => k.1 h).2, k.2⟩
theorem sameNo {ao bo : Option Addr} {la lb ca cb : Nat} {xs ys : List Int} {W : World} (hs : Il W ao la xs) (ht : Il W bo lb ys) (hla : la ≤ 9223372036854775807) (hlb : lb ≤ 9223372036854775807) (h : ¬ xs = ys) :
    Calls Try.prog 18 #[.slice ao la ca, .slice bo lb cb] W (fun e w' => e = .returned (.bool false) ∧ Drew W w') :=
  (same_any ao bo la lb ca cb xs ys W hs ht hla hlb).mono fun e w k => ⟨(k.1.resolve_left fun k => h k.1).2, k.2⟩

open Go.ChangeShapes Go.WideShapes Go.Joins in
set_option maxRecDepth 100000 in
theorem open_u16 {H : Type} {enc : TypeId × Value → H} {W : World} {v : Value} {d : DataW H} {p : List MemPlace} {base : Nat}
    (hv : Value.okWide Try.prog W .any base 53 v) (h : DataW.Trod enc Try.prog W 0 (fun _ => true) true 53 v d p) : ∃ n, v = .int .u16 n ∧ 0 ≤ n ∧ n ≤ 65535 := by
  obtain ⟨n, rfl⟩ := okWide_int Try.underlying53 hv
  obtain ⟨fuel, hf⟩ := h
  obtain ⟨m, e0, _, w0⟩ := DataW.trod_int Try.underlying53 hf
  simp [Value.cells] at e0
  subst e0
  exact ⟨n, rfl, bounds_u16 w0⟩
end Go.Proofs.Ytcbbdbglbfnbpaa

/- Two own slices of integers that are appended to in one region that draws its order. No function is walked here. -/
set_option linter.unusedVariables false
set_option linter.unusedSimpArgs false
namespace Go.Proofs.Ytcbbdbglbfnbpaa
open Go.RowKit

/-- two own slices that do not share a block; what was there in V lies as it lay -/
structure PairI (V w : World) (u : Value) (n : Nat) (us : List Int) (v : Value) (m : Nat) (vs : List Int) : Prop where
  one : OwnI w V.heap.size 3 u n us
  two : OwnI w V.heap.size 3 v m vs
  ne : ∀ b, u.ownBlock = some b → v.ownBlock ≠ some b
  bel : Below V.heap.size V w

section
variable {V w w' : World} {u v : Value} {n m : Nat} {us vs : List Int}
theorem OwnI.drew {w : World} {base e n : Nat} {v : Value} {xs : List Int} (h : OwnI w base e v n xs) : OwnI w.drew base e v n xs := h
theorem OwnI.alloc {w : World} {base e n : Nat} {v : Value} {xs : List Int} (h : OwnI w base e v n xs) (o : Obj) : OwnI (w.alloc o) base e v n xs := World.ownsRow.alloc h o
theorem PairI.drew (h : PairI V w u n us v m vs) : PairI V w.drew u n us v m vs := ⟨h.one.drew, h.two.drew, h.ne, h.bel.drew⟩
theorem PairI.alloc (h : PairI V w u n us v m vs) (o : Obj) : PairI V (w.alloc o) u n us v m vs := ⟨h.one.alloc o, h.two.alloc o, h.ne, h.bel.alloc h.bel.size o⟩
theorem PairI.turn (h : PairI V w u n us v m vs) : PairI V w v m vs u n us := ⟨h.two, h.one, fun b hb hu => h.ne b hu hb, h.bel⟩
theorem PairI.nil (V : World) : PairI V V (.slice none 0 0) 0 [] (.slice none 0 0) 0 [] := ⟨OwnI.nil _ _ _, OwnI.nil _ _ _, fun b hb => by simp [Value.ownBlock] at hb, Below.refl _ _⟩
theorem PairI.later (h : PairI V w u n us v m vs) (hb : Below w.heap.size w w') : PairI V w' u n us v m vs := ⟨h.one.later hb, h.two.later hb, h.ne, h.bel.trans (hb.mono h.bel.size)⟩
end

theorem PairI.far1 {V w : World} {u v : Value} {n m : Nat} {us vs : List Int} (h : PairI V w u n us v m vs) (k : Nat) (hk : w.heap.size ≤ k) : u.ownBlock ≠ some k := fun e => by
  have := (World.ownsRow.lt h.one _ e).2
  omega
theorem PairI.far2 {V w : World} {u v : Value} {n m : Nat} {us vs : List Int} (h : PairI V w u n us v m vs) (k : Nat) (hk : w.heap.size ≤ k) : v.ownBlock ≠ some k := h.turn.far1 k hk
theorem cellD (w : World) (z : Int) : (w.alloc (.cells #[.int .i64 z] 3)).cell? ⟨w.heap.size, 0, none⟩ = some (.int .i64 z) := by
  simp only [World.cell?, World.alloc_heap_new]; rfl
theorem cellA (w : World) (z : Int) : (w.alloc (.cells #[.int .i64 z] 3)).drew.cell? ⟨w.heap.size, 0, none⟩ = some (.int .i64 z) := cellD w z
theorem cellB (w : World) (z : Int) (o : Obj) : ((w.alloc (.cells #[.int .i64 z] 3)).alloc o).drew.cell? ⟨w.heap.size, 0, none⟩ = some (.int .i64 z) :=
  (((Below.refl _ _).alloc (Nat.le_refl _) o : Below (w.alloc (.cells #[.int .i64 z] 3)).heap.size _ _).cell (p := ⟨w.heap.size, 0, none⟩) (by simp)).trans (cellD w z)
theorem cellC (w : World) (o : Obj) (z : Int) : ((w.alloc o).alloc (.cells #[.int .i64 z] 3)).drew.cell? ⟨w.heap.size + 1, 0, none⟩ = some (.int .i64 z) := by
  have := cellA (w.alloc o) z
  rwa [World.size_alloc] at this

/-- 'append(s, x)' of one integer to the one slice, wherever the new cell lies -/
theorem step_app1 {P : Program} {w : World} {ops : Array Oper} {o : Oper} {a : Act} {K : Act → World → Prop} {Q : Exit → Act → World → Prop} {E : Prop} (hgd : o.guard = none) (s x : Operand) (t : TypeId)
    (ho : o.op = .call { callee := .builtin .append, args := #[s, x], argTypes := #[t, t] })
    (h1 : P.underlying t = some (.slice 3)) (h2 : (P.info? 3).map (fun i => (i.zero, i.size, i.bytes)) = some (some (.int .i64 0), 1, 8))
    {V : World} {u v : Value} {n m : Nat} {us vs : List Int} (hs : a.eval s = u) (hp : PairI V w u n us v m vs) {g : Nat} (hx : a.eval x = .slice (some ⟨g, 0, none⟩) 1 1) {z : Int} (hc : w.cell? ⟨g, 0, none⟩ = some (.int .i64 z)) (hn : n ≤ 100000)
    (h : ∀ u' w', PairI V w' u' (n + 1) (us ++ [z]) v m vs → (∀ k c, w.cell? ⟨k, 0, none⟩ = some c → u.ownBlock ≠ some k → w'.cell? ⟨k, 0, none⟩ = some c) → K (a.put o.dst u') w') :
    if Region.wanted o (yielded ops a.tmps) = true then Oper.wp P o a w K Q else E := by
  obtain ⟨i0, hi, hz0, hz1, hz2⟩ := info_parts h2
  have hone : w.ownsRow V.heap.size 3 1 u n (us.map fun z => Value.int .i64 z) := hp.one
  refine step_append_lies _ hgd s x t ho V.heap.size 3 i0 (.int .i64 0) 1 8 h1 hi hz0 hz1 hz2 rfl (by decide) u n _ hs hone ⟨g, 0, none⟩ 1 1 [.int .i64 z] hx rfl ?_ ?_ (by omega) (by unfold maxLen; omega) (by omega) hp.bel.size w.heap.size rfl ?_
  · intro j y hj
    match j, hj with
    | 0, hj => simp at hj; subst hj; simpa [Addr.add] using hc
  · intro y hy; simp at hy; subst hy; rfl
  · intro g' cap w' hr hg hat hlt
    refine h _ w' ⟨?_, ?_, ?_, ?_⟩ ?_
    · unfold OwnI
      rw [List.map_append]
      exact hr
    · refine World.ownsRow.kept hp.two hg ?_
      cases hv : v.ownBlock with
      | none => exact .inl rfl
      | some b => exact .inr (fun e => hp.ne b e.symm hv)
    · intro b hb hv
      simp [Value.ownBlock] at hb
      subst hb
      rcases hat with hu | rfl
      · exact hp.ne _ hu hv
      · have := (World.ownsRow.lt hp.two _ hv).2
        omega
    · exact hp.bel.grown hg hp.bel.size hp.one.ge
    · intro k c hk hne
      exact hg.cell hk (fun e => hne e.symm)

theorem step_app2 {P : Program} {w : World} {ops : Array Oper} {o : Oper} {a : Act} {K : Act → World → Prop} {Q : Exit → Act → World → Prop} {E : Prop} (hgd : o.guard = none) (s x : Operand) (t : TypeId)
    (ho : o.op = .call { callee := .builtin .append, args := #[s, x], argTypes := #[t, t] })
    (h1 : P.underlying t = some (.slice 3)) (h2 : (P.info? 3).map (fun i => (i.zero, i.size, i.bytes)) = some (some (.int .i64 0), 1, 8))
    {V : World} {u v : Value} {n m : Nat} {us vs : List Int} (hs : a.eval s = v) (hp : PairI V w u n us v m vs) {g : Nat} (hx : a.eval x = .slice (some ⟨g, 0, none⟩) 1 1) {z : Int} (hc : w.cell? ⟨g, 0, none⟩ = some (.int .i64 z)) (hn : m ≤ 100000)
    (h : ∀ v' w', PairI V w' u n us v' (m + 1) (vs ++ [z]) → (∀ k c, w.cell? ⟨k, 0, none⟩ = some c → v.ownBlock ≠ some k → w'.cell? ⟨k, 0, none⟩ = some c) → K (a.put o.dst v') w') :
    if Region.wanted o (yielded ops a.tmps) = true then Oper.wp P o a w K Q else E :=
  step_app1 hgd s x t ho h1 h2 hs hp.turn hx hc hn (fun v' w' hp' hk => h v' w' hp'.turn hk)

theorem moreL_take (z : Int) (xs : List Int) {i : Nat} (hi : i < xs.length) : moreL z (xs.take (i + 1)) = moreL z (xs.take i) ++ [xs[i]?.getD 0 + z] := by
  unfold moreL
  rw [List.take_succ_eq_append_getElem hi, List.map_append, List.getElem?_eq_getElem hi]
  rfl

/-- the first i cells are filled with z -/
def fillL (la : Nat) (z : Int) (i : Nat) : List Int := List.replicate i z ++ List.replicate (la - i) 0
theorem fillL_len (la : Nat) (z : Int) {i : Nat} (hi : i ≤ la) : (fillL la z i).length = la := by simp [fillL]; omega
theorem fillL_zero (la : Nat) (z : Int) : fillL la z 0 = List.replicate la 0 := by simp [fillL]
theorem fillL_all (la : Nat) (z : Int) : fillL la z la = List.replicate la z := by simp [fillL]
theorem fillL_set (la : Nat) (z : Int) {i : Nat} (hi : i < la) : (fillL la z i).set i z = fillL la z (i + 1) := by
  unfold fillL
  rw [List.set_append_right _ _ (by simp), List.length_replicate, Nat.sub_self, show la - i = (la - (i + 1)) + 1 by omega, List.replicate_succ, List.set_cons_zero, List.replicate_succ' (n := i), List.append_assoc]
  rfl
theorem flat_bed {la : Nat} {z : Int} (h1 : 1 ≤ la) (h2 : la ≤ 64) (hz : 0 ≤ z ∧ z ≤ 1048576) : Bedly (List.replicate la z) :=
  ⟨by simpa using h1, by simpa using h2, fun i hi => by rw [List.length_replicate] at hi; rw [List.getElem?_replicate, if_pos hi]; exact hz⟩
theorem rev_bed {xs : List Int} (h : Bedly xs) : Bedly xs.reverse :=
  ⟨by rw [List.length_reverse]; exact h.1, by rw [List.length_reverse]; exact h.2.1, fun i hi => by rw [List.length_reverse] at hi; rw [List.getElem?_reverse hi]; exact h.2.2 _ (by omega)⟩
end Go.Proofs.Ytcbbdbglbfnbpaa

/- For every grain, list and number, BedTurns returns true. (By gen_bedlaws2.py.) -/
set_option linter.unusedVariables false
set_option linter.unusedSimpArgs false
namespace Go.Proofs.Ytcbbdbglbfnbpaa.bedTurns
open Go.ChangeShapes Go.WideShapes Go.ChangeAt Go.RowKit Go.Proofs.Ytcbbdbglbfnbpaa


set_option maxRecDepth 100000 in
set_option maxHeartbeats 16000000 in
theorem walk (n d l z : Int) (ao : Option Addr) (la ca : Nat) (xs : List Int) (W : World) (hs : Il W ao la xs) (hla : la ≤ 9223372036854775807) :
    Calls Try.prog 9 #[.agg #[.int .i64 n, .int .i64 d, .int .i64 l], .slice ao la ca, .int .i64 z] W (fun e w' => e = .returned (.bool true) ∧ Below W.heap.size W w') := by
  have hbe : Below W.heap.size W (W.alloc (.cells #[.int .i64 n, .int .i64 d, .int .i64 l] 23)) := (Below.refl _ _).alloc (Nat.le_refl _) _
  have GB := Lib.hid hbe
  have GN := Lib.hid (Gr.new W n d l)
  have HL := Lib.hid hs.len
  have HS := Lib.hid (hs.keep hbe)
  clear hbe hs
  have d0 := GN.out.c0
  have d1 := GN.out.c1
  have d2 := GN.out.c2
  go_enter Try.func9, Try.ntmps9
  by_cases g1 : 64 < la
  · have t1 : (64 : Int) < (la : Int) := by omega
    go_wp2_with fail
    refine (awakeP _).mono ?_
    rintro e w9 ⟨rfl, hb⟩
    have B9 := Lib.hid (below_then GB.out hb)
    clear hb
    go_wp2
    go_ret
    exact ⟨rfl, B9.out⟩
  · have t1 : ¬ (64 : Int) < (la : Int) := by omega
    have hlx : xs.length ≤ 64 := by rw [HL.out]; omega
    by_cases g3 : l = 0
    · subst g3
      have g4 : ((0 : Int) != 0) = false := by simp
      by_cases g5 : z < 0
      · skip
        go_wp2_with fail
        refine (awakeP _).mono ?_
        rintro e w9 ⟨rfl, hb⟩
        have B9 := Lib.hid (below_then GB.out hb)
        clear hb
        go_wp2
        go_ret
        exact ⟨rfl, B9.out⟩
      · have g5' : decide (z < 0) = false := by simp; omega
        by_cases g6 : 1048576 < z
        · skip
          go_wp2_with fail
          refine (awakeP _).mono ?_
          rintro e w9 ⟨rfl, hb⟩
          have B9 := Lib.hid (below_then GB.out hb)
          clear hb
          go_wp2
          go_ret
          exact ⟨rfl, B9.out⟩
        · have g6' : decide (1048576 < z) = false := by simp; omega
          have bz : 0 ≤ z ∧ z ≤ 1048576 := by omega
          by_cases hv : Bedly xs ∧ Grainy n d 0
          · have HV := Lib.hid hv
            have hla1 : 1 ≤ la := by have := hv.1.1; rw [HL.out] at this; omega
            have TL := Lib.hid (tickL_len n d 0 xs)
            have TB := Lib.hid (tick_bed hv.1 hv.2)
            have VB := Lib.hid (rev_bed hv.1)
            have L0 := Lib.hid (lost_none d xs)
            have L1 := Lib.hid (lost_none d xs.reverse)
            have TT := Lib.hid (tick_turn n d xs)
            have LR := Lib.hid ((List.length_reverse : xs.reverse.length = xs.length))
            have LT := Lib.hid ((List.length_reverse : (tickL n d 0 xs).reverse.length = (tickL n d 0 xs).length))
            have LU := Lib.hid (tickL_len n d 0 xs.reverse)
            clear hv
            go_wp2_with fail
            refine (tickYes HS.out hla HV.out.1 HV.out.2).mono ?_
            rw [L0.out]
            rintro e w1 ⟨po, pc, rfl, hlp, hcp, hil, hb⟩
            have B1 := Lib.hid (below_then GB.out hb)
            have S1 := Lib.hid (HS.out.keep hb)
            have N1 := Lib.hid (GN.out.keep hb)
            have P1 := Lib.hid hil
            clear hil hb d0 d1 d2
            go_wp2_with fail
            refine (turnYes P1.out (by rw [TL.out]; omega) TB.out).mono ?_
            rintro e w2 ⟨qo, qc, rfl, hlq, hcq, hil, hb⟩
            have B2 := Lib.hid (below_then B1.out hb)
            have S2 := Lib.hid (S1.out.keep hb)
            have N2 := Lib.hid (N1.out.keep hb)
            have P2 := Lib.hid (P1.out.keep hb)
            have Q2 := Lib.hid (show Il w2 qo (tickL n d 0 xs).length (tickL n d 0 xs).reverse by rw [List.length_reverse] at hil; exact hil)
            clear hil hb
            go_wp2_with fail
            refine (turnYes S2.out hla HV.out.1).mono ?_
            rintro e w3 ⟨ro, rc, rfl, hlr, hcr, hil, hb⟩
            have B3 := Lib.hid (below_then B2.out hb)
            have S3 := Lib.hid (S2.out.keep hb)
            have N3 := Lib.hid (N2.out.keep hb)
            have P3 := Lib.hid (P2.out.keep hb)
            have Q3 := Lib.hid (Q2.out.keep hb)
            have R3 := Lib.hid (show Il w3 ro xs.length xs.reverse by rw [List.length_reverse] at hil; exact hil)
            clear hil hb
            have d0 := N3.out.c0
            have d1 := N3.out.c1
            have d2 := N3.out.c2
            go_wp2_with fail
            refine (tickYes R3.out (by omega) VB.out HV.out.2).mono ?_
            rw [L1.out]
            rintro e w4 ⟨so, sc, rfl, hls, hcs, hil, hb⟩
            have B4 := Lib.hid (below_then B3.out hb)
            have S4 := Lib.hid (S3.out.keep hb)
            have N4 := Lib.hid (N3.out.keep hb)
            have P4 := Lib.hid (P3.out.keep hb)
            have Q4 := Lib.hid (Q3.out.keep hb)
            have D4 := Lib.hid hil
            clear hil hb d0 d1 d2
            go_wp2_with fail
            refine (sameYes (ca := qc) (cb := sc) Q4.out D4.out (by rw [TL.out]; omega) (by rw [LU.out, LR.out]; omega) TT.out.symm).mono ?_
            rintro e w5 ⟨rfl, hd⟩
            have B5 := Lib.hid (below_then B4.out hd.below)
            have S5 := Lib.hid (S4.out.of_drew hd)
            have N5 := Lib.hid (N4.out.keep hd.below)
            have P5 := Lib.hid (P4.out.of_drew hd)
            clear hd
            have hln : ((((tickL n d 0 xs).length : Nat) : Int) != (la : Int)) = false := by rw [TL.out, HL.out]; simp
            go_wp2
            clear hln
            obtain ⟨ys, hys⟩ : ∃ ys, ys = tickL n d 0 xs := ⟨_, rfl⟩
            have HYS := Lib.hid hys
            have HYL := Lib.hid (show ys.length = la by rw [hys, TL.out, HL.out])
            have YB := Lib.hid (hys ▸ TB.out : Bedly ys)
            have PY := Lib.hid (hys ▸ P5.out : Il w5 po ys.length ys)
            rw [← hys]
            clear hys
            have hyl1 : ys.length ≤ la := by rw [HYL.out]; exact Nat.le_refl _
            have hyl2 : la ≤ ys.length := by rw [HYL.out]; exact Nat.le_refl _
            go_loopw [17, 18, 19] (fun uv vv iv wr => ∃ i : Nat, i ≤ la ∧ iv = .int .i64 (i : Int) ∧ PairI w5 wr uv i (moreL z (xs.take i)) vv i (moreL z (ys.take i))) (fun uv vv iv _ => la - (intOf iv).toNat)
            case atStart => exact ⟨0, by omega, rfl, PairI.nil _⟩
            case round =>
              obtain ⟨i, hi, rfl, hp⟩ := hrel
              have HP := Lib.hid hp
              clear hp
              have u0 : (0 : Int) ≤ (i : Int) := by omega
              by_cases h1 : i < la
              · have u1 : (i : Int) < (la : Int) := by omega
                have u2 : (i : Int) < (ys.length : Int) := by omega
                obtain ⟨b, off, rfl, hc⟩ := S5.out.at (by omega)
                obtain ⟨b2, off2, rfl, hc2⟩ := PY.out.at (by omega)
                have cxV := hc i h1
                have cyV := hc2 i (by omega)
                have kx := HV.out.1.2.2 i (by rw [HL.out]; omega)
                have ky := YB.out.2.2 i (by omega)
                have MX := Lib.hid (moreL_take z xs (i := i) (by rw [HL.out]; omega))
                have MY := Lib.hid (moreL_take z ys (i := i) (by omega))
                obtain ⟨x, hx⟩ : ∃ x, x = xs[i]?.getD 0 := ⟨_, rfl⟩
                obtain ⟨y, hy⟩ : ∃ x, x = ys[i]?.getD 0 := ⟨_, rfl⟩
                rw [← hx] at cxV kx MX
                rw [← hy] at cyV ky MY
                clear hc hc2 hx hy
                have hcx := cell_later HP.out.bel cxV
                have hcy := cell_later HP.out.bel cyV
                have wx : IntKind.i64.wrap (x + z) = x + z := IntWalk.i64_in _ (by omega)
                have wy : IntKind.i64.wrap (y + z) = y + z := IntWalk.i64_in _ (by omega)
                go_upto_region 17 with fail
                go_region_held_law (fun w' => w'.cell? ⟨b, off + i, none⟩ = some (.int .i64 x) ∧ w'.cell? ⟨b2, off2 + i, none⟩ = some (.int .i64 y))
                  (first | exact ⟨cell_later hp1.bel cxV, cell_later hp1.bel cyV⟩ | exact ⟨cell_later (hp1.alloc _).bel cxV, cell_later (hp1.alloc _).bel cyV⟩ | exact ⟨cell_later hp2.bel cxV, cell_later hp2.bel cyV⟩ | exact ⟨cell_later (hp2.alloc _).bel cxV, cell_later (hp2.alloc _).bel cyV⟩ | go_keep | assumption)
                  (first
                    | (refine step_app1 (V := w5) (n := i) (by rfl) (.tmp 99) (.tmp 106) 24 (by rfl) Try.underlying24 (by kernel_rfl) (by rfl) (by exact (HP.out.alloc _).drew) (by rfl) (z := x + z) (by exact cellA _ _) (by omega) ?_; intro u1 w1 hp1 hk1)
                    | (refine step_app1 (V := w5) (n := i) (by rfl) (.tmp 99) (.tmp 106) 24 (by rfl) Try.underlying24 (by kernel_rfl) (by rfl) (by exact ((HP.out.alloc _).alloc _).drew) (by rfl) (z := x + z) (by exact cellB _ _ _) (by omega) ?_; intro u1 w1 hp1 hk1)
                    | (refine step_app1 (V := w5) (n := i) (by rfl) (.tmp 99) (.tmp 106) 24 (by rfl) Try.underlying24 (by kernel_rfl) (by rfl) (by exact ((HP.out.alloc _).alloc _).drew) (by rfl) (z := x + z) (by exact cellC _ _ _) (by omega) ?_; intro u1 w1 hp1 hk1)
                    | (refine step_app1 (V := w5) (n := i) (by rfl) (.tmp 99) (.tmp 106) 24 (by rfl) Try.underlying24 (by kernel_rfl) (by rfl) (by exact hp2) (by rfl) (z := x + z) (by exact hk2 _ _ (cellB _ _ _) (HP.out.far2 _ (Nat.le_refl _))) (by omega) ?_; intro u1 w1 hp1 hk1)
                    | (refine step_app1 (V := w5) (n := i) (by rfl) (.tmp 99) (.tmp 106) 24 (by rfl) Try.underlying24 (by kernel_rfl) (by rfl) (by exact hp2) (by rfl) (z := x + z) (by exact hk2 _ _ (cellC _ _ _) (HP.out.far2 _ (Nat.le_succ _))) (by omega) ?_; intro u1 w1 hp1 hk1)
                    | (refine step_app1 (V := w5) (n := i) (by rfl) (.tmp 99) (.tmp 106) 24 (by rfl) Try.underlying24 (by kernel_rfl) (by rfl) (by exact (hp2.alloc _)) (by rfl) (z := x + z) (by exact cellD _ _) (by omega) ?_; intro u1 w1 hp1 hk1)
                    | (refine step_app2 (V := w5) (m := i) (by rfl) (.tmp 108) (.tmp 115) 24 (by rfl) Try.underlying24 (by kernel_rfl) (by rfl) (by exact (HP.out.alloc _).drew) (by rfl) (z := y + z) (by exact cellA _ _) (by omega) ?_; intro v1 w2 hp2 hk2)
                    | (refine step_app2 (V := w5) (m := i) (by rfl) (.tmp 108) (.tmp 115) 24 (by rfl) Try.underlying24 (by kernel_rfl) (by rfl) (by exact ((HP.out.alloc _).alloc _).drew) (by rfl) (z := y + z) (by exact cellB _ _ _) (by omega) ?_; intro v1 w2 hp2 hk2)
                    | (refine step_app2 (V := w5) (m := i) (by rfl) (.tmp 108) (.tmp 115) 24 (by rfl) Try.underlying24 (by kernel_rfl) (by rfl) (by exact ((HP.out.alloc _).alloc _).drew) (by rfl) (z := y + z) (by exact cellC _ _ _) (by omega) ?_; intro v1 w2 hp2 hk2)
                    | (refine step_app2 (V := w5) (m := i) (by rfl) (.tmp 108) (.tmp 115) 24 (by rfl) Try.underlying24 (by kernel_rfl) (by rfl) (by exact hp1) (by rfl) (z := y + z) (by exact hk1 _ _ (cellB _ _ _) (HP.out.far1 _ (Nat.le_refl _))) (by omega) ?_; intro v1 w2 hp2 hk2)
                    | (refine step_app2 (V := w5) (m := i) (by rfl) (.tmp 108) (.tmp 115) 24 (by rfl) Try.underlying24 (by kernel_rfl) (by rfl) (by exact hp1) (by rfl) (z := y + z) (by exact hk1 _ _ (cellC _ _ _) (HP.out.far1 _ (Nat.le_succ _))) (by omega) ?_; intro v1 w2 hp2 hk2)
                    | (refine step_app2 (V := w5) (m := i) (by rfl) (.tmp 108) (.tmp 115) 24 (by rfl) Try.underlying24 (by kernel_rfl) (by rfl) (by exact (hp1.alloc _)) (by rfl) (z := y + z) (by exact cellD _ _) (by omega) ?_; intro v1 w2 hp2 hk2))
                all_goals
                  clear wx wy hcx hcy cxV cyV hk1 hk2
                  go_wp2
                  go_roundw
                  case rel => first | exact ⟨i + 1, by omega, by go_num, by rw [MX.out, MY.out]; exact hp2⟩ | exact ⟨i + 1, by omega, by go_num, by rw [MX.out, MY.out]; exact hp1⟩
                  case measure => simp only [intOf]; omega
              · have u1 : ¬ (i : Int) < (la : Int) := by omega
                have hE : xs.take i = xs := List.take_of_length_le (by rw [HL.out]; omega)
                have hF : ys.take i = ys := List.take_of_length_le (by omega)
                obtain rfl : i = la := by omega
                have HP2 := Lib.hid (show PairI w5 wr _ i (moreL z xs) _ i (moreL z ys) by have := HP.out; rw [hE, hF] at this; exact this)
                obtain ⟨uo, uc, rfl, hlu, hcu, hiu⟩ := HP2.out.one.il
                obtain ⟨vo, vc, rfl, hlv, hcv, hiv⟩ := HP2.out.two.il
                have U6 := Lib.hid hiu
                have V6 := Lib.hid hiv
                have B6 := Lib.hid (below_then B5.out HP2.out.bel)
                have N6 := Lib.hid (N5.out.keep HP2.out.bel)
                have S6 := Lib.hid (S5.out.keep HP2.out.bel)
                have MT := Lib.hid (show tickL n d 0 (moreL z xs) = moreL z ys by rw [HYS.out]; exact tick_more n d z xs)
                have ML := Lib.hid (moreL_len z xs)
                have MK := Lib.hid (tickL_len n d 0 (moreL z xs))
                clear HP HP2 hE hF hiu hiv hi
                have d0 := N6.out.c0
                have d1 := N6.out.c1
                have d2 := N6.out.c2
                have hi64 : i ≤ 64 := by omega
                by_cases hub : Bedly (moreL z xs)
                · have UB := Lib.hid hub
                  clear hub
                  go_wp2_with fail
                  refine (tickYes U6.out (by omega) UB.out HV.out.2).mono ?_
                  rintro e w7 ⟨xo, xc, rfl, hlx2, hcx2, hil, hb⟩
                  have B7 := Lib.hid (below_then B6.out hb)
                  have N7 := Lib.hid (N6.out.keep hb)
                  have V7 := Lib.hid (V6.out.keep hb)
                  have X7 := Lib.hid hil
                  clear hil hb d0 d1 d2
                  go_wp2_with fail
                  refine (sameYes (ca := xc) (cb := vc) X7.out V7.out (by rw [MK.out, ML.out]; omega) (by omega) MT.out).mono ?_
                  rintro e w8 ⟨rfl, hd⟩
                  have B8 := Lib.hid (below_then B7.out hd.below)
                  have N8 := Lib.hid (N7.out.keep hd.below)
                  clear hd
                  have hzl : (List.replicate i (0 : Int)).length = i := List.length_replicate
                  have RZ := Lib.hid hzl
                  clear hzl
                  go_wp2_with (at_make; refine wpList_mk rfl _ 24 rfl Try.underlying24 (by kernel_rfl) _ i rfl rfl (by omega) ?_; intro wa hBa hba hza; have KA := Lib.hid hBa; have BA := Lib.hid hba; have ZA := Lib.hid hza; clear hBa hba hza)
                  go_loopw [137] (fun jv wr2 => ∃ j : Nat, j ≤ i ∧ jv = .int .i64 (j : Int) ∧ Blk wr2 w8.heap.size (fillL i z j) ∧ Below w8.heap.size w8 wr2) (fun jv _ => i - (intOf jv).toNat)
                  case atStart => exact ⟨0, by omega, rfl, by rw [fillL_zero]; exact KA.out, BA.out⟩
                  case round =>
                    obtain ⟨j, hj, rfl, hbk, hbl⟩ := hrel
                    have KB := Lib.hid hbk
                    have BB := Lib.hid hbl
                    clear hbk hbl
                    have v0 : (0 : Int) ≤ (j : Int) := by omega
                    by_cases h2 : j < i
                    · have v1 : (j : Int) < (i : Int) := by omega
                      have FL := Lib.hid (fillL_len i z (show j ≤ i by omega))
                      have FS := Lib.hid (fillL_set i z h2)
                      have ck := KB.out.cell j (by rw [FL.out]; omega)
                      have fk := KB.out.frozen j
                      go_wp2
                      go_roundw
                      case rel => exact ⟨j + 1, by omega, by go_num, by rw [← FS.out]; exact KB.out.set j z, BB.out.setCell (Nat.le_refl _) _⟩
                      case measure => simp only [intOf]; omega
                    · have v1 : ¬ (j : Int) < (i : Int) := by omega
                      obtain rfl : j = i := by omega
                      have K9 := Lib.hid (show Blk wr w8.heap.size (List.replicate j z) by have := KB.out; rw [fillL_all] at this; exact this)
                      have B9 := Lib.hid (below_then B8.out BB.out)
                      have N9 := Lib.hid (N8.out.keep BB.out)
                      have F9 := Lib.hid (K9.out.il (List.length_replicate : (List.replicate j z).length = j))
                      have FB := Lib.hid (flat_bed (la := j) (z := z) (by omega) (by omega) bz)
                      have FT := Lib.hid (tick_flat (z := z) HV.out.2 j)
                      have F0 := Lib.hid (lost_none d (List.replicate j z))
                      clear KB BB
                      have d0 := N9.out.c0
                      have d1 := N9.out.c1
                      have d2 := N9.out.c2
                      go_wp2_with fail
                      refine (tickYes F9.out (by omega) FB.out HV.out.2).mono ?_
                      rw [F0.out, FT.out]
                      rintro e wb ⟨yo, yc, rfl, hly, hcy2, hil, hb⟩
                      have Bb := Lib.hid (below_then B9.out hb)
                      have Fb := Lib.hid (F9.out.keep hb)
                      have Y9 := Lib.hid (show Il wb yo j (List.replicate j z) by rw [List.length_replicate] at hil; exact hil)
                      clear hil hb d0 d1 d2
                      go_wp2_with fail
                      refine (sameYes (ca := yc) (cb := j) Y9.out Fb.out (by omega) (by omega) rfl).mono ?_
                      rintro e wc ⟨rfl, hd⟩
                      have Bc := Lib.hid (below_then Bb.out hd.below)
                      clear hd
                      go_wp2_with fail
                      refine (awakeP _).mono ?_
                      rintro e we ⟨rfl, hb⟩
                      have Be := Lib.hid (below_then Bc.out hb)
                      clear hb
                      go_wp2
                      go_ret
                      exact ⟨rfl, Be.out⟩
                · have UB := Lib.hid hub
                  clear hub
                  go_wp2_with fail
                  refine (tickNo U6.out (by omega) (fun h => UB.out h.1)).mono ?_
                  rintro e w8 ⟨xo, xc, rfl, hcx2, hb⟩
                  have B8 := Lib.hid (below_then B6.out hb)
                  have N8 := Lib.hid (N6.out.keep hb)
                  clear hb d0 d1 d2
                  have hzl : (List.replicate i (0 : Int)).length = i := List.length_replicate
                  have RZ := Lib.hid hzl
                  clear hzl
                  go_wp2_with (at_make; refine wpList_mk rfl _ 24 rfl Try.underlying24 (by kernel_rfl) _ i rfl rfl (by omega) ?_; intro wa hBa hba hza; have KA := Lib.hid hBa; have BA := Lib.hid hba; have ZA := Lib.hid hza; clear hBa hba hza)
                  go_loopw [137] (fun jv wr2 => ∃ j : Nat, j ≤ i ∧ jv = .int .i64 (j : Int) ∧ Blk wr2 w8.heap.size (fillL i z j) ∧ Below w8.heap.size w8 wr2) (fun jv _ => i - (intOf jv).toNat)
                  case atStart => exact ⟨0, by omega, rfl, by rw [fillL_zero]; exact KA.out, BA.out⟩
                  case round =>
                    obtain ⟨j, hj, rfl, hbk, hbl⟩ := hrel
                    have KB := Lib.hid hbk
                    have BB := Lib.hid hbl
                    clear hbk hbl
                    have v0 : (0 : Int) ≤ (j : Int) := by omega
                    by_cases h2 : j < i
                    · have v1 : (j : Int) < (i : Int) := by omega
                      have FL := Lib.hid (fillL_len i z (show j ≤ i by omega))
                      have FS := Lib.hid (fillL_set i z h2)
                      have ck := KB.out.cell j (by rw [FL.out]; omega)
                      have fk := KB.out.frozen j
                      go_wp2
                      go_roundw
                      case rel => exact ⟨j + 1, by omega, by go_num, by rw [← FS.out]; exact KB.out.set j z, BB.out.setCell (Nat.le_refl _) _⟩
                      case measure => simp only [intOf]; omega
                    · have v1 : ¬ (j : Int) < (i : Int) := by omega
                      obtain rfl : j = i := by omega
                      have K9 := Lib.hid (show Blk wr w8.heap.size (List.replicate j z) by have := KB.out; rw [fillL_all] at this; exact this)
                      have B9 := Lib.hid (below_then B8.out BB.out)
                      have N9 := Lib.hid (N8.out.keep BB.out)
                      have F9 := Lib.hid (K9.out.il (List.length_replicate : (List.replicate j z).length = j))
                      have FB := Lib.hid (flat_bed (la := j) (z := z) (by omega) (by omega) bz)
                      have FT := Lib.hid (tick_flat (z := z) HV.out.2 j)
                      have F0 := Lib.hid (lost_none d (List.replicate j z))
                      clear KB BB
                      have d0 := N9.out.c0
                      have d1 := N9.out.c1
                      have d2 := N9.out.c2
                      go_wp2_with fail
                      refine (tickYes F9.out (by omega) FB.out HV.out.2).mono ?_
                      rw [F0.out, FT.out]
                      rintro e wb ⟨yo, yc, rfl, hly, hcy2, hil, hb⟩
                      have Bb := Lib.hid (below_then B9.out hb)
                      have Fb := Lib.hid (F9.out.keep hb)
                      have Y9 := Lib.hid (show Il wb yo j (List.replicate j z) by rw [List.length_replicate] at hil; exact hil)
                      clear hil hb d0 d1 d2
                      go_wp2_with fail
                      refine (sameYes (ca := yc) (cb := j) Y9.out Fb.out (by omega) (by omega) rfl).mono ?_
                      rintro e wc ⟨rfl, hd⟩
                      have Bc := Lib.hid (below_then Bb.out hd.below)
                      clear hd
                      go_wp2_with fail
                      refine (awakeP _).mono ?_
                      rintro e we ⟨rfl, hb⟩
                      have Be := Lib.hid (below_then Bc.out hb)
                      clear hb
                      go_wp2
                      go_ret
                      exact ⟨rfl, Be.out⟩
          · have HV := Lib.hid hv
            clear hv
            go_wp2_with fail
            refine (tickNo HS.out hla HV.out).mono ?_
            rintro e w1 ⟨po, pc, rfl, hcp, hb⟩
            have B1 := Lib.hid (below_then GB.out hb)
            clear hb d0 d1 d2
            go_wp2_with fail
            refine (awakeP _).mono ?_
            rintro e w9 ⟨rfl, hb⟩
            have B9 := Lib.hid (below_then B1.out hb)
            clear hb
            go_wp2
            go_ret
            exact ⟨rfl, B9.out⟩
    · have g4 : (l != 0) = true := by simp [g3]
      go_wp2_with fail
      refine (awakeP _).mono ?_
      rintro e w9 ⟨rfl, hb⟩
      have B9 := Lib.hid (below_then GB.out hb)
      clear hb
      go_wp2
      go_ret
      exact ⟨rfl, B9.out⟩
end Go.Proofs.Ytcbbdbglbfnbpaa.bedTurns
