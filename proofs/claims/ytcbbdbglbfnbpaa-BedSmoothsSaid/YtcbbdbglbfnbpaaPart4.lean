/- Part 4 of the contracts: PFacts, PLaw, BedSmoothsW. -/
import Derived.Test.YtcbbdbglbfnbpaaPart3

/- Facts on ticks, runs and steeping: sums, bounds, rest, turning, adding. No function is walked here. -/
set_option linter.unusedVariables false
set_option linter.unusedSimpArgs false
namespace Go.Proofs.Ytcbbdbglbfnbpaa
open Go.RowKit

theorem sum_set : ∀ (xs : List Int) (i : Nat) (v : Int), i < xs.length → (xs.set i v).sum = xs.sum - xs[i]?.getD 0 + v
  | [], i, v, h => by simp at h
  | x :: xs, 0, v, h => by simp [List.sum_cons]; omega
  | x :: xs, i + 1, v, h => by
    have := sum_set xs i v (by simpa using h)
    simp only [List.set_cons_succ, List.sum_cons, List.getElem?_cons_succ]
    omega

theorem get_set_ne (xs : List Int) {i j : Nat} (h : i ≠ j) (v : Int) : (xs.set i v)[j]?.getD 0 = xs[j]?.getD 0 := by rw [List.getElem?_set, if_neg h]

theorem pairF_sum (n d : Int) (xs acc : List Int) {j : Nat} (h1 : 1 ≤ j) (hj : j < acc.length) : (pairF n d xs acc j).sum = acc.sum := by
  unfold pairF
  rw [sum_set _ _ _ (by rw [List.length_set]; exact hj), sum_set _ _ _ (by omega), get_set_ne _ (by omega)]
  omega

theorem fold_sum (n d : Int) (xs : List Int) : ∀ m, m + 1 ≤ xs.length → ((List.range' 1 m).foldl (pairF n d xs) xs).sum = xs.sum
  | 0, _ => rfl
  | m + 1, h => by
    rw [List.range'_concat, List.foldl_append, Nat.one_mul, Nat.add_comm 1 m]
    show (pairF n d xs _ (m + 1)).sum = _
    rw [pairF_sum n d xs _ (by omega) (by rw [(done_fold n d xs m (by omega)).1]; omega), fold_sum n d xs m (by omega)]

theorem tick_sum {n d l : Int} {xs : List Int} (h0 : 1 ≤ xs.length) : (tickL n d l xs).sum + lostL d l xs = xs.sum := by
  have hd := done_fold n d xs (xs.length - 1) (by omega)
  rw [← tick_of_done (l := l) h0 hd _ rfl, sum_set _ _ _ (by rw [hd.1]; omega), fold_sum n d xs _ (by omega)]
  omega

theorem run_bed {n d l : Int} (hg : Grainy n d l) : ∀ (t : Nat) (xs : List Int), Bedly xs → Bedly (runL n d l t xs).1
  | 0, _, h => h
  | t + 1, xs, h => by
    simp only [runL]
    split
    · exact h
    · exact run_bed hg t _ (tick_bed h hg)

theorem run_sum {n d l : Int} (hg : Grainy n d l) : ∀ (t : Nat) (xs : List Int), Bedly xs → (runL n d l t xs).1.sum + (runL n d l t xs).2.1 = xs.sum ∧ 0 ≤ (runL n d l t xs).2.1 ∧ (runL n d l t xs).2.1 ≤ t * 1048576
  | 0, xs, _ => by simp [runL]
  | t + 1, xs, h => by
    have ih := run_sum hg t _ (tick_bed h hg)
    have hs := tick_sum (n := n) (d := d) (l := l) h.1
    have hl := lost_bound h hg
    simp only [runL]
    split
    · simp only []
      omega
    · simp only []
      omega

theorem steep_bed {full : Int} (hf : 0 ≤ full ∧ full ≤ 1048576) : ∀ (xs : List Int) (water : Int), 0 ≤ water → (∀ i, i < xs.length → 0 ≤ xs[i]?.getD 0 ∧ xs[i]?.getD 0 ≤ 1048576) → ∀ i, i < (steepL full xs water).1.length → 0 ≤ (steepL full xs water).1[i]?.getD 0 ∧ (steepL full xs water).1[i]?.getD 0 ≤ 1048576
  | [], _, _, _, i, hi => by simp [steepL] at hi
  | x :: xs, water, hw, h, i, hi => by
    have h0 := h 0 (by simp)
    simp only [List.getElem?_cons_zero, Option.getD_some] at h0
    cases i with
    | zero => simp only [steepL, List.getElem?_cons_zero, Option.getD_some]; omega
    | succ i =>
      simp only [steepL, List.getElem?_cons_succ]
      exact steep_bed hf xs _ (by omega) (fun k hk => by have := h (k + 1) (by simpa using hk); simpa using this) i (by simpa [steepL] using hi)
theorem steepBed {full water : Int} {xs : List Int} (hb : Bedly xs) (hf : 0 ≤ full ∧ full ≤ 1048576) (hw : 0 ≤ water) : Bedly (steepL full xs water).1 :=
  ⟨by rw [steepL_len]; exact hb.1, by rw [steepL_len]; exact hb.2.1, steep_bed hf xs water hw hb.2.2⟩

/-! runs one after the other -/
theorem run_add (n d l : Int) : ∀ (p q : Nat) (xs : List Int), runL n d l (p + q) xs =
    ((runL n d l q (runL n d l p xs).1).1, (runL n d l p xs).2.1 + (runL n d l q (runL n d l p xs).1).2.1, (runL n d l p xs).2.2 + (runL n d l q (runL n d l p xs).1).2.2)
  | 0, q, xs => by simp [runL]
  | p + 1, q, xs => by
    rw [show p + 1 + q = (p + q) + 1 by omega]
    by_cases h : tickL n d l xs = xs
    · have hq : runL n d l q xs = (xs, 0, 0) := by
        cases q with
        | zero => rfl
        | succ q => simp only [runL]; rw [if_pos h]
      simp only [runL]
      rw [if_pos h, if_pos h]
      simp only [hq]
      simp
    · simp only [runL]
      rw [if_neg h, if_neg h, run_add n d l p q]
      simp only [Prod.mk.injEq, true_and]
      omega

theorem run_le (n d l : Int) : ∀ (t : Nat) (xs : List Int), (runL n d l t xs).2.2 ≤ t
  | 0, _ => Nat.le_refl _
  | t + 1, xs => by
    have := run_le n d l t (tickL n d l xs)
    simp only [runL]
    split
    · exact Nat.zero_le _
    · simp only []; omega
/-- a run that ends ahead of time has come to rest -/
theorem run_rest (n d l : Int) : ∀ (t : Nat) (xs : List Int), (runL n d l t xs).2.2 < t → tickL n d l (runL n d l t xs).1 = (runL n d l t xs).1
  | 0, _, h => absurd h (by simp [runL])
  | t + 1, xs, h => by
    simp only [runL] at h ⊢
    split at h
    · rename_i hr
      rw [if_pos hr]
      exact hr
    · rename_i hr
      rw [if_neg hr]
      exact run_rest n d l t _ (by simp only [] at h; omega)

theorem after_succ (n d l : Int) (xs : List Int) : ∀ k, afterL n d l xs (k + 1) = afterL n d l (tickL n d l xs) k
  | 0 => rfl
  | k + 1 => by
    show tickL n d l (afterL n d l xs (k + 1)) = tickL n d l (afterL n d l (tickL n d l xs) k)
    rw [after_succ n d l xs k]
theorem after_same {n d l : Int} {xs : List Int} (h : tickL n d l xs = xs) : ∀ k, afterL n d l xs k = xs
  | 0 => rfl
  | k + 1 => by show tickL n d l (afterL n d l xs k) = xs; rw [after_same h k, h]
theorem run_after (n d l : Int) : ∀ (t : Nat) (xs : List Int), (runL n d l t xs).1 = afterL n d l xs t
  | 0, _ => rfl
  | t + 1, xs => by
    by_cases h : tickL n d l xs = xs
    · rw [after_same h]
      simp only [runL]
      rw [if_pos h]
    · rw [after_succ, ← run_after n d l t]
      simp only [runL]
      rw [if_neg h]

/-! without a loss -/
theorem lost_none (d : Int) (xs : List Int) : lostL d 0 xs = 0 := by unfold lostL; rw [Int.mul_zero]; exact Int.zero_tdiv d
theorem flow_turn (n d x y : Int) : flow n d y x = -flow n d x y := by
  unfold flow
  rw [show y - x = -(x - y) by omega, Int.neg_mul, Int.neg_tdiv]
theorem flow_add (n d x y z : Int) : flow n d (x + z) (y + z) = flow n d x y := by unfold flow; rw [show x + z - (y + z) = x - y by omega]
theorem flow_same (n d x : Int) : flow n d x x = 0 := by unfold flow; rw [Int.sub_self, Int.zero_mul]; exact Int.zero_tdiv d

theorem cell_in {n d low high : Int} {xs : List Int} (h3 : 0 ≤ n) (h5 : 1 ≤ d) (h6 : 2 * n ≤ d) (h : In low high xs) {i : Nat} (hi : i < xs.length) : low ≤ cellT n d 0 xs i ∧ cellT n d 0 xs i ≤ high := by
  have hx := h i hi
  unfold cellT
  rw [lost_none]
  by_cases c : i = 0
  · subst c
    rw [if_pos rfl]
    by_cases c2 : 0 + 1 < xs.length
    · rw [if_pos c2]
      have hz := h (0 + 1) c2
      have := half_part (p := xs[0]?.getD 0 - xs[0 + 1]?.getD 0) (n := n) (d := d) h3 h5 h6
      unfold flow
      omega
    · rw [if_neg c2]; omega
  · rw [if_neg c]
    have hy := h (i - 1) (by omega)
    have h1 := half_part (p := xs[i - 1]?.getD 0 - xs[i]?.getD 0) (n := n) (d := d) h3 h5 h6
    unfold flow
    by_cases c2 : i + 1 < xs.length
    · rw [if_pos c2]
      have hz := h (i + 1) c2
      have h2 := half_part (p := xs[i]?.getD 0 - xs[i + 1]?.getD 0) (n := n) (d := d) h3 h5 h6
      omega
    · rw [if_neg c2]; omega
theorem tick_in {n d low high : Int} {xs : List Int} (hg : Grainy n d 0) (h : In low high xs) : In low high (tickL n d 0 xs) := fun i hi => by
  obtain ⟨g1, g2, g3, g4, g5, g6, g7⟩ := hg
  rw [tickL_len] at hi
  rw [tickL_get n d 0 xs i hi]
  exact cell_in g3 g1 (by omega) h hi
theorem runs_in {n d low high : Int} (hg : Grainy n d 0) : ∀ (t : Nat) (xs : List Int), In low high xs → In low high (runL n d 0 t xs).1
  | 0, _, h => h
  | t + 1, xs, h => by
    simp only [runL]
    split
    · exact h
    · exact runs_in hg t _ (tick_in hg h)
theorem run_lost0 (n d : Int) : ∀ (t : Nat) (xs : List Int), (runL n d 0 t xs).2.1 = 0
  | 0, _ => rfl
  | t + 1, xs => by
    simp only [runL]
    split
    · rfl
    · simp only [lost_none, run_lost0 n d t]; rfl

theorem lowZ_le (z : Int) (xs : List Int) : ∀ k, k ≤ xs.length → lowZ z (xs.take k) ≤ z ∧ ∀ i, i < k → lowZ z (xs.take k) ≤ xs[i]?.getD 0
  | 0, _ => ⟨by simp [lowZ], fun i hi => absurd hi (by omega)⟩
  | k + 1, hk => by
    have ih := lowZ_le z xs k (by omega)
    rw [lowZ_step z (by omega)]
    refine ⟨by omega, fun i hi => ?_⟩
    rcases Nat.lt_succ_iff_lt_or_eq.1 hi with h | rfl
    · have := ih.2 i h; omega
    · omega
theorem le_highZ (z : Int) (xs : List Int) : ∀ k, k ≤ xs.length → z ≤ highZ z (xs.take k) ∧ ∀ i, i < k → xs[i]?.getD 0 ≤ highZ z (xs.take k)
  | 0, _ => ⟨by simp [highZ], fun i hi => absurd hi (by omega)⟩
  | k + 1, hk => by
    have ih := le_highZ z xs k (by omega)
    rw [highZ_step z (by omega)]
    refine ⟨by omega, fun i hi => ?_⟩
    rcases Nat.lt_succ_iff_lt_or_eq.1 hi with h | rfl
    · have := ih.2 i h; omega
    · omega
theorem lowZ_ge {low z : Int} (xs : List Int) (hz : low ≤ z) (h : ∀ i, i < xs.length → low ≤ xs[i]?.getD 0) : ∀ k, k ≤ xs.length → low ≤ lowZ z (xs.take k)
  | 0, _ => by simpa [lowZ] using hz
  | k + 1, hk => by
    have ih := lowZ_ge xs hz h k (by omega)
    have := h k (by omega)
    rw [lowZ_step z (by omega)]
    omega
theorem highZ_le {high z : Int} (xs : List Int) (hz : z ≤ high) (h : ∀ i, i < xs.length → xs[i]?.getD 0 ≤ high) : ∀ k, k ≤ xs.length → highZ z (xs.take k) ≤ high
  | 0, _ => by simpa [highZ] using hz
  | k + 1, hk => by
    have ih := highZ_le xs hz h k (by omega)
    have := h k (by omega)
    rw [highZ_step z (by omega)]
    omega
theorem in_span (xs : List Int) : In (lowZ (xs[0]?.getD 0) xs) (highZ (xs[0]?.getD 0) xs) xs := fun i hi => by
  have a := lowZ_le (xs[0]?.getD 0) xs xs.length (Nat.le_refl _)
  have b := le_highZ (xs[0]?.getD 0) xs xs.length (Nat.le_refl _)
  rw [List.take_length] at a b
  exact ⟨a.2 i hi, b.2 i hi⟩
theorem spread_le {low high : Int} {xs : List Int} (h0 : 0 < xs.length) (h : In low high xs) : spreadL xs ≤ high - low := by
  have a := lowZ_ge xs (h 0 h0).1 (fun i hi => (h i hi).1) xs.length (Nat.le_refl _)
  have b := highZ_le xs (h 0 h0).2 (fun i hi => (h i hi).2) xs.length (Nat.le_refl _)
  rw [List.take_length] at a b
  unfold spreadL
  omega

/-- no flow between the cells i and i + 1 -/
def Calm (n d : Int) (xs : List Int) (m : Nat) : Prop := ∀ i, i < m → max (xs[i]?.getD 0 - xs[i + 1]?.getD 0) (xs[i + 1]?.getD 0 - xs[i]?.getD 0) * n < d

theorem flow_zero {n d x y : Int} (h3 : 0 ≤ n) (h5 : 1 ≤ d) : flow n d x y = 0 ↔ max (x - y) (y - x) * n < d := by
  have key : ∀ p : Int, 0 ≤ p → ((p * n).tdiv d = 0 ↔ p * n < d) := by
    intro p hp
    have h1 : 0 ≤ p * n := Int.mul_nonneg hp h3
    rw [Int.tdiv_eq_ediv_of_nonneg h1]
    constructor
    · intro h
      have h2 := Int.emod_add_mul_ediv (p * n) d
      rw [h, Int.mul_zero, Int.add_zero] at h2
      have h4 := Int.emod_lt_of_pos (p * n) (show 0 < d by omega)
      omega
    · exact Int.ediv_eq_zero_of_lt h1
  by_cases hp : 0 ≤ x - y
  · rw [show max (x - y) (y - x) = x - y by omega]
    exact key _ hp
  · rw [show max (x - y) (y - x) = y - x by omega, ← key (y - x) (by omega)]
    show flow n d x y = 0 ↔ flow n d y x = 0
    rw [flow_turn n d y x]
    omega

theorem calm_iff {n d l : Int} {xs : List Int} (hg : Grainy n d l) : Calm n d xs (xs.length - 1) ↔ ∀ i, i + 1 < xs.length → flow n d (xs[i]?.getD 0) (xs[i + 1]?.getD 0) = 0 := by
  obtain ⟨g1, g2, g3, g4, g5, g6, g7⟩ := hg
  exact ⟨fun h i hi => (flow_zero g3 g1).2 (h i (by omega)), fun h i hi => (flow_zero g3 g1).1 (h i (by omega))⟩

theorem rest_iff {n d : Int} {xs : List Int} (hg : Grainy n d 0) : tickL n d 0 xs = xs ↔ Calm n d xs (xs.length - 1) := by
  rw [calm_iff hg]
  constructor
  · intro h i
    have hc : ∀ i, i < xs.length → cellT n d 0 xs i = xs[i]?.getD 0 := fun i hi => by rw [← tickL_get n d 0 xs i hi, h]
    induction i with
    | zero =>
      intro hi
      have h0 := hc 0 (by omega)
      unfold cellT at h0
      rw [if_pos rfl, if_pos hi, lost_none] at h0
      omega
    | succ i ih =>
      intro hi
      have h1 := ih (by omega)
      have h0 := hc (i + 1) (by omega)
      unfold cellT at h0
      rw [if_neg (by omega), if_pos hi, Nat.add_sub_cancel] at h0
      omega
  · intro h
    refine list_eq (tickL_len _ _ _ _) fun i hi => ?_
    rw [tickL_len] at hi
    rw [tickL_get n d 0 xs i hi]
    unfold cellT
    rw [lost_none]
    by_cases c : i = 0
    · subst c
      rw [if_pos rfl]
      by_cases c2 : 0 + 1 < xs.length
      · rw [if_pos c2, h 0 c2]; omega
      · rw [if_neg c2]; omega
    · have h1 := h (i - 1) (by omega)
      rw [show i - 1 + 1 = i by omega] at h1
      rw [if_neg c, h1]
      by_cases c2 : i + 1 < xs.length
      · rw [if_pos c2, h i c2]; omega
      · rw [if_neg c2]; omega

theorem tick_turn (n d : Int) (xs : List Int) : tickL n d 0 xs.reverse = (tickL n d 0 xs).reverse := by
  refine list_eq (by rw [tickL_len, List.length_reverse, List.length_reverse, tickL_len]) fun i hi => ?_
  rw [tickL_len, List.length_reverse] at hi
  rw [tickL_get n d 0 _ i (by rw [List.length_reverse]; exact hi), List.getElem?_reverse (by rw [tickL_len]; exact hi), tickL_len, tickL_get n d 0 xs _ (by omega)]
  unfold cellT
  rw [lost_none, lost_none, List.length_reverse, List.getElem?_reverse (show i < xs.length from hi)]
  by_cases c : i = 0
  · subst c
    rw [if_pos rfl]
    by_cases c2 : 0 + 1 < xs.length
    · rw [if_pos c2, List.getElem?_reverse c2, if_neg (show ¬ xs.length - 1 - 0 = 0 by omega), if_neg (show ¬ xs.length - 1 - 0 + 1 < xs.length by omega), List.getElem?_reverse (show 0 < xs.length by omega)]
      rw [flow_turn n d (xs[xs.length - 1 - (0 + 1)]?.getD 0) (xs[xs.length - 1 - 0]?.getD 0), show xs.length - 1 - 0 - 1 = xs.length - 1 - (0 + 1) by omega]
      omega
    · rw [if_neg c2, if_pos (show xs.length - 1 - 0 = 0 by omega), if_neg (show ¬ xs.length - 1 - 0 + 1 < xs.length by omega), List.getElem?_reverse (show 0 < xs.length by omega), show xs.length - 1 - 0 = 0 by omega]
  · rw [if_neg c, List.getElem?_reverse (show i - 1 < xs.length by omega)]
    rw [if_pos (show xs.length - 1 - i + 1 < xs.length by omega), show xs.length - 1 - (i - 1) = xs.length - 1 - i + 1 by omega, flow_turn n d (xs[xs.length - 1 - i]?.getD 0) (xs[xs.length - 1 - i + 1]?.getD 0)]
    by_cases c2 : i + 1 < xs.length
    · rw [if_pos c2, List.getElem?_reverse c2, if_neg (show ¬ xs.length - 1 - i = 0 by omega), show xs.length - 1 - (i + 1) = xs.length - 1 - i - 1 by omega, flow_turn n d (xs[xs.length - 1 - i - 1]?.getD 0) (xs[xs.length - 1 - i]?.getD 0)]
      omega
    · rw [if_neg c2, if_pos (show xs.length - 1 - i = 0 by omega), show xs.length - 1 - i = 0 by omega]
      omega

/-- z more in each cell -/
def moreL (z : Int) (xs : List Int) : List Int := xs.map (· + z)
theorem moreL_len (z : Int) (xs : List Int) : (moreL z xs).length = xs.length := by simp [moreL]
theorem moreL_get (z : Int) (xs : List Int) {i : Nat} (hi : i < xs.length) : (moreL z xs)[i]?.getD 0 = xs[i]?.getD 0 + z := by
  simp [moreL, List.getElem?_eq_getElem hi]
theorem tick_more (n d z : Int) (xs : List Int) : tickL n d 0 (moreL z xs) = moreL z (tickL n d 0 xs) := by
  refine list_eq (by rw [tickL_len, moreL_len, moreL_len, tickL_len]) fun i hi => ?_
  rw [tickL_len, moreL_len] at hi
  rw [tickL_get n d 0 _ i (by rw [moreL_len]; exact hi), moreL_get z _ (by rw [tickL_len]; exact hi), tickL_get n d 0 xs i hi]
  unfold cellT
  rw [lost_none, lost_none, moreL_len, moreL_get z xs hi]
  by_cases c : i = 0
  · subst c
    rw [if_pos rfl, if_pos rfl, moreL_get z xs hi]
    by_cases c2 : 0 + 1 < xs.length
    · rw [if_pos c2, if_pos c2, moreL_get z xs c2, flow_add]; omega
    · rw [if_neg c2, if_neg c2]; omega
  · rw [if_neg c, if_neg c, moreL_get z xs (show i - 1 < xs.length by omega), flow_add]
    by_cases c2 : i + 1 < xs.length
    · rw [if_pos c2, if_pos c2, moreL_get z xs c2, flow_add]; omega
    · rw [if_neg c2, if_neg c2]; omega
theorem tick_flat {n d z : Int} (hg : Grainy n d 0) (k : Nat) : tickL n d 0 (List.replicate k z) = List.replicate k z := by
  rw [rest_iff hg, calm_iff hg]
  intro i hi
  rw [List.length_replicate] at hi
  rw [List.getElem?_replicate, List.getElem?_replicate, if_pos (by omega), if_pos hi]
  exact flow_same n d z
end Go.Proofs.Ytcbbdbglbfnbpaa

/- The laws' end, and package bed's functions at arguments that are valid, or not. -/
set_option linter.unusedVariables false
set_option linter.unusedSimpArgs false
namespace Go.Proofs.Ytcbbdbglbfnbpaa
open Go.RowKit

theorem awakeP (W : World) : Calls Try.prog 12 #[] W (fun e w' => e = .returned (.bool true) ∧ Below W.heap.size W w') := awake_any runOk steepOk W

def Out2 (W : World) (kv ev : Int) (e : Ending) (w' : World) : Prop := e = .returned (.tuple #[.int .i64 kv, .int .i64 ev]) ∧ Below W.heap.size W w'

section
variable {n d l t full water low high : Int} {ao : Option Addr} {la ca : Nat} {xs : List Int} {W : World}
theorem tickYes (hs : Il W ao la xs) (hla : la ≤ 9223372036854775807) (hb : Bedly xs) (hg : Grainy n d l) :
    Calls Try.prog 14 #[.agg #[.int .i64 n, .int .i64 d, .int .i64 l], .slice ao la ca] W (OutLIE W (tickL n d l xs) (lostL d l xs)) :=
  (tickOk n d l ao la ca xs W hs hla).mono fun e w k => k.elim (fun k => k.2.2) (fun k => absurd ⟨hb, hg⟩ k.1)
theorem tickNo (hs : Il W ao la xs) (hla : la ≤ 9223372036854775807) (hv : ¬ (Bedly xs ∧ Grainy n d l)) :
    Calls Try.prog 14 #[.agg #[.int .i64 n, .int .i64 d, .int .i64 l], .slice ao la ca] W (NoneLIE W 2) :=
  (tickOk n d l ao la ca xs W hs hla).mono fun e w k => k.elim (fun k => absurd ⟨k.1, k.2.1⟩ hv) (fun k => k.2)
theorem runYes (hs : Il W ao la xs) (hla : la ≤ 9223372036854775807) (hv : Bedly xs ∧ Grainy n d l ∧ 0 ≤ t ∧ t ≤ 1048576) {T : Nat} (hT : t.toNat = T) :
    Calls Try.prog 19 #[.agg #[.int .i64 n, .int .i64 d, .int .i64 l], .slice ao la ca, .int .i64 t] W (OutRunE W (runL n d l T xs)) := by
  subst hT
  exact (runOk n d l t ao la ca xs W hs hla).mono fun e w k => k.elim (fun k => k.2.2.2.2) (fun k => absurd hv k.1)
theorem runNo (hs : Il W ao la xs) (hla : la ≤ 9223372036854775807) (hv : ¬ (Bedly xs ∧ Grainy n d l ∧ 0 ≤ t ∧ t ≤ 1048576)) :
    Calls Try.prog 19 #[.agg #[.int .i64 n, .int .i64 d, .int .i64 l], .slice ao la ca, .int .i64 t] W (NoneRunE W) :=
  (runOk n d l t ao la ca xs W hs hla).mono fun e w k => k.elim (fun k => absurd ⟨k.1, k.2.1, k.2.2.1, k.2.2.2.1⟩ hv) (fun k => k.2)
theorem steepYes (hs : Il W ao la xs) (hla : la ≤ 9223372036854775807) (hw : water ≤ 9223372036854775807) (hv : Bedly xs ∧ 0 ≤ full ∧ full ≤ 1048576 ∧ 0 ≤ water) :
    Calls Try.prog 23 #[.slice ao la ca, .int .i64 full, .int .i64 water] W (OutLIE W (steepL full xs water).1 (steepL full xs water).2) :=
  (steepOk full water ao la ca xs W hs hla hw).mono fun e w k => k.elim (fun k => k.2.2.2.2) (fun k => absurd hv k.1)
theorem steepNo (hs : Il W ao la xs) (hla : la ≤ 9223372036854775807) (hw : water ≤ 9223372036854775807) (hv : ¬ (Bedly xs ∧ 0 ≤ full ∧ full ≤ 1048576 ∧ 0 ≤ water)) :
    Calls Try.prog 23 #[.slice ao la ca, .int .i64 full, .int .i64 water] W (NoneLIE W 2) :=
  (steepOk full water ao la ca xs W hs hla hw).mono fun e w k => k.elim (fun k => absurd ⟨k.1, k.2.1, k.2.2.1, k.2.2.2.1⟩ hv) (fun k => k.2)
theorem turnYes (hs : Il W ao la xs) (hla : la ≤ 9223372036854775807) (hv : Bedly xs) : Calls Try.prog 24 #[.slice ao la ca] W (OutLE W xs.reverse) :=
  (turnOk ao la ca xs W hs hla).mono fun e w k => k.elim (fun k => k.2) (fun k => absurd hv k.1)
theorem spreadYes (hs : Il W ao la xs) (hla : la ≤ 9223372036854775807) (hv : Bedly xs) : Calls Try.prog 25 #[.slice ao la ca] W (Out2 W (spreadL xs) 0) :=
  (spreadOk ao la ca xs W hs hla).mono fun e w k => k.elim (fun k => k.2) (fun k => absurd hv k.1)
theorem untilYes (hs : Il W ao la xs) (hla : la ≤ 9223372036854775807) (hv : Bedly xs ∧ Grainy n d l ∧ 0 ≤ t ∧ t ≤ 1048576) {M : Nat} (hM : t.toNat = M) :
    Calls Try.prog 21 #[.agg #[.int .i64 n, .int .i64 d, .int .i64 l], .slice ao la ca, .int .i64 low, .int .i64 high, .int .i64 t] W (OutUntil n d l low high M xs W) := by
  subst hM
  exact (untilOk n d l low high t ao la ca xs W hs hla).mono fun e w k => k.elim (fun k => k.2.2.2.2) (fun k => absurd hv k.1)
theorem untilNo (hs : Il W ao la xs) (hla : la ≤ 9223372036854775807) (hv : ¬ (Bedly xs ∧ Grainy n d l ∧ 0 ≤ t ∧ t ≤ 1048576)) :
    Calls Try.prog 21 #[.agg #[.int .i64 n, .int .i64 d, .int .i64 l], .slice ao la ca, .int .i64 low, .int .i64 high, .int .i64 t] W (Out2 W 0 2) :=
  (untilOk n d l low high t ao la ca xs W hs hla).mono fun e w k => k.elim (fun k => absurd ⟨k.1, k.2.1, k.2.2.1, k.2.2.2.1⟩ hv) (fun k => k.2)
end

theorem bed_sum {xs : List Int} (h : Bedly xs) : 0 ≤ xs.sum ∧ xs.sum ≤ 67108864 := by
  have key : ∀ (xs : List Int), (∀ i, i < xs.length → 0 ≤ xs[i]?.getD 0 ∧ xs[i]?.getD 0 ≤ 1048576) → 0 ≤ xs.sum ∧ xs.sum ≤ 1048576 * xs.length := by
    intro xs
    induction xs with
    | nil => intro _; simp
    | cons x xs ih =>
      intro h
      have h0 := h 0 (by simp)
      have h1 := ih (fun i hi => by have := h (i + 1) (by simpa using hi); simpa using this)
      simp only [List.getElem?_cons_zero, Option.getD_some] at h0
      simp only [List.sum_cons, List.length_cons, Int.natCast_add, Int.natCast_one]
      omega
  have := key xs h.2.2
  have := h.2.1
  omega
theorem bed_small {xs : List Int} (h : Bedly xs) : ∀ i, i < xs.length → -4194304 ≤ xs[i]?.getD 0 ∧ xs[i]?.getD 0 ≤ 4194304 := fun i hi => by have := h.2.2 i hi; omega
theorem bedYes {ao : Option Addr} {la ca : Nat} {xs : List Int} {W : World} (hs : Il W ao la xs) (hla : la ≤ 9223372036854775807) (hb : Bedly xs) :
    Calls Try.prog 15 #[.slice ao la ca] W (fun e w' => e = .returned (.bool true) ∧ w' = W) :=
  (bed_any ao la ca xs W hs hla).mono fun e w k => ⟨(k.1.resolve_right fun k => k.1 hb).2, k.2⟩
theorem withinYes {low high : Int} {ao : Option Addr} {la ca : Nat} {xs : List Int} {W : World} (hs : Il W ao la xs) (hla : la ≤ 9223372036854775807) (hb : In low high xs) :
    Calls Try.prog 30 #[.slice ao la ca, .int .i64 low, .int .i64 high] W (fun e w' => e = .returned (.bool true) ∧ w' = W) :=
  (within_any ao la ca low high xs W hs hla).mono fun e w k => ⟨(k.1.resolve_right fun k => k.1 hb).2, k.2⟩
theorem withinNo {low high : Int} {ao : Option Addr} {la ca : Nat} {xs : List Int} {W : World} (hs : Il W ao la xs) (hla : la ≤ 9223372036854775807) (hb : ¬ In low high xs) :
    Calls Try.prog 30 #[.slice ao la ca, .int .i64 low, .int .i64 high] W (fun e w' => e = .returned (.bool false) ∧ w' = W) :=
  (within_any ao la ca low high xs W hs hla).mono fun e w k => ⟨(k.1.resolve_left fun k => hb k.1).2, k.2⟩
theorem sameYes {ao bo : Option Addr} {la lb ca cb : Nat} {xs ys : List Int} {W : World} (hs : Il W ao la xs) (ht : Il W bo lb ys) (hla : la ≤ 9223372036854775807) (hlb : lb ≤ 9223372036854775807) (h : xs = ys) :
    Calls Try.prog 18 #[.slice ao la ca, .slice bo lb cb] W (fun e w' => e = .returned (.bool true) ∧ Drew W w') :=
  (same_any ao bo la lb ca cb xs ys W hs ht hla hlb).mono fun e w k => ⟨(k.1.resolve_right fun k => k.1 h).2, k.2⟩
theorem sameNo {ao bo : Option Addr} {la lb ca cb : Nat} {xs ys : List Int} {W : World} (hs : Il W ao la xs) (ht : Il W bo lb ys) (hla : la ≤ 9223372036854775807) (hlb : lb ≤ 9223372036854775807) (h : ¬ xs = ys) :
    Calls Try.prog 18 #[.slice ao la ca, .slice bo lb cb] W (fun e w' => e = .returned (.bool false) ∧ Drew W w') :=
  (same_any ao bo la lb ca cb xs ys W hs ht hla hlb).mono fun e w k => ⟨(k.1.resolve_left fun k => h k.1).2, k.2⟩

open Go.ChangeShapes Go.WideShapes Go.Joins in
set_option maxRecDepth 100000 in
theorem open_u16 {H : Type} {enc : TypeId × Value → H} {W : World} {v : Value} {d : DataW H} {p : List MemPlace} {base : Nat}
    (hv : Value.okWide Try.prog W .any base 53 v) (h : DataW.Trod enc Try.prog W 0 (fun _ => true) true 53 v d p) : ∃ n, v = .int .u16 n ∧ 0 ≤ n ∧ n ≤ 65535 := by
  obtain ⟨n, rfl⟩ := okWide_int Try.underlying53 hv
  obtain ⟨fuel, hf⟩ := h
  obtain ⟨m, e0, _, w0⟩ := DataW.trod_int Try.underlying53 hf
  simp [Value.cells] at e0
  subst e0
  exact ⟨n, rfl, bounds_u16 w0⟩
end Go.Proofs.Ytcbbdbglbfnbpaa

/- For every grain, list and number of ticks, BedSmooths returns true. (By gen_bedlaws2.py.) -/
set_option linter.unusedVariables false
set_option linter.unusedSimpArgs false
namespace Go.Proofs.Ytcbbdbglbfnbpaa.bedSmooths
open Go.ChangeShapes Go.WideShapes Go.ChangeAt Go.RowKit Go.Proofs.Ytcbbdbglbfnbpaa


theorem calm_mono {n d : Int} {xs : List Int} {i : Nat} (h : Calm n d xs (i + 1)) : Calm n d xs i := fun j hj => h j (by omega)
theorem calm_step {n d : Int} {xs : List Int} {i : Nat} (h : Calm n d xs i) (h1 : max (xs[i]?.getD 0 - xs[i + 1]?.getD 0) (xs[i + 1]?.getD 0 - xs[i]?.getD 0) * n < d) : Calm n d xs (i + 1) := fun j hj => by
  rcases Nat.lt_succ_iff_lt_or_eq.1 hj with h2 | rfl
  · exact h j h2
  · exact h1

set_option maxRecDepth 100000 in
set_option maxHeartbeats 16000000 in
theorem walk (n d l t : Int) (ao : Option Addr) (la ca : Nat) (xs : List Int) (W : World) (hs : Il W ao la xs) (hla : la ≤ 9223372036854775807) :
    Calls Try.prog 8 #[.agg #[.int .i64 n, .int .i64 d, .int .i64 l], .slice ao la ca, .int .i64 t] W (fun e w' => e = .returned (.bool true) ∧ Below W.heap.size W w') := by
  have hbe : Below W.heap.size W (W.alloc (.cells #[.int .i64 n, .int .i64 d, .int .i64 l] 23)) := (Below.refl _ _).alloc (Nat.le_refl _) _
  have GB := Lib.hid hbe
  have GN := Lib.hid (Gr.new W n d l)
  have HL := Lib.hid hs.len
  have HS := Lib.hid (hs.keep hbe)
  clear hbe hs
  have d0 := GN.out.c0
  have d1 := GN.out.c1
  have d2 := GN.out.c2
  go_enter Try.func8, Try.ntmps8
  by_cases g1 : 64 < la
  · have t1 : (64 : Int) < (la : Int) := by omega
    go_wp2_with fail
    refine (awakeP _).mono ?_
    rintro e w9 ⟨rfl, hb⟩
    have B9 := Lib.hid (below_then GB.out hb)
    clear hb
    go_wp2
    go_ret
    exact ⟨rfl, B9.out⟩
  · have t1 : ¬ (64 : Int) < (la : Int) := by omega
    have hlx : xs.length ≤ 64 := by rw [HL.out]; omega
    by_cases g2 : 3000 < t
    · skip
      go_wp2_with fail
      refine (awakeP _).mono ?_
      rintro e w9 ⟨rfl, hb⟩
      have B9 := Lib.hid (below_then GB.out hb)
      clear hb
      go_wp2
      go_ret
      exact ⟨rfl, B9.out⟩
    · by_cases g3 : l = 0
      · subst g3
        have g4 : ((0 : Int) != 0) = false := by simp
        by_cases hv : Bedly xs ∧ Grainy n d 0 ∧ 0 ≤ t ∧ t ≤ 1048576
        · have HV := Lib.hid hv
          obtain ⟨T, hT⟩ : ∃ T : Nat, t.toNat = T := ⟨_, rfl⟩
          have HT := Lib.hid hT
          have hla1 : 1 ≤ la := by have := hv.1.1; rw [HL.out] at this; omega
          have RL := Lib.hid (runL_len n d 0 T xs)
          have RB := Lib.hid (run_bed hv.2.1 T xs hv.1)
          have RI := Lib.hid (runs_in hv.2.1 T xs (in_span xs))
          have R0 := Lib.hid (run_lost0 n d T xs)
          have RN := run_le n d 0 T xs
          have hTM : T ≤ 3000 := by omega
          clear hv hT
          go_wp2_with fail
          refine (runYes HS.out hla HV.out HT.out).mono ?_
          rintro e w1 ⟨ro, rc, rfl, hlr, hcr, hil, hb⟩
          rw [R0.out]
          have B1 := Lib.hid (below_then GB.out hb)
          have S1 := Lib.hid (HS.out.keep hb)
          have N1 := Lib.hid (GN.out.keep hb)
          have R1 := Lib.hid hil
          obtain ⟨N, hN⟩ : ∃ N : Nat, N = (runL n d 0 T xs).2.2 := ⟨_, rfl⟩
          rw [← hN] at RN ⊢
          have HN := Lib.hid hN
          clear hil hb hN d0 d1 d2
          obtain ⟨b, off, rfl, hc⟩ := S1.out.at (by omega)
          have HC := Lib.hid hc
          have hc0 := hc 0 (by omega)
          rw [Nat.add_zero] at hc0
          obtain ⟨z, hz⟩ : ∃ z, z = xs[0]?.getD 0 := ⟨_, rfl⟩
          rw [← hz] at hc0 RI
          have HZ := Lib.hid hz
          clear hc hz
          have u3 : (0 : Int) < (la : Int) := by omega
          have n0 : ((0 : Int) != 0) = false := by simp
          go_wp2
          go_quiet (fail)
          go_wp2
          go_loopw [11, 12, 58] (fun lv hv iv wr => ∃ i : Nat, i ≤ la ∧ iv = .int .i64 (i : Int) ∧ lv = .int .i64 (lowZ z (xs.take i)) ∧ hv = .int .i64 (highZ z (xs.take i)) ∧ Drew w1 wr) (fun lv hv iv _ => la - (intOf iv).toNat)
          case atStart => exact ⟨0, by omega, rfl, rfl, rfl, (Drew.refl _).more _⟩
          case round =>
            obtain ⟨i, hi, rfl, rfl, rfl, hw⟩ := hrel
            have HW := Lib.hid hw
            clear hw
            by_cases h1 : i < la
            · have u1 : (i : Int) < (la : Int) := by omega
              have u0 : (0 : Int) ≤ (i : Int) := by omega
              have hci := (HW.out.cell _).trans (HC.out i h1)
              have e1 := lowZ_step z (xs := xs) (i := i) (by rw [HL.out]; omega)
              have e2 := highZ_step z (xs := xs) (i := i) (by rw [HL.out]; omega)
              obtain ⟨x, hx⟩ : ∃ x, x = xs[i]?.getD 0 := ⟨_, rfl⟩
              obtain ⟨lo, hlo⟩ : ∃ x, x = lowZ z (xs.take i) := ⟨_, rfl⟩
              obtain ⟨hi2, hhi⟩ : ∃ x, x = highZ z (xs.take i) := ⟨_, rfl⟩
              rw [← hx] at hci e1 e2
              rw [← hlo] at e1
              rw [← hhi] at e2
              rw [← hlo, ← hhi]
              have E1 := Lib.hid e1
              have E2 := Lib.hid e2
              clear hx hlo hhi e1 e2
              go_wp2
              go_roundw
              case rel => exact ⟨i + 1, by omega, by go_num, congrArg (Value.int .i64) (by rw [E1.out]; split <;> omega), congrArg (Value.int .i64) (by rw [E2.out]; split <;> omega), HW.out⟩
              case measure => simp only [intOf]; omega
            · have u1 : ¬ (i : Int) < (la : Int) := by omega
              have hE : xs.take i = xs := List.take_of_length_le (by rw [HL.out]; omega)
              rw [hE]
              have B3 := Lib.hid (B1.out.trans (HW.out.below (B := W.heap.size)))
              have S3 := Lib.hid (S1.out.of_drew HW.out)
              have R3 := Lib.hid (R1.out.of_drew HW.out)
              have N3 := Lib.hid (N1.out.keep HW.out.below)
              have SP := Lib.hid (show spreadL (runL n d 0 T xs).1 ≤ highZ z xs - lowZ z xs from spread_le (by rw [RL.out, HL.out]; omega) RI.out)
              have SX := Lib.hid (show spreadL xs = highZ z xs - lowZ z xs by unfold spreadL; rw [← HZ.out])
              clear HW hi hE
              go_wp2_with fail
              refine (withinYes R3.out (by rw [RL.out]; omega) RI.out).mono ?_
              rintro e w4 ⟨rfl, rfl⟩
              go_wp2_with fail
              refine (spreadYes S3.out hla HV.out.1).mono ?_
              rintro e w5 ⟨rfl, hb⟩
              have B5 := Lib.hid (below_then B3.out hb)
              have R5 := Lib.hid (R3.out.keep hb)
              have N5 := Lib.hid (N3.out.keep hb)
              clear hb
              go_wp2_with fail
              refine (spreadYes R5.out (by rw [RL.out]; omega) RB.out).mono ?_
              rintro e w6 ⟨rfl, hb⟩
              have B6 := Lib.hid (below_then B5.out hb)
              have R6 := Lib.hid (R5.out.keep hb)
              have N6 := Lib.hid (N5.out.keep hb)
              obtain ⟨sa, hsa⟩ : ∃ z, z = spreadL xs := ⟨_, rfl⟩
              obtain ⟨sb, hsb⟩ : ∃ z, z = spreadL (runL n d 0 T xs).1 := ⟨_, rfl⟩
              have sc : ¬ sa < sb := by have := SP.out; have := SX.out; omega
              have sc' : decide (sa < sb) = false := by simp; omega
              rw [← hsa, ← hsb]
              clear hb hsa hsb hc0
              go_wp2
              obtain ⟨ys, hys⟩ : ∃ ys, ys = (runL n d 0 T xs).1 := ⟨_, rfl⟩
              rw [← hys]
              have hyl : ys.length = la := by rw [hys, RL.out, HL.out]
              have HYS := Lib.hid hys
              have HYL := Lib.hid hyl
              have RY := Lib.hid (hys ▸ R6.out : Il w6 ro ys.length ys)
              have YB := Lib.hid (hys ▸ RB.out : Bedly ys)
              clear hys hyl sc sc'
              have hyl1 : ys.length ≤ la := by rw [HYL.out]; exact Nat.le_refl _
              have hyl2 : la ≤ ys.length := by rw [HYL.out]; exact Nat.le_refl _
              go_loopw [19, 20] (fun rv iv wr => ∃ (i : Nat) (rb : Bool), i + 1 ≤ la ∧ iv = .int .i64 (i : Int) ∧ rv = .bool rb ∧ (rb = true ↔ Calm n d ys i) ∧ Drew w6 wr) (fun rv iv _ => la - (intOf iv).toNat)
              case atStart => exact ⟨0, true, by omega, rfl, rfl, ⟨fun _ j hj => absurd hj (by omega), fun _ => rfl⟩, Drew.refl _⟩
              case round =>
                obtain ⟨i, rb, hi, rfl, rfl, hrb, hw⟩ := hrel
                have HRB := Lib.hid hrb
                have HW := Lib.hid hw
                clear hrb hw
                have u0 : (0 : Int) ≤ (i : Int) := by omega
                by_cases h1 : i + 1 < ys.length
                · have u1 : (i : Int) + 1 < (ys.length : Int) := by omega
                  have u2 : (i : Int) < (ys.length : Int) := by omega
                  obtain ⟨b2, off2, rfl, hc⟩ := RY.out.at (by omega)
                  obtain ⟨k, hk1, hk2⟩ : ∃ k, k ≤ i + 1 ∧ i + 1 ≤ k := ⟨i + 1, by omega, by omega⟩
                  have hci := (HW.out.cell _).trans (hc i (by omega))
                  have hck := (HW.out.cell _).trans (hc k (by omega))
                  have kx := YB.out.2.2 i (by omega)
                  have ky := YB.out.2.2 k (by omega)
                  obtain ⟨x, hx⟩ : ∃ x, x = ys[i]?.getD 0 := ⟨_, rfl⟩
                  obtain ⟨y, hy⟩ : ∃ x, x = ys[k]?.getD 0 := ⟨_, rfl⟩
                  rw [← hx] at hci kx
                  rw [← hy] at hck ky
                  have HX := Lib.hid hx
                  have HY := Lib.hid (show y = ys[i + 1]?.getD 0 by rw [hy, show k = i + 1 by omega])
                  have wk : IntKind.i64.wrap ((i : Int) + 1) = (k : Int) := (IntWalk.i64_in _ (by omega)).trans (by omega)
                  have bk : (k : Int) < (ys.length : Int) := by omega
                  have bk2 : (0 : Int) ≤ (k : Int) := by omega
                  have wx : IntKind.i64.wrap (x - y) = x - y := IntWalk.i64_in _ (by omega)
                  have wy : IntKind.i64.wrap (y - x) = y - x := IntWalk.i64_in _ (by omega)
                  clear hc hx hy
                  have d0 := (N6.out.keep HW.out.below).c0
                  have d1 := (N6.out.keep HW.out.below).c1
                  go_wp2
                  go_quiet (fail)
                  obtain ⟨D, hD⟩ : ∃ D, D = (if x - y < y - x then y - x else x - y) := ⟨_, rfl⟩
                  rw [← hD]
                  have bD : 0 ≤ D ∧ D ≤ 1048576 := by split at hD <;> omega
                  have hmx : D = max (x - y) (y - x) := by split at hD <;> omega
                  have hg := HV.out.2.1
                  unfold Grainy at hg
                  have bm := mul_bound (p := D) (n := n) (by omega) (by omega) (by omega) (by omega)
                  have HM := Lib.hid (show D = max (ys[i]?.getD 0 - ys[i + 1]?.getD 0) (ys[i + 1]?.getD 0 - ys[i]?.getD 0) by rw [← HX.out, ← HY.out]; exact hmx)
                  clear hD hmx hg wx wy wk
                  cases rb with
                  | false =>
                    have NC := Lib.hid (show ¬ Calm n d ys i from fun h => Bool.noConfusion (HRB.out.2 h))
                    clear HRB
                    go_wp2
                    go_roundw
                    case rel => exact ⟨i + 1, false, by omega, by go_num, rfl, ⟨fun h => Bool.noConfusion h, fun h => absurd (calm_mono h) NC.out⟩, HW.out.more _⟩
                    case measure => simp only [intOf]; omega
                  | true =>
                    have YC := Lib.hid (HRB.out.1 rfl)
                    clear HRB
                    by_cases c : D * n < d
                    · have c' : decide (D * n < d) = true := by simp [c]
                      go_wp2
                      go_roundw
                      case rel => exact ⟨i + 1, true, by omega, by go_num, rfl, ⟨fun _ => calm_step YC.out (by rw [← HM.out]; exact c), fun _ => rfl⟩, HW.out.more _⟩
                      case measure => simp only [intOf]; omega
                    · have c' : decide (D * n < d) = false := by simp; omega
                      go_wp2
                      go_roundw
                      case rel => exact ⟨i + 1, false, by omega, by go_num, rfl, ⟨fun h => Bool.noConfusion h, fun h => absurd (by have := h i (by omega); rw [← HM.out] at this; exact this) (show ¬ D * n < d by omega)⟩, HW.out.more _⟩
                      case measure => simp only [intOf]; omega
                · have u1 : ¬ (i : Int) + 1 < (ys.length : Int) := by omega
                  have HRB2 := Lib.hid (show rb = true ↔ Calm n d (runL n d 0 T xs).1 ((runL n d 0 T xs).1.length - 1) by rw [← HYS.out, show ys.length - 1 = i by omega]; exact HRB.out)
                  have B7 := Lib.hid (B6.out.trans (HW.out.below (B := W.heap.size)))
                  have R7 := Lib.hid (RY.out.of_drew HW.out)
                  have d0 := (N6.out.keep HW.out.below).c0
                  have d1 := (N6.out.keep HW.out.below).c1
                  have d2 := (N6.out.keep HW.out.below).c2
                  clear HRB HW
                  have HRB := HRB2
                  clear HRB2
                  go_wp2_with fail
                  refine (tickYes R7.out (by omega) YB.out HV.out.2.1).mono ?_
                  rintro e w8 ⟨xo, xc, rfl, hlx2, hcx, hil, hb⟩
                  have B8 := Lib.hid (below_then B7.out hb)
                  have R8 := Lib.hid (R7.out.keep hb)
                  have X8 := Lib.hid hil
                  have TL := Lib.hid (tickL_len n d 0 ys)
                  clear hil hb d0 d1 d2
                  cases rb with
                  | true =>
                    have YC := Lib.hid ((rest_iff HV.out.2.1).2 (by rw [HYS.out]; exact HRB.out.1 rfl) : tickL n d 0 ys = ys)
                    clear HRB
                    go_wp2_with fail
                    refine (sameYes (ca := xc) (cb := rc) X8.out R8.out (by rw [TL.out]; omega) (by omega) YC.out).mono ?_
                    rintro e wb ⟨rfl, hd⟩
                    have Bb := Lib.hid (below_then B8.out hd.below)
                    clear hd
                    by_cases c9 : t ≤ (N : Int)
                    · skip
                      go_wp2_with fail
                      refine (awakeP _).mono ?_
                      rintro e w9 ⟨rfl, hb⟩
                      have B9 := Lib.hid (below_then Bb.out hb)
                      clear hb
                      go_wp2
                      go_ret
                      exact ⟨rfl, B9.out⟩
                    · skip
                      go_wp2_with fail
                      refine (awakeP _).mono ?_
                      rintro e w9 ⟨rfl, hb⟩
                      have B9 := Lib.hid (below_then Bb.out hb)
                      clear hb
                      go_wp2
                      go_ret
                      exact ⟨rfl, B9.out⟩
                  | false =>
                    have NC := Lib.hid ((fun h => Bool.noConfusion (HRB.out.2 (by have := (rest_iff HV.out.2.1).1 h; rw [HYS.out] at this; exact this))) : ¬ tickL n d 0 ys = ys)
                    clear HRB
                    go_wp2_with fail
                    refine (sameNo (ca := xc) (cb := rc) X8.out R8.out (by rw [TL.out]; omega) (by omega) NC.out).mono ?_
                    rintro e wb ⟨rfl, hd⟩
                    have Bb := Lib.hid (below_then B8.out hd.below)
                    clear hd
                    have c9 : t ≤ (N : Int) := by
                      by_cases c : N < T
                      · exact absurd (by rw [HYS.out]; exact run_rest n d 0 T xs (by rw [← HN.out]; exact c)) NC.out
                      · have := HT.out; have := HV.out.2.2.1; omega
                    go_wp2_with fail
                    refine (awakeP _).mono ?_
                    rintro e w9 ⟨rfl, hb⟩
                    have B9 := Lib.hid (below_then Bb.out hb)
                    clear hb
                    go_wp2
                    go_ret
                    exact ⟨rfl, B9.out⟩
        · have HV := Lib.hid hv
          clear hv
          go_wp2_with fail
          refine (runNo HS.out hla HV.out).mono ?_
          rintro e w1 ⟨ro, rc, rfl, hcr, hb⟩
          have B1 := Lib.hid (below_then GB.out hb)
          clear hb d0 d1 d2
          go_wp2_with fail
          refine (awakeP _).mono ?_
          rintro e w9 ⟨rfl, hb⟩
          have B9 := Lib.hid (below_then B1.out hb)
          clear hb
          go_wp2
          go_ret
          exact ⟨rfl, B9.out⟩
      · have g4 : (l != 0) = true := by simp [g3]
        go_wp2_with fail
        refine (awakeP _).mono ?_
        rintro e w9 ⟨rfl, hb⟩
        have B9 := Lib.hid (below_then GB.out hb)
        clear hb
        go_wp2
        go_ret
        exact ⟨rfl, B9.out⟩
end Go.Proofs.Ytcbbdbglbfnbpaa.bedSmooths
