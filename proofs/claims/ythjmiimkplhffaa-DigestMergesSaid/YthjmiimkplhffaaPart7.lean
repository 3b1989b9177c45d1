/- Part 7 of the contracts: DMerge, DMergeOk, DActs, DBuilt0, DCap, DFew, DBuilt. -/
import Derived.Deep.SlicePairs
import Derived.Deep.AppendLies
import Derived.Test.YthjmiimkplhffaaPart6

/- The program's Merge, where it refuses. (Written by gen_merge.py from merge.head.) -/
set_option linter.unusedVariables false
set_option linter.unusedSimpArgs false
namespace Go.Proofs.Ythjmiimkplhffaa
open Go.RowKit Go.Maps

theorem run_neq_shape (l f a b : Int) (w : World) :
    (binOp .neq 25 (.agg #[.int .i64 l, .int .i64 f]) (.agg #[.int .i64 a, .int .i64 b])).run Try.prog w = .ok (.bool (!(l == a && f == b))) w := by
  rw [run_neq_struct, show (10000 : Nat) = 9998 + 1 + 1 from rfl, eqIn_shape]
  simp [Result.andThen]

/-- in the middle of Merge -/
structure MF (W w : World) (ta ma L : Nat) (F n : Int) (c : Int → Int) (tb mb K : Nat) (G m : Int) (k : Int → Int) : Prop where
  a0 : w.cell? ⟨W.heap.size, 0, none⟩ = some (.int .i64 (L : Int))
  a1 : w.cell? ⟨W.heap.size, 1, none⟩ = some (.int .i64 F)
  a2 : w.cell? ⟨W.heap.size, 2, none⟩ = some (.pointer (some ⟨ta, 0, none⟩))
  b0 : w.cell? ⟨W.heap.size + 1, 0, none⟩ = some (.int .i64 (K : Int))
  b1 : w.cell? ⟨W.heap.size + 1, 1, none⟩ = some (.int .i64 G)
  b2 : w.cell? ⟨W.heap.size + 1, 2, none⟩ = some (.pointer (some ⟨tb, 0, none⟩))
  row : w.heap[W.heap.size + 1 + 1]? = some (.cells #[.int .i64 0, .int .i64 0, .pointer none] 28 (0, 0))
  ta : Tree w ta ma n c
  tb : Tree w tb mb m k
  b : Below W.heap.size W w
theorem MF.keep {W w w' : World} {ta ma L tb mb K : Nat} {F n G m : Int} {c k : Int → Int} (h : MF W w ta ma L F n c tb mb K G m k) (hb : Below w.heap.size w w') : MF W w' ta ma L F n c tb mb K G m k :=
  ⟨cell_later hb h.a0, cell_later hb h.a1, cell_later hb h.a2, cell_later hb h.b0, cell_later hb h.b1, cell_later hb h.b2, row_keep hb h.row, h.ta.keep hb, h.tb.keep hb, h.b.trans (hb.mono h.b.size)⟩
theorem MF.start {W : World} {ta ma L tb mb K : Nat} {F n G m : Int} {c k : Int → Int} (h1 : Tree W ta ma n c) (h2 : Tree W tb mb m k) :
    MF W (((W.alloc (.cells #[.int .i64 (L : Int), .int .i64 F, .pointer (some ⟨ta, 0, none⟩)] 28)).alloc (.cells #[.int .i64 (K : Int), .int .i64 G, .pointer (some ⟨tb, 0, none⟩)] 28)).alloc (.cells #[.int .i64 0, .int .i64 0, .pointer none] 28)) ta ma L F n c tb mb K G m k := by
  have hb := new_below W (.cells #[.int .i64 (L : Int), .int .i64 F, .pointer (some ⟨ta, 0, none⟩)] 28) (.cells #[.int .i64 (K : Int), .int .i64 G, .pointer (some ⟨tb, 0, none⟩)] 28) (.cells #[.int .i64 0, .int .i64 0, .pointer none] 28)
  have hr := third_block W (.cells #[.int .i64 (L : Int), .int .i64 F, .pointer (some ⟨ta, 0, none⟩)] 28) (.cells #[.int .i64 (K : Int), .int .i64 G, .pointer (some ⟨tb, 0, none⟩)] 28) (.cells #[.int .i64 0, .int .i64 0, .pointer none] 28)
  have h0 : (((W.alloc (.cells #[.int .i64 (L : Int), .int .i64 F, .pointer (some ⟨ta, 0, none⟩)] 28)).alloc (.cells #[.int .i64 (K : Int), .int .i64 G, .pointer (some ⟨tb, 0, none⟩)] 28)).alloc (.cells #[.int .i64 0, .int .i64 0, .pointer none] 28)).heap[W.heap.size]? = some (.cells #[.int .i64 (L : Int), .int .i64 F, .pointer (some ⟨ta, 0, none⟩)] 28 (0, 0)) := old_block W _ _ _
  have hq : (((W.alloc (.cells #[.int .i64 (L : Int), .int .i64 F, .pointer (some ⟨ta, 0, none⟩)] 28)).alloc (.cells #[.int .i64 (K : Int), .int .i64 G, .pointer (some ⟨tb, 0, none⟩)] 28)).alloc (.cells #[.int .i64 0, .int .i64 0, .pointer none] 28)).heap[W.heap.size + 1]? = some (.cells #[.int .i64 (K : Int), .int .i64 G, .pointer (some ⟨tb, 0, none⟩)] 28 (0, 0)) := by
    rw [Below.heap_alloc _ _ _ (by simp)]
    have := heap_alloc_new (W.alloc (.cells #[.int .i64 (L : Int), .int .i64 F, .pointer (some ⟨ta, 0, none⟩)] 28)) (.cells #[.int .i64 (K : Int), .int .i64 G, .pointer (some ⟨tb, 0, none⟩)] 28)
    rwa [World.size_alloc] at this
  have k0 := three_cells h0
  have k1 := three_cells hq
  exact ⟨k0.1, k0.2.1, k0.2.2.1, k1.1, k1.2.1, k1.2.2.1, hr, h1.keep hb, h2.keep hb, hb⟩

set_option maxRecDepth 100000 in
set_option maxHeartbeats 4000000 in
theorem merge_arg (ta tb L K : Nat) (F G : Int) (c k : Int → Int) (W : World) (h : DigM W ta L F c) (h' : DigM W tb K G k) (hne : ¬ (L = K ∧ F = G)) :
    Calls Try.prog 23 #[.agg #[.int .i64 (L : Int), .int .i64 F, .pointer (some ⟨ta, 0, none⟩)], .agg #[.int .i64 (K : Int), .int .i64 G, .pointer (some ⟨tb, 0, none⟩)]] W (fun e w' => e = .returned (.tuple #[zeroD, .int .i64 2]) ∧ Below W.heap.size W w') := by
  obtain ⟨ma, ht, _, _, ⟨hl1, _⟩, _⟩ := h
  obtain ⟨mb, hu, _, _, ⟨hk1, _⟩, _⟩ := h'
  obtain ⟨V, hV⟩ : ∃ V, V = ((W.alloc (.cells #[.int .i64 (L : Int), .int .i64 F, .pointer (some ⟨ta, 0, none⟩)] 28)).alloc (.cells #[.int .i64 (K : Int), .int .i64 G, .pointer (some ⟨tb, 0, none⟩)] 28)).alloc (.cells #[.int .i64 0, .int .i64 0, .pointer none] 28) := ⟨_, rfl⟩
  have HMF : Hid (MF W V ta ma L F (tot L c) c tb mb K G (tot K k) k) := Lib.hid (by rw [hV]; exact MF.start ht hu)
  have HLL : Hid (∀ l : Int, (l = (L : Int) ∨ l = (K : Int)) → 1 ≤ l) := Lib.hid (fun l h => by rcases h with h | h <;> omega)
  have hq : ∀ w, (binOp .neq 25 (.agg #[.int .i64 (L : Int), .int .i64 F]) (.agg #[.int .i64 (K : Int), .int .i64 G])).run Try.prog w = .ok (.bool true) w := fun w => by
    rw [run_neq_shape]
    have e : ((L : Int) == (K : Int) && F == G) = false := by
      by_cases h1 : (L : Int) = K <;> by_cases h2 : F = G <;> simp [h1, h2]
      · exact hne ⟨by omega, h2⟩
    rw [e]
    rfl
  have HV := Lib.hid hV
  clear ht hu hV hne
  have a0 := HMF.out.a0; have a1 := HMF.out.a1; have a2 := HMF.out.a2; have b0 := HMF.out.b0; have b1 := HMF.out.b1; have b2 := HMF.out.b2; have t0 := HMF.out.tb.c0; have t1 := HMF.out.tb.c1; have t2 := HMF.out.ta.c1; have hr9 := three_cells HMF.out.row; have r0 := hr9.1; have r1 := hr9.2.1; have r2 := hr9.2.2.1; have r3 := hr9.2.2.2.1; have r4 := hr9.2.2.2.2.1; have r5 := hr9.2.2.2.2.2; clear hr9
  go_enter Try.func23, Try.ntmps23
  go_upto_region 1 with fail
  rw [← HV.out]
  go_wp2_with (go_at_call 35; refine (usable_yes _ _ _ _ (HLL.out _ (by first | exact Or.inl rfl | exact Or.inr rfl))).mono ?_; rintro e w1 ⟨rfl, hb1⟩; clear a0 a1 a2 b0 b1 b2 t0 t1 t2 r0 r1 r2 r3 r4 r5; replace HMF := Lib.hid (HMF.out.keep hb1); have a0 := HMF.out.a0; have a1 := HMF.out.a1; have a2 := HMF.out.a2; have b0 := HMF.out.b0; have b1 := HMF.out.b1; have b2 := HMF.out.b2; have t0 := HMF.out.tb.c0; have t1 := HMF.out.tb.c1; have t2 := HMF.out.ta.c1; have hr9 := three_cells HMF.out.row; have r0 := hr9.1; have r1 := hr9.2.1; have r2 := hr9.2.2.1; have r3 := hr9.2.2.2.1; have r4 := hr9.2.2.2.2.1; have r5 := hr9.2.2.2.2.2; clear hr9; clear hb1)
  refine bodyPost_ret (v := .tuple #[zeroD, .int .i64 2]) (results_cell_tmp Try.results23 _ _ (W.heap.size + 1 + 1) 28 #[.int .i64 0, .int .i64 0, .pointer none] (0, 0) _ rfl (set_three HMF.out.row) Try.underlying28 (by kernel_rfl) (by kernel_rfl)) rfl ?_
  exact ⟨rfl, set_below2 HMF.out.b⟩

set_option maxRecDepth 100000 in
set_option maxHeartbeats 4000000 in
theorem merge_full (ta tb L : Nat) (F : Int) (c k : Int → Int) (W : World) (h : DigM W ta L F c) (h' : DigM W tb L F k) (hf : 1099511627776 - tot L k < tot L c) :
    Calls Try.prog 23 #[.agg #[.int .i64 (L : Int), .int .i64 F, .pointer (some ⟨ta, 0, none⟩)], .agg #[.int .i64 (L : Int), .int .i64 F, .pointer (some ⟨tb, 0, none⟩)]] W (fun e w' => e = .returned (.tuple #[zeroD, .int .i64 5]) ∧ Below W.heap.size W w') := by
  obtain ⟨ma, ht, _, _, ⟨hl1, _⟩, _⟩ := h
  obtain ⟨mb, hu, _, _, _, hgk, hk2, _⟩ := h'
  have hk0 : 0 ≤ tot L k := S_nonneg _ (fun i _ => hgk.1 i)
  obtain ⟨n, hn⟩ : ∃ n : Int, n = tot L c := ⟨_, rfl⟩
  obtain ⟨m, hm⟩ : ∃ m : Int, m = tot L k := ⟨_, rfl⟩
  rw [← hn] at hf ht
  rw [← hm] at hf hu hk2 hk0
  obtain ⟨V, hV⟩ : ∃ V, V = ((W.alloc (.cells #[.int .i64 (L : Int), .int .i64 F, .pointer (some ⟨ta, 0, none⟩)] 28)).alloc (.cells #[.int .i64 (L : Int), .int .i64 F, .pointer (some ⟨tb, 0, none⟩)] 28)).alloc (.cells #[.int .i64 0, .int .i64 0, .pointer none] 28) := ⟨_, rfl⟩
  have HMF : Hid (MF W V ta ma L F n c tb mb L F m k) := Lib.hid (by rw [hV]; exact MF.start ht hu)
  have HLL : Hid (∀ l : Int, (l = (L : Int) ∨ l = (L : Int)) → 1 ≤ l) := Lib.hid (fun l h => by rcases h with h | h <;> omega)
  have hq : ∀ w, (binOp .neq 25 (.agg #[.int .i64 (L : Int), .int .i64 F]) (.agg #[.int .i64 (L : Int), .int .i64 F])).run Try.prog w = .ok (.bool false) w := fun w => by
    rw [run_neq_shape]
    simp
  have HW1 : Hid (IntKind.i64.wrap (1099511627776 - m) = 1099511627776 - m) := IntWalk.i64_in _ (by omega)
  have HV := Lib.hid hV
  clear ht hu hV hn hm
  have a0 := HMF.out.a0; have a1 := HMF.out.a1; have a2 := HMF.out.a2; have b0 := HMF.out.b0; have b1 := HMF.out.b1; have b2 := HMF.out.b2; have t0 := HMF.out.tb.c0; have t1 := HMF.out.tb.c1; have t2 := HMF.out.ta.c1; have hr9 := three_cells HMF.out.row; have r0 := hr9.1; have r1 := hr9.2.1; have r2 := hr9.2.2.1; have r3 := hr9.2.2.2.1; have r4 := hr9.2.2.2.2.1; have r5 := hr9.2.2.2.2.2; clear hr9
  go_enter Try.func23, Try.ntmps23
  go_upto_region 1 with fail
  rw [← HV.out]
  go_wp2_with (go_at_call 35; refine (usable_yes _ _ _ _ (HLL.out _ (by first | exact Or.inl rfl | exact Or.inr rfl))).mono ?_; rintro e w1 ⟨rfl, hb1⟩; clear a0 a1 a2 b0 b1 b2 t0 t1 t2 r0 r1 r2 r3 r4 r5; replace HMF := Lib.hid (HMF.out.keep hb1); have a0 := HMF.out.a0; have a1 := HMF.out.a1; have a2 := HMF.out.a2; have b0 := HMF.out.b0; have b1 := HMF.out.b1; have b2 := HMF.out.b2; have t0 := HMF.out.tb.c0; have t1 := HMF.out.tb.c1; have t2 := HMF.out.ta.c1; have hr9 := three_cells HMF.out.row; have r0 := hr9.1; have r1 := hr9.2.1; have r2 := hr9.2.2.1; have r3 := hr9.2.2.2.1; have r4 := hr9.2.2.2.2.1; have r5 := hr9.2.2.2.2.2; clear hr9; clear hb1)
  go_quiet (fail)
  go_wp2_with fail
  refine bodyPost_ret (v := .tuple #[zeroD, .int .i64 5]) (results_cell_tmp Try.results23 _ _ (W.heap.size + 1 + 1) 28 #[.int .i64 0, .int .i64 0, .pointer none] (0, 0) _ rfl (set_three (HMF.out.keep (below_drewN (Below.refl _ _) _)).row) Try.underlying28 (by kernel_rfl) (by kernel_rfl)) rfl ?_
  exact ⟨rfl, set_below2 (HMF.out.keep (below_drewN (Below.refl _ _) _)).b⟩
end Go.Proofs.Ythjmiimkplhffaa

/- The program's Merge, where it merges. (Written by gen_merge.py from merge2.head.) -/
set_option linter.unusedVariables false
set_option linter.unusedSimpArgs false
namespace Go.Proofs.Ythjmiimkplhffaa
open Go.RowKit Go.Maps

theorem keep_set3 {w : World} {T : Nat} {a : Addr} {u v y x : Value} (h : w.cell? a = some x) (hne : a.block ≠ T) : (((w.setCell ⟨T, 0, none⟩ u).setCell ⟨T, 1, none⟩ v).setCell ⟨T, 2, none⟩ y).cell? a = some x :=
  (((Only.setCell w ⟨T, 0, none⟩ u).trans (Only.setCell _ ⟨T, 1, none⟩ v)).trans (Only.setCell _ ⟨T, 2, none⟩ y)).cell h hne

/-- the sum lies in a cell of its own -/
structure SR (W w : World) (B L : Nat) (F n m : Int) (c k : Int → Int) (T M : Nat) : Prop where
  res : w.heap[W.heap.size + 1 + 1]? = some (.cells #[.int .i64 0, .int .i64 0, .pointer none] 28 (0, 0))
  row : w.heap[B]? = some (.cells #[.int .i64 (L : Int), .int .i64 F, .pointer (some ⟨T, 0, none⟩)] 28 (0, 0))
  tree : Tree w T M (n + m) (fun q => c q + k q)
  ne : T ≠ M
  lt : T < w.heap.size
  hB : W.heap.size + 1 + 1 < B ∧ B ≠ M
  hM : W.heap.size + 1 + 1 < M ∧ W.heap.size + 1 + 1 < T
  b : Below W.heap.size W w
theorem SR.keep {W w w' : World} {B L : Nat} {F n m : Int} {c k : Int → Int} {T M : Nat} (h : SR W w B L F n m c k T M) (hb : Below w.heap.size w w') : SR W w' B L F n m c k T M :=
  ⟨row_keep hb h.res, row_keep hb h.row, h.tree.keep hb, h.ne, Nat.lt_of_lt_of_le h.lt hb.size, h.hB, h.hM, h.b.trans (hb.mono h.b.size)⟩
/-- what is left after compress -/
structure CR (W w : World) (B L : Nat) (F n m : Int) (c k : Int → Int) (T : Nat) : Prop where
  s : w.heap[B]? = some (.cells #[.int .i64 (L : Int), .int .i64 F, .pointer (some ⟨T, 0, none⟩)] 28 (0, 0))
  res : w.heap[W.heap.size + 1 + 1]? = some (.cells #[.int .i64 0, .int .i64 0, .pointer none] 28 (0, 0))
  out : ∃ d, Comp ((n + m) / F) L (fun q => c q + k q) d ∧ DigM w T L F d ∧ tot L d = n + m
  b : Below W.heap.size W w
  ne : T ≠ W.heap.size + 1 + 1
theorem CR.of {W w w' : World} {B L : Nat} {F n m : Int} {c k : Int → Int} {T M : Nat} (h : SR W w B L F n m c k T M) (hc : Compressed w T M L (n + m) ((n + m) / F) (fun q => c q + k q) w')
    (hr : 1 ≤ L ∧ L ≤ 20 ∧ 1 ≤ F ∧ F ≤ 1000) (hto : tot L (fun q => c q + k q) = n + m) (hn : n + m ≤ 1099511627776) : CR W w' B L F n m c k T := by
  obtain ⟨d, h1, h2, h3, h4, h5⟩ := hc
  have hM := h.hM
  have hB := h.hB
  refine ⟨(h5.block _ (Array.getElem?_eq_some_iff.1 h.row).1 (by omega)).trans h.row, (h5.block _ (Array.getElem?_eq_some_iff.1 h.res).1 (by omega)).trans h.res, ⟨d, h1, ⟨M, ?_, h.ne, Nat.lt_of_lt_of_le h.lt h5.size, hr, h3, ?_, ?_⟩, ?_⟩, ?_, by omega⟩
  · rw [h4, hto]; exact h2
  · rw [h4, hto]; exact hn
  · rw [h4, hto]; exact h1.still
  · rw [h4, hto]
  · exact ((Only.of_below h.b).trans (h5.mono (fun i hi => by subst hi; show W.heap.size ≤ _; omega))).below (fun i hi => hi)
theorem CR.fin {W w : World} {B L : Nat} {F n m : Int} {c k : Int → Int} {T : Nat} {x y z : Value} (h : CR W w B L F n m c k T) :
    ∃ d, Comp ((n + m) / F) L (fun q => c q + k q) d ∧ DigM (((w.setCell ⟨W.heap.size + 1 + 1, 0, none⟩ x).setCell ⟨W.heap.size + 1 + 1, 1, none⟩ y).setCell ⟨W.heap.size + 1 + 1, 2, none⟩ z) T L F d ∧ tot L d = n + m ∧ Below W.heap.size W (((w.setCell ⟨W.heap.size + 1 + 1, 0, none⟩ x).setCell ⟨W.heap.size + 1 + 1, 1, none⟩ y).setCell ⟨W.heap.size + 1 + 1, 2, none⟩ z) := by
  obtain ⟨d, h1, ⟨M, h2, h3, h4, h5⟩, h6⟩ := h.out
  have ho : Only (fun i => i = W.heap.size + 1 + 1) w (((w.setCell ⟨W.heap.size + 1 + 1, 0, none⟩ x).setCell ⟨W.heap.size + 1 + 1, 1, none⟩ y).setCell ⟨W.heap.size + 1 + 1, 2, none⟩ z) := ((Only.setCell w ⟨W.heap.size + 1 + 1, 0, none⟩ x).trans (Only.setCell _ ⟨W.heap.size + 1 + 1, 1, none⟩ y)).trans (Only.setCell _ ⟨W.heap.size + 1 + 1, 2, none⟩ z)
  have hM : M ≠ W.heap.size + 1 + 1 := by
    intro e
    obtain ⟨D, ⟨es, clock, hb, _⟩, _⟩ := h2.m
    rw [e, h.res] at hb
    cases hb
  exact ⟨d, h1, ⟨M, ⟨ho.cell h2.c0 (by exact h.ne), ho.cell h2.c1 (by exact h.ne), ho.cm h2.m hM⟩, h3, Nat.lt_of_lt_of_le h4 ho.size, h5⟩, h6, set_below2 h.b⟩

/-- the sum is stored in a cell that is made after it -/
theorem SR.after {W V w : World} {L : Nat} {F n m : Int} {c k : Int → Int} {T M : Nat} {ta ma tb mb K : Nat} {G : Int} (h : MF W V ta ma L F n c tb mb K G m k) (hb : Below V.heap.size V w) (ht : Tree w T M (n + m) (fun q => c q + k q)) (hne : T ≠ M) (hT : V.heap.size ≤ T) (hM : V.heap.size ≤ M) (hl : T < w.heap.size) :
    SR W (w.alloc (.cells #[.int .i64 (L : Int), .int .i64 F, .pointer (some ⟨T, 0, none⟩)] 28)) w.heap.size L F n m c k T M := by
  have h1 := box_below w (.cells #[.int .i64 (L : Int), .int .i64 F, .pointer (some ⟨T, 0, none⟩)] 28)
  have h2 := (Array.getElem?_eq_some_iff.1 h.row).1
  have h3 := hb.size
  have h4 := ht.m.lt
  exact ⟨row_keep h1 (row_keep hb h.row), cells_new _ _ _, ht.keep h1, hne, Nat.lt_of_lt_of_le hl h1.size, ⟨by omega, by omega⟩, ⟨by omega, by omega⟩, (h.b.trans (hb.mono h.b.size)).trans (h1.mono (h.b.trans (hb.mono h.b.size)).size)⟩
/-- .. in one that was made before -/
theorem SR.before {W V w : World} {L : Nat} {F n m : Int} {c k : Int → Int} {T M : Nat} {ta ma tb mb K : Nat} {G : Int} (h : MF W V ta ma L F n c tb mb K G m k)
    (hb : Below (V.heap.size + 1) (V.alloc (.cells #[.int .i64 0, .int .i64 0, .pointer none] 28)) w) (ht : Tree w T M (n + m) (fun q => c q + k q)) (hne : T ≠ M) (hT : V.heap.size + 1 ≤ T) (hM : V.heap.size + 1 ≤ M) (hl : T < w.heap.size) :
    SR W (((w.setCell ⟨V.heap.size, 0, none⟩ (.int .i64 (L : Int))).setCell ⟨V.heap.size, 1, none⟩ (.int .i64 F)).setCell ⟨V.heap.size, 2, none⟩ (.pointer (some ⟨T, 0, none⟩))) V.heap.size L F n m c k T M := by
  have h0 : w.heap[V.heap.size]? = some (.cells #[.int .i64 0, .int .i64 0, .pointer none] 28 (0, 0)) := (hb.block _ (by omega)).trans (cells_new _ _ _)
  have ho : Only (fun i => i = V.heap.size) w (((w.setCell ⟨V.heap.size, 0, none⟩ (.int .i64 (L : Int))).setCell ⟨V.heap.size, 1, none⟩ (.int .i64 F)).setCell ⟨V.heap.size, 2, none⟩ (.pointer (some ⟨T, 0, none⟩))) := ((Only.setCell w ⟨V.heap.size, 0, none⟩ _).trans (Only.setCell _ ⟨V.heap.size, 1, none⟩ _)).trans (Only.setCell _ ⟨V.heap.size, 2, none⟩ _)
  have h2 := (Array.getElem?_eq_some_iff.1 h.row).1
  have hbV : Below V.heap.size V w := (box_below V _).trans (hb.mono (by omega))
  have h6 := h.b.trans (hbV.mono h.b.size)
  have h7 := h.b.size
  exact ⟨(ho.block _ (by have := hbV.size; omega) (by omega)).trans (row_keep hbV h.row), set_three h0, ⟨ho.cell ht.c0 (by show ¬ T = _; omega), ho.cell ht.c1 (by show ¬ T = _; omega), ho.cm ht.m (by omega)⟩, hne, Nat.lt_of_lt_of_le hl ho.size, ⟨by omega, by omega⟩, ⟨by omega, by omega⟩,
    ((Only.of_below h6).trans (ho.mono (fun i hi => by subst hi; show W.heap.size ≤ _; omega))).below (fun i hi => hi)⟩

set_option maxRecDepth 100000 in
set_option maxHeartbeats 8000000 in
theorem merge_ok (ta tb L : Nat) (F : Int) (c k : Int → Int) (W : World) (h : DigM W ta L F c) (h' : DigM W tb L F k) (hf : tot L c ≤ 1099511627776 - tot L k) :
    Calls Try.prog 23 #[.agg #[.int .i64 (L : Int), .int .i64 F, .pointer (some ⟨ta, 0, none⟩)], .agg #[.int .i64 (L : Int), .int .i64 F, .pointer (some ⟨tb, 0, none⟩)]] W (fun e w' => ∃ T d, e = .returned (.tuple #[.agg #[.int .i64 (L : Int), .int .i64 F, .pointer (some ⟨T, 0, none⟩)], .int .i64 0]) ∧ Comp ((tot L c + tot L k) / F) L (fun q => c q + k q) d ∧ DigM w' T L F d ∧ tot L d = tot L c + tot L k ∧ Below W.heap.size W w') := by
  obtain ⟨ma, ht, _, hta, ⟨hl1, hl2, hf1, hf2⟩, hgc, hc2, _⟩ := h
  obtain ⟨mb, hu, _, htb, _, hgk, hk2, _⟩ := h'
  have hk0 : 0 ≤ tot L k := S_nonneg _ (fun i _ => hgk.1 i)
  have hc0 : 0 ≤ tot L c := S_nonneg _ (fun i _ => hgc.1 i)
  have HGL := Lib.hid (good_le hgc)
  have HKL := Lib.hid (good_le hgk)
  have HTO := Lib.hid (tot_sum L c k)
  obtain ⟨n, hn⟩ : ∃ n : Int, n = tot L c := ⟨_, rfl⟩
  obtain ⟨m, hm⟩ : ∃ m : Int, m = tot L k := ⟨_, rfl⟩
  rw [← hn, ← hm] at hf ⊢
  rw [← hn] at ht hc2 hc0 HTO
  rw [← hm] at hu hk2 hk0 HTO
  have HGL : Hid (∀ q, c q ≤ n) := Lib.hid (fun q => by rw [hn]; exact HGL.out q)
  have HKL : Hid (∀ q, k q ≤ m) := Lib.hid (fun q => by rw [hm]; exact HKL.out q)
  obtain ⟨V, hV⟩ : ∃ V, V = ((W.alloc (.cells #[.int .i64 (L : Int), .int .i64 F, .pointer (some ⟨ta, 0, none⟩)] 28)).alloc (.cells #[.int .i64 (L : Int), .int .i64 F, .pointer (some ⟨tb, 0, none⟩)] 28)).alloc (.cells #[.int .i64 0, .int .i64 0, .pointer none] 28) := ⟨_, rfl⟩
  have HMF : Hid (MF W V ta ma L F n c tb mb L F m k) := Lib.hid (by rw [hV]; exact MF.start ht hu)
  have HLL : Hid (∀ l : Int, (l = (L : Int) ∨ l = (L : Int)) → 1 ≤ l) := Lib.hid (fun l h => by rcases h with h | h <;> omega)
  have hq : ∀ w, (binOp .neq 25 (.agg #[.int .i64 (L : Int), .int .i64 F]) (.agg #[.int .i64 (L : Int), .int .i64 F])).run Try.prog w = .ok (.bool false) w := fun w => by
    rw [run_neq_shape]
    simp
  have HW1 : Hid (IntKind.i64.wrap (1099511627776 - m) = 1099511627776 - m) := IntWalk.i64_in _ (by omega)
  have HV := Lib.hid hV
  have HGC := Lib.hid hgc
  have HGK := Lib.hid hgk
  have HLN : Hid (1 ≤ L) := Lib.hid hl1
  have HTB : Hid (ta < W.heap.size ∧ tb < W.heap.size) := Lib.hid ⟨hta, htb⟩
  clear ht hu hV hn hm hgc hgk hta htb
  have a0 := HMF.out.a0; have a1 := HMF.out.a1; have a2 := HMF.out.a2; have b0 := HMF.out.b0; have b1 := HMF.out.b1; have b2 := HMF.out.b2; have t0 := HMF.out.tb.c0; have t1 := HMF.out.tb.c1; have t2 := HMF.out.ta.c1; have hr9 := three_cells HMF.out.row; have r0 := hr9.1; have r1 := hr9.2.1; have r2 := hr9.2.2.1; have r3 := hr9.2.2.2.1; have r4 := hr9.2.2.2.2.1; have r5 := hr9.2.2.2.2.2; clear hr9
  go_enter Try.func23, Try.ntmps23
  go_upto_region 1 with fail
  rw [← HV.out]
  go_wp2_with (go_at_call 35; refine (usable_yes _ _ _ _ (HLL.out _ (by first | exact Or.inl rfl | exact Or.inr rfl))).mono ?_; rintro e w1 ⟨rfl, hb1⟩; clear a0 a1 a2 b0 b1 b2 t0 t1 t2 r0 r1 r2 r3 r4 r5; replace HMF := Lib.hid (HMF.out.keep hb1); have a0 := HMF.out.a0; have a1 := HMF.out.a1; have a2 := HMF.out.a2; have b0 := HMF.out.b0; have b1 := HMF.out.b1; have b2 := HMF.out.b2; have t0 := HMF.out.tb.c0; have t1 := HMF.out.tb.c1; have t2 := HMF.out.ta.c1; have hr9 := three_cells HMF.out.row; have r0 := hr9.1; have r1 := hr9.2.1; have r2 := hr9.2.2.1; have r3 := hr9.2.2.2.1; have r4 := hr9.2.2.2.2.1; have r5 := hr9.2.2.2.2.2; clear hr9; clear hb1)
  go_quiet (fail)
  go_wp2_with fail
  replace HMF := Lib.hid (HMF.out.keep (below_drewN (Below.refl _ _) nq))
  generalize w1.drewN nq = V1 at HMF ⊢
  clear a0 a1 a2 b0 b1 b2 t0 t1 t2 r0 r1 r2 r3 r4 r5
  clear hq
  have a0 := HMF.out.a0
  have a1 := HMF.out.a1
  have a2 := HMF.out.a2
  have b2 := HMF.out.b2
  have t0 := HMF.out.tb.c0
  have t1 := HMF.out.tb.c1
  have hlt := (Array.getElem?_eq_some_iff.1 HMF.out.row).1
  have hw := HMF.out.b.size
  have n0 : W.heap.size ≠ V1.heap.size := by omega
  have n1 : W.heap.size + 1 ≠ V1.heap.size := by omega
  have n2 : tb ≠ V1.heap.size := by have := HTB.out; omega
  have HPL : Hid (∀ w', Below V1.heap.size V1 w' → Calls Try.prog 43 #[.agg #[.int .i64 (L : Int), .int .i64 F, .pointer (some ⟨ta, 0, none⟩)], .map (some mb), .int .i64 m] w' (fun e w'' => ∃ T M : Nat, e = .returned (.agg #[.int .i64 (L : Int), .int .i64 F, .pointer (some ⟨T, 0, none⟩)]) ∧ Tree w'' T M (n + m) (fun q => c q + k q) ∧ T ≠ M ∧ w'.heap.size ≤ T ∧ w'.heap.size ≤ M ∧ T < w''.heap.size ∧ Below w'.heap.size w' w'')) := Lib.hid (fun w' hb =>
    plus_any (L : Int) F n m ta ma mb L c k w' (HMF.out.ta.keep hb) (HMF.out.tb.m.keep hb) HGC.out HGK.out hl2 (by omega) (by omega) (by omega) (by omega) (fun q => by have := HGL.out q; omega) (fun q => by have := HKL.out q; omega))
  go_cut [6] (fun v6 wx => ∃ B T M, v6 = .pointer (some ⟨B, 0, none⟩) ∧ SR W wx B L F n m c k T M)
  case first =>
    have hbz : Below V1.heap.size V1 (V1.alloc (.cells #[.int .i64 0, .int .i64 0, .pointer none] 28)).drew := (box_below V1 _).drew
    go_region_held3 (fun w' => w'.cell? ⟨W.heap.size, 0, none⟩ = some (.int .i64 (L : Int)) ∧ w'.cell? ⟨W.heap.size, 1, none⟩ = some (.int .i64 F) ∧ w'.cell? ⟨W.heap.size, 2, none⟩ = some (.pointer (some ⟨ta, 0, none⟩)) ∧ w'.cell? ⟨W.heap.size + 1, 2, none⟩ = some (.pointer (some ⟨tb, 0, none⟩)) ∧ w'.cell? ⟨tb, 0, none⟩ = some (.map (some mb)) ∧ w'.cell? ⟨tb, 1, none⟩ = some (.int .i64 m)) (first | with_reducible exact ⟨keep_set3 f0 n0, keep_set3 f1 n0, keep_set3 f2 n0, keep_set3 f3 n1, keep_set3 f4 n2, keep_set3 f5 n2⟩ | go_keep)
      (first | (go_at_call 43; refine (HPL.out V1.drew (Below.refl _ _).drew).mono ?_; rintro e w4 ⟨T, M, rfl, htr, hne, hT, hM, hTl, hb4⟩; have f0 := cell_later hb4 a0; have f1 := cell_later hb4 a1; have f2 := cell_later hb4 a2; have f3 := cell_later hb4 b2; have f4 := cell_later hb4 t0; have f5 := cell_later hb4 t1; have HSR := Lib.hid (SR.after HMF.out ((Below.refl V1.heap.size V1).drew.trans hb4) htr hne hT hM hTl); clear htr hne hT hM hTl hb4) | (go_at_call 43; refine (HPL.out (V1.alloc (.cells #[.int .i64 0, .int .i64 0, .pointer none] 28)).drew hbz).mono ?_; rintro e w4 ⟨T, M, rfl, htr, hne, hT, hM, hTl, hb4⟩; have f0 := cell_later hb4 (cell_later hbz a0); have f1 := cell_later hb4 (cell_later hbz a1); have f2 := cell_later hb4 (cell_later hbz a2); have f3 := cell_later hb4 (cell_later hbz b2); have f4 := cell_later hb4 (cell_later hbz t0); have f5 := cell_later hb4 (cell_later hbz t1); have hT9 := three_cells ((hb4.block V1.heap.size (by simp)).trans (heap_alloc_new V1 (.cells #[.int .i64 0, .int .i64 0, .pointer none] 28))); have k0 := hT9.1; have k1 := hT9.2.1; have k2 := hT9.2.2.1; have k3 := hT9.2.2.2.1; have k4 := hT9.2.2.2.2.1; have k5 := hT9.2.2.2.2.2; have HSR := Lib.hid (SR.before HMF.out ((Below.refl (V1.heap.size + 1) (V1.alloc (.cells #[.int .i64 0, .int .i64 0, .pointer none] 28))).drew.trans (by simpa using hb4)) htr hne (by simpa using hT) (by simpa using hM) hTl); clear htr hne hT hM hTl hb4 hT9))
    all_goals go_wp2_with fail
    all_goals go_meet
    case rel => exact ⟨_, _, _, rfl, HSR.out⟩
    exact ⟨_, _, _, rfl, HSR.out⟩
  case rest =>
    obtain ⟨B, T, M, rfl, hsr⟩ := hcut
    have HSR := Lib.hid hsr
    have hs9 := three_cells hsr.row
    have s0 := hs9.1
    have s1 := hs9.2.1
    have s2 := hs9.2.2.1
    clear hs9 hsr HPL a0 a1 a2 b2 t0 t1
    have HCMP : Hid (∀ w, SR W w B L F n m c k T M → ∀ ps ao ca, Il w ao (List.length ps) ps → (∀ a, ao = some a → a.block < w.heap.size) → List.length ps ≤ 4194304 → (∀ x, x ∈ ps ↔ ∃ q ∈ idsL L (fun q => c q + k q), 1 < q ∧ q / 2 = x) → Calls Try.prog 44 #[.agg #[.int .i64 (L : Int), .int .i64 F, .pointer (some ⟨T, 0, none⟩)], .slice ao (List.length ps) ca] w (fun e w' => e = .returned (.tuple #[]) ∧ CR W w' B L F n m c k T)) := Lib.hid (by
      intro w hs ps ao ca hil hao hla hmem
      have hgs := good_sum HGC.out HGK.out
      refine (compress_any T M L F (n + m) _ ao _ ca ps w hs.tree hs.ne hs.lt hil hla HLN.out hl2 hf1 hf2 (by omega) (by omega) hgs HTO.out (par_in hgs hmem) (can_par hgs hmem) (wt_le hl2 _) hao).mono ?_
      rintro e w' ⟨rfl, hc⟩
      exact ⟨rfl, CR.of hs hc ⟨HLN.out, hl2, hf1, hf2⟩ HTO.out (by omega)⟩)
    go_upto_region 8 with fail
    go_region_held3 (fun w' => w'.cell? ⟨B, 0, none⟩ = some (.int .i64 (L : Int)) ∧ w'.cell? ⟨B, 1, none⟩ = some (.int .i64 F) ∧ w'.cell? ⟨B, 2, none⟩ = some (.pointer (some ⟨T, 0, none⟩))) (go_keep)
      (first | (go_at_call 45; refine (parents_any T M L (n + m) _ _ (HSR.out.tree.keep (Below.refl wc.heap.size wc).drew) (good_sum HGC.out HGK.out) hl2).mono ?_; rintro e w8 ⟨ps, ao, cap, rfl, hpl, hil, hao, hmem, hb8⟩; have B8 := Lib.hid (below_then (below_drewN (Below.refl wc.heap.size wc) 1) hb8); have z3 := cell_later B8.out s0; have z4 := cell_later B8.out s1; have z5 := cell_later B8.out s2; have HIL := Lib.hid hil; have HAO := Lib.hid hao; have HPS := Lib.hid hpl; have HMEM := Lib.hid hmem; clear hb8 hil hao hpl hmem) | (go_at_call 44; refine (HCMP.out _ (HSR.out.keep B8.out) ps _ _ HIL.out HAO.out HPS.out HMEM.out).mono ?_; rintro e w9 ⟨rfl, hcr⟩; have HCR := Lib.hid hcr; clear hcr; have hs9 := three_cells HCR.out.s; have u0 := hs9.1; have u1 := hs9.2.1; have u2 := hs9.2.2.1; clear hs9))
    have hr9 := three_cells HCR.out.res
    have r0 := hr9.1
    have r1 := hr9.2.1
    have r2 := hr9.2.2.1
    have r3 := hr9.2.2.2.1
    have r4 := hr9.2.2.2.2.1
    have r5 := hr9.2.2.2.2.2
    clear hr9 s0 s1 s2
    go_wp2_with fail
    refine bodyPost_ret (v := .tuple #[.agg #[.int .i64 (L : Int), .int .i64 F, .pointer (some ⟨T, 0, none⟩)], .int .i64 0]) (results_cell_tmp Try.results23 _ _ (W.heap.size + 1 + 1) 28 #[.int .i64 (L : Int), .int .i64 F, .pointer (some ⟨T, 0, none⟩)] (0, 0) _ rfl (set_three HCR.out.res) Try.underlying28 (by kernel_rfl) (by kernel_rfl)) rfl ?_
    obtain ⟨d, q1, q2, q3, q4⟩ := HCR.out.fin
    exact ⟨T, d, rfl, q1, q2, q3, q4⟩
end Go.Proofs.Ythjmiimkplhffaa

/- A list of acts in memory; an argument that is one. -/
set_option linter.unusedVariables false
set_option linter.unusedSimpArgs false
namespace Go.Proofs.Ythjmiimkplhffaa
open Go.ChangeShapes Go.WideShapes Go.RowKit Go.Joins

/-- a slice of pairs -/
def Al (w : World) (ao : Option Addr) (len : Nat) (xs : List (Int × Int)) : Prop :=
  xs.length = len ∧ ∃ b off, (0 < len → ao = some ⟨b, off, none⟩) ∧ ∀ i, i < len → w.cell? ⟨b, off + i * 2, none⟩ = some (.int .i64 (xs[i]?.getD (0, 0)).1) ∧ w.cell? ⟨b, off + (i * 2 + 1), none⟩ = some (.int .i64 (xs[i]?.getD (0, 0)).2)
theorem Al.keep {w w' : World} {ao : Option Addr} {len : Nat} {xs : List (Int × Int)} (h : Al w ao len xs) (hb : Below w.heap.size w w') : Al w' ao len xs := by
  obtain ⟨h1, b, off, h2, h3⟩ := h
  exact ⟨h1, b, off, h2, fun i hi => ⟨cell_later hb (h3 i hi).1, cell_later hb (h3 i hi).2⟩⟩
theorem Al.at {w : World} {ao : Option Addr} {len : Nat} {xs : List (Int × Int)} (h : Al w ao len xs) {i : Nat} (hi : i < len) : ∃ b off, ao = some ⟨b, off, none⟩ ∧ w.cell? ⟨b, off + i * 2, none⟩ = some (.int .i64 (xs[i]?.getD (0, 0)).1) ∧ w.cell? ⟨b, off + (i * 2 + 1), none⟩ = some (.int .i64 (xs[i]?.getD (0, 0)).2) := by
  obtain ⟨h1, b, off, h2, h3⟩ := h
  exact ⟨b, off, h2 (by omega), h3 i hi⟩

set_option maxRecDepth 100000 in
theorem open_acts {H : Type} {enc : TypeId × Value → H} {W : World} {v : Value} {d : DataW H} {p : List MemPlace} {base : Nat}
    (hv : Value.okWide Try.prog W .any base 22 v) (h : DataW.Trod enc Try.prog W 0 (fun _ => true) true 22 v d p) :
    ∃ ao la ca xs, v = .slice ao la ca ∧ Al W ao la xs ∧ la ≤ 9223372036854775807 ∧ ∀ i, i < xs.length → InWord (xs[i]?.getD (0, 0)).1 ∧ InWord (xs[i]?.getD (0, 0)).2 := by
  obtain ⟨ao, la, ca, rfl⟩ := okWide_slice Try.underlying22 hv
  obtain ⟨fuel, hf⟩ := h
  rcases Go.Deep.open_slice_pairs Try.underlying22 Try.underlying43 (by kernel_rfl) (by kernel_rfl) (by kernel_rfl) (by kernel_rfl) (by kernel_rfl) hf with ⟨e1, _⟩ | ⟨a, len, cap, m, n, V0, V1, D0, D1, P0, P1, e1, _, hlc, hcm, hm, _, hx⟩
  · simp [Value.cells] at e1
    obtain ⟨rfl, rfl, rfl⟩ := e1
    exact ⟨none, 0, 0, [], rfl, ⟨rfl, 0, 0, fun h => by omega, fun i hi => by omega⟩, by omega, fun i hi => absurd hi (by simp)⟩
  · simp [Value.cells] at e1
    obtain ⟨rfl, rfl, rfl⟩ := e1
    have hm2 : la ≤ m := by rw [hm]; split <;> omega
    have key : ∀ i, i < la → ∃ x y : Int, V0 i = .int .i64 x ∧ V1 i = .int .i64 y ∧ InWord x ∧ InWord y := fun i hi => by
      obtain ⟨_, _, h1, h2⟩ := hx i (by omega)
      obtain ⟨x, e0, _, w0⟩ := DataW.trod_int Try.underlying3 h1
      obtain ⟨y, e1, _, w1⟩ := DataW.trod_int Try.underlying3 h2
      exact ⟨x, y, by simpa using e0, by simpa using e1, bounds_i64 w0, bounds_i64 w1⟩
    obtain ⟨f, hf2⟩ : ∃ f : Nat → Int × Int, ∀ i, i < la → V0 i = .int .i64 (f i).1 ∧ V1 i = .int .i64 (f i).2 ∧ InWord (f i).1 ∧ InWord (f i).2 := by
      refine ⟨fun i => if h : i < la then (Classical.choose (key i h), Classical.choose (Classical.choose_spec (key i h))) else (0, 0), fun i hi => ?_⟩
      simp only [dif_pos hi]
      exact Classical.choose_spec (Classical.choose_spec (key i hi))
    refine ⟨some a, la, ca, (List.range la).map f, rfl, ⟨by simp, ?_⟩, by unfold maxLen at hcm; omega, fun i hi => ?_⟩
    · by_cases h0 : 0 < la
      · obtain ⟨b, off, spot⟩ := a
        have hspot : spot = none := by simpa [Addr.add] using World.cell?_spot (hx 0 (by omega)).1
        subst hspot
        refine ⟨b, off, fun _ => rfl, fun i hi => ?_⟩
        have h1 := hx i (by omega)
        have h2 := hf2 i hi
        rw [← Go.WideShapes.add_plain, ← Go.WideShapes.add_plain, h1.1, h1.2.1, h2.1, h2.2.1]
        simp [hi]
      · exact ⟨0, 0, fun h => by omega, fun i hi => by omega⟩
    · have hi2 : i < la := by simpa using hi
      have h2 := hf2 i hi2
      simpa [hi2] using h2.2.2
end Go.Proofs.Ythjmiimkplhffaa

/- Add in one contract; what built does, as a relation. -/
set_option linter.unusedVariables false
set_option linter.unusedSimpArgs false
namespace Go.Proofs.Ythjmiimkplhffaa
open Go.RowKit Go.Maps

/-- may it be added? -/
def Fits (L : Nat) (c : Int → Int) (v m : Int) : Prop := AddOk L v m ∧ m ≤ 1099511627776 - tot L c

theorem add_gen (tb L : Nat) (F : Int) (c : Int → Int) (v m : Int) (W : World) (h : DigM W tb L F c) :
    Calls Try.prog 25 #[.agg #[.int .i64 (L : Int), .int .i64 F, .pointer (some ⟨tb, 0, none⟩)], .int .i64 v, .int .i64 m] W (fun e w' => ∃ (a b : Int) (p : Option Addr) (er : Int), e = .returned (.tuple #[.agg #[.int .i64 a, .int .i64 b, .pointer p], .int .i64 er]) ∧ Below W.heap.size W w' ∧
      ((er ≠ 0 ∧ ¬ Fits L c v m ∧ a = 0 ∧ b = 0 ∧ p = none ∧ (er = 2 ∧ ¬ AddOk L v m ∨ er = 5 ∧ AddOk L v m)) ∨
       (er = 0 ∧ Fits L c v m ∧ ∃ T d, a = (L : Int) ∧ b = F ∧ p = some ⟨T, 0, none⟩ ∧ W.heap.size ≤ T ∧ Comp ((tot L c + m) / F) L (fun q => c q + leafF (2 ^ L + v) m q) d ∧ DigM w' T L F d ∧ tot L d = tot L c + m))) := by
  by_cases h1 : AddOk L v m
  · by_cases h2 : m ≤ 1099511627776 - tot L c
    · refine (add_ok tb L F c v m W h h1 h2).mono ?_
      rintro e w' ⟨T, d, he, k1, k2, k3, k4, k5⟩
      exact ⟨L, F, some ⟨T, 0, none⟩, 0, he, k4, .inr ⟨rfl, ⟨h1, h2⟩, T, d, rfl, rfl, rfl, k5, k1, k2, k3⟩⟩
    · refine (add_full tb L F c v m W h h1 (by omega)).mono ?_
      rintro e w' ⟨he, k⟩
      exact ⟨0, 0, none, 5, he, k, .inl ⟨by omega, fun k => h2 k.2, rfl, rfl, rfl, .inr ⟨rfl, h1⟩⟩⟩
  · refine (add_bad tb L F c v m W h h1).mono ?_
    rintro e w' ⟨he, k⟩
    exact ⟨0, 0, none, 2, he, k, .inl ⟨by omega, fun k => h1 k.1, rfl, rfl, rfl, .inl ⟨rfl, h1⟩⟩⟩

/-- a digest that is built of some acts; the acts that were performed -/
inductive Made (L : Nat) (F : Int) : List (Int × Int) → (Int → Int) → List (Int × Int) → Prop
  | nil : Made L F [] (fun _ => 0) []
  | add (l done : List (Int × Int)) (c d : Int → Int) (x : Int × Int) : Made L F l c done → Fits L c x.1 x.2 → Comp ((tot L c + x.2) / F) L (fun q => c q + leafF (2 ^ L + x.1) x.2 q) d → tot L d = tot L c + x.2 → Good L d → Made L F (l ++ [x]) d (done ++ [x])
  | skip (l done : List (Int × Int)) (c : Int → Int) (x : Int × Int) : Made L F l c done → ¬ Fits L c x.1 x.2 → Made L F (l ++ [x]) c done

theorem Made.len {L : Nat} {F : Int} {l done : List (Int × Int)} {c : Int → Int} (h : Made L F l c done) : done.length ≤ l.length := by
  induction h with
  | nil => simp
  | add l done c d x _ _ _ _ _ ih => simp; omega
  | skip l done c x _ _ ih => simp; omega
end Go.Proofs.Ythjmiimkplhffaa

/- Plain mathematics: inner counts are at most the limit; the number of values is the sum of the times. -/
set_option linter.unusedVariables false
namespace Go.Proofs.Ythjmiimkplhffaa

/-- inner counts are at most t -/
def Cap (t : Int) (L : Nat) (c : Int → Int) : Prop := ∀ q, q < 2 ^ L → c q ≤ t
theorem cap_lvl {t : Int} {L d : Nat} {c : Int → Int} (ht : 0 ≤ t) (h : Cap t L c) : Cap t L (lvl t d c) := by
  intro q hq
  unfold lvl lvlS
  split
  · rename_i g; exact g.2.2
  · split
    · exact ht
    · exact h q hq
theorem cap_pass {t : Int} {L : Nat} (ht : 0 ≤ t) : ∀ (d : Nat) (c : Int → Int), Cap t L c → Cap t L (passF t d c)
  | 0, c, h => h
  | d + 1, c, h => cap_pass ht d _ (cap_lvl ht h)
theorem cap_comp {t : Int} {L : Nat} {c d : Int → Int} (ht : 0 ≤ t) (h : Comp t L c d) : Cap t L c → Cap t L d := by
  induction h with
  | done c hn => exact fun g => g
  | more c c' hm _ ih => exact fun g => ih (cap_pass ht L c g)

theorem Made.cap {L : Nat} {F : Int} {l done : List (Int × Int)} {c : Int → Int} (hF : 1 ≤ F) (h : Made L F l c done) : Cap (tot L c / F) L c ∧ 0 ≤ tot L c := by
  induction h with
  | nil => exact ⟨fun q _ => by rw [tot_zero]; simp, by rw [tot_zero]; omega⟩
  | add l done c d x _ hf hc ht hg ih =>
    have h1 : 0 ≤ tot L c + x.2 := by have := ih.2; have := hf.1.2.2; omega
    rw [ht]
    refine ⟨cap_comp (Int.ediv_nonneg h1 (by omega)) hc (fun q hq => ?_), h1⟩
    have h2 : leafF (2 ^ L + x.1) x.2 q = 0 := by unfold leafF; rw [if_neg (by have := hf.1.1; omega)]
    have h3 := ih.1 q hq
    have h4 : tot L c / F ≤ (tot L c + x.2) / F := Int.ediv_le_ediv (by omega) (by have := hf.1.2.2; omega)
    show c q + leafF (2 ^ L + x.1) x.2 q ≤ _
    omega
  | skip l done c x _ _ ih => exact ih

/-- the times of some acts -/
def times (l : List (Int × Int)) : Int := (l.map fun x => x.2).sum
theorem Made.times {L : Nat} {F : Int} {l done : List (Int × Int)} {c : Int → Int} (h : Made L F l c done) : Go.Proofs.Ythjmiimkplhffaa.times done = tot L c := by
  induction h with
  | nil => rw [tot_zero]; rfl
  | add l done c d x _ hf hc ht hg ih => rw [ht, ← ih]; unfold Go.Proofs.Ythjmiimkplhffaa.times; simp
  | skip l done c x _ _ ih => exact ih
theorem Made.vals {L : Nat} {F : Int} {l done : List (Int × Int)} {c : Int → Int} (h : Made L F l c done) : ∀ x ∈ done, AddOk L x.1 x.2 := by
  induction h with
  | nil => simp
  | add l done c d x _ hf hc ht hg ih =>
    intro y hy
    rcases List.mem_append.1 hy with g | g
    · exact ih y g
    · obtain rfl : y = x := by simpa using g
      exact hf.1
  | skip l done c x _ _ ih => exact ih
end Go.Proofs.Ythjmiimkplhffaa

/- Plain mathematics: a compressed digest has at most 4 F nodes. -/
set_option linter.unusedVariables false
namespace Go.Proofs.Ythjmiimkplhffaa

theorem S_pairs (f : Nat → Int) : ∀ n : Nat, S f (2 * n) = S (fun p => f (2 * p) + f (2 * p + 1)) n
  | 0 => rfl
  | n + 1 => by
    rw [show 2 * (n + 1) = 2 * n + 1 + 1 by omega]
    unfold S
    rw [← S_pairs f n]
    show S f (2 * n) + f (2 * n) + f (2 * n + 1) = _
    omega
theorem S_mul (f : Nat → Int) (k : Int) : ∀ n : Nat, S (fun i => f i * k) n = S f n * k
  | 0 => by unfold S; simp
  | n + 1 => by unfold S; rw [S_mul f k n, Int.add_mul]
theorem S_first (n : Nat) (h : 0 < n) (a : Int) : S (fun i => if i = 0 then a else 0) n = a := by
  have e : (fun i : Nat => if i = 0 then a else 0) = upd (fun _ => 0) 0 a := by funext i; unfold upd; rfl
  rw [e, S_upd _ _ _ _ h, S_zero]
  omega
/-- is there a count? -/
def ind (c : Int → Int) (q : Int) : Int := if c q = 0 then 0 else 1
theorem ids_count (L : Nat) (c : Int → Int) : ((idsL L c).length : Int) = S (fun i : Nat => ind c i) (SZ L) := by
  unfold idsL
  generalize SZ L = n
  induction n with
  | zero => rfl
  | succ n ih =>
    unfold S
    rw [← ih, List.range_succ, List.map_append, List.filter_append, List.length_append]
    unfold ind
    by_cases h : c n = 0 <;> simp [h]

/-- is p the parent of a node? -/
def par1 (c : Int → Int) (p : Nat) : Int := if p = 0 then 0 else if c (2 * p) + c (2 * p + 1) = 0 then 0 else 1

theorem few {L : Nat} {F : Int} {c : Int → Int} (hF : 1 ≤ F) (hg : Good L c) (hs : Still (tot L c / F) L c) : ((idsL L c).length : Int) ≤ 4 * F := by
  have hn : 0 ≤ tot L c := S_nonneg _ (fun i _ => hg.1 i)
  obtain ⟨t, ht⟩ : ∃ t, t = tot L c / F := ⟨_, rfl⟩
  rw [← ht] at hs
  have ht0 : 0 ≤ t := by rw [ht]; exact Int.ediv_nonneg hn (by omega)
  have hlt : tot L c < (t + 1) * F := by rw [ht]; exact Int.lt_ediv_add_one_mul_self _ (by omega)
  have h2 : 0 < 2 ^ L := Nat.pow_pos (by omega)
  have c0 : c 0 = 0 := Classical.byContradiction fun h => by have := hg.2 0 h; omega
  have key : ∀ p : Nat, p < 2 ^ L → par1 c p * (t + 1) ≤ c p + (c (2 * p) + c (2 * p + 1)) := fun p hp => by
    have g0 := hg.1 p; have g1 := hg.1 (2 * p); have g2 := hg.1 (2 * p + 1)
    unfold par1
    split
    · omega
    · split
      · omega
      · rename_i k1 k2
        obtain ⟨d, hd, hA⟩ := at_ex L (p : Int) (by omega) (by exact_mod_cast hp)
        have h3 := hs d hd p hA
        have h4 : ¬ (c p + c (2 * p) + c (2 * p + 1) ≤ t) := fun g => h3 ⟨k2, g⟩
        omega
  have h5 : S (par1 c) (2 ^ L) * (t + 1) ≤ 2 * tot L c := by
    rw [← S_mul]
    refine Int.le_trans (S_le (2 ^ L) key) ?_
    rw [S_add (fun p : Nat => c p) (fun p : Nat => c (2 * p) + c (2 * p + 1))]
    have e : tot L c = S (fun p : Nat => c (2 * p) + c (2 * p + 1)) (2 ^ L) := by
      unfold tot
      rw [SZ_two, S_pairs]
      exact S_congr _ (fun i _ => by simp)
    have h6 : S (fun p : Nat => c p) (2 ^ L) ≤ tot L c := by
      unfold tot
      have key2 : ∀ m k : Nat, S (fun i : Nat => c i) m ≤ S (fun i : Nat => c i) (m + k) := fun m k => by
        induction k with
        | zero => exact Int.le_refl _
        | succ k ih => have := hg.1 ((m + k : Nat) : Int); show _ ≤ S (fun i : Nat => c i) (m + k) + c ((m + k : Nat) : Int); omega
      rw [SZ_two, show 2 * 2 ^ L = 2 ^ L + 2 ^ L by omega]
      exact key2 _ _
    omega
  have h7 : S (par1 c) (2 ^ L) < 2 * F := by
    refine Int.lt_of_mul_lt_mul_right (a := t + 1) (Int.lt_of_le_of_lt h5 ?_) (by omega)
    rw [Int.mul_assoc, Int.mul_comm F (t + 1)]
    omega
  have h8 : ((idsL L c).length : Int) ≤ 1 + S (par1 c) (2 ^ L) * 2 := by
    rw [ids_count, SZ_two, S_pairs, ← S_mul]
    have h9 : S (fun p : Nat => ind c ((2 * p : Nat) : Int) + ind c ((2 * p + 1 : Nat) : Int)) (2 ^ L) ≤ S (fun p => (if p = 0 then 1 else 0) + par1 c p * 2) (2 ^ L) := S_le _ (fun p hp => by
      have g1 := hg.1 (2 * p); have g2 := hg.1 (2 * p + 1)
      unfold ind par1
      by_cases k : p = 0
      · subst k
        simp [c0]
        split <;> omega
      · rw [if_neg k, if_neg k]
        have e1 : ((2 * p : Nat) : Int) = 2 * (p : Int) := by omega
        have e2 : ((2 * p + 1 : Nat) : Int) = 2 * (p : Int) + 1 := by omega
        rw [e1, e2]
        split <;> split <;> split <;> omega)
    rw [S_add (fun p : Nat => if p = 0 then (1 : Int) else 0) (fun p => par1 c p * 2), S_first _ h2] at h9
    exact h9
  omega
end Go.Proofs.Ythjmiimkplhffaa

/- The law's built. -/
set_option linter.unusedVariables false
set_option linter.unusedSimpArgs false
namespace Go.Proofs.Ythjmiimkplhffaa
open Go.RowKit Go.Maps

theorem infoA : (Try.prog.info? 43).map (fun i => (i.zero, i.size, i.bytes)) = some (some (.agg #[.int .i64 0, .int .i64 0]), 2, 16) := by kernel_rfl

/-- 'append(s, xs...)' to an own row -/
theorem wpList_appL {P : Program} {w : World} {ops : Array Oper} {rest : List Oper} {o : Oper} {a : Act} {Q : Exit → Act → World → Prop}
    (hg : o.guard = none) (s x : Operand) (t : TypeId) (hop : o.op = Op.call { callee := Callee.builtin Builtin.append, args := #[s, x], argTypes := #[t, t] })
    (base : Nat) (e : TypeId) (i : TypeInfo) (z : Value) (size bytes : Nat) (h1 : P.underlying t = some (.slice e)) (h2 : P.info? e = some i) (h3 : i.zero = some z) (h4 : i.size = size) (h5 : i.bytes = bytes) (h6 : z.cells.size = size) (h7 : 0 < size)
    (v : Value) (k : Nat) (xs : List Value) (hs : a.eval s = v) (hown : w.ownsRow base e size v k xs) (ad : Addr) (m c : Nat) (news : List Value) (hx : a.eval x = .slice (some ad) m c) (hn : news.length = m * size)
    (hc : ∀ j u, news[j]? = some u → w.cell? (ad.add j) = some u) (h1c : ∀ u ∈ news, u.oneCell' = true) (hm : 0 < m) (b1 : k + m ≤ maxLen) (b2 : (k + m) * bytes ≤ 140737488355328) (b3 : base ≤ w.heap.size)
    (hK : ∀ g cap w', w'.ownsRow base e size (.slice (some ⟨g, 0, none⟩) (k + m) cap) (k + m) (xs ++ news) → w.grownBy w' v.ownBlock → (v.ownBlock = some g ∨ g = w.heap.size) → wpList P ops Q rest (a.put o.dst (.slice (some ⟨g, 0, none⟩) (k + m) cap)) w') :
    wpList P ops Q (o :: rest) a w := by
  obtain ⟨g, cap, w', hrun, r1, r2, r3, _⟩ := run_append_lies (P := P) w t o.type base e i z size bytes h1 h2 h3 h4 h5 h6 h7 v k xs hown ad m c news hn hc h1c hm b1 b2 b3 w.heap.size rfl
  refine wpList_plain hg fun K' hK' => ?_
  unfold Oper.wp
  simp [execOp, hop, resolve, invoke, builtin, hs, hx, hrun, Result.andThen]
  exact hK' _ _ (hK g cap w' r1 r2 r3)

/-- a digest lies as it lay where others' cells alone are written -/
theorem DigM.only {w w' : World} {tb L : Nat} {F : Int} {c : Int → Int} {P : Nat → Prop} (h : DigM w tb L F c) (ho : Only P w w') (h1 : ¬ P tb) (h2 : ∀ i, P i → i < w.heap.size → ∃ cs t f, w.heap[i]? = some (.cells cs t f)) : DigM w' tb L F c := by
  obtain ⟨mb, k1, k2, k3, k4⟩ := h
  have hm : ¬ P mb := fun g => by
    obtain ⟨cs, t, f, h3⟩ := h2 mb g k1.m.lt
    obtain ⟨D, ⟨es, clock, hb, _⟩, _⟩ := k1.m
    rw [h3] at hb
    cases hb
  exact ⟨mb, ⟨ho.cell k1.c0 h1, ho.cell k1.c1 h1, ho.cm k1.m hm⟩, k2, Nat.lt_of_lt_of_le k3 ho.size, k4⟩
theorem own_cells {w : World} {base n sz : Nat} {e : TypeId} {v : Value} {xs : List Value} (h : w.ownsRow base e sz v n xs) {b : Nat} (hb : v.ownBlock = some b) : base ≤ b ∧ ∃ cs, w.heap[b]? = some (.cells cs e (0, 0)) := by
  rcases h.2 with ⟨rfl, hz⟩ | ⟨gb, cap, cur, rfl, hbase, hgb, _⟩
  · simp [Value.ownBlock] at hb
  · obtain rfl : gb = b := by simpa [Value.ownBlock] using hb
    exact ⟨hbase, cur, hgb⟩

theorem two_newA (W : World) (x y : Int) : ∀ (j : Nat) (u : Value), ([.int .i64 x, .int .i64 y] : List Value)[j]? = some u → (W.alloc (.cells #[.int .i64 x, .int .i64 y] 43)).cell? ((⟨W.heap.size, 0, none⟩ : Addr).add j) = some u := by
  intro j u hj
  match j, hj with
  | 0, hj => simp at hj; subst hj; simp [Addr.add]
  | 1, hj => simp at hj; subst hj; simp [Addr.add]

/-- in the middle of built -/
structure BI (W wr : World) (S9 L : Nat) (F : Int) (xs : List (Int × Int)) (i tb : Nat) (c : Int → Int) (done : List (Int × Int)) (v : Value) : Prop where
  d9 : wr.heap[S9]? = some (.cells #[.int .i64 (L : Int), .int .i64 F, .pointer (some ⟨tb, 0, none⟩)] 28 (0, 0))
  res : wr.heap[W.heap.size]? = some (.cells #[.int .i64 0, .int .i64 0, .pointer none] 28 (0, 0))
  dig : DigM wr tb L F c
  made : Made L F (xs.take i) c done
  row : wr.ownsRow (W.heap.size + 1) 43 2 v done.length (ncells done)
  own : v.ownBlock ≠ some tb
  b : Below W.heap.size W wr
  s9 : W.heap.size < S9 ∧ tb ≠ S9 ∧ tb ≠ W.heap.size
theorem BI.keep {W w w' : World} {S9 L i tb : Nat} {F : Int} {c : Int → Int} {xs done : List (Int × Int)} {v : Value} (h : BI W w S9 L F xs i tb c done v) (hb : Below w.heap.size w w') : BI W w' S9 L F xs i tb c done v :=
  ⟨row_keep hb h.d9, row_keep hb h.res, h.dig.keep hb, h.made, h.row.kept (row := none) ⟨hb.os, hb.tape, hb.output, hb.size, fun k hk _ => hb.block k hk⟩ (Classical.em _), h.own, h.b.trans (hb.mono h.b.size), h.s9⟩

/-- behind the call of Add -/
def Came (W wx : World) (S9 L : Nat) (F : Int) (xs : List (Int × Int)) (i tb : Nat) (c : Int → Int) (done : List (Int × Int)) (v : Value) (x : Int × Int) (v13 v14 : Value) : Prop :=
  ∃ (B : Nat) (a b : Int) (p : Option Addr) (er : Int), v13 = .pointer (some ⟨B, 0, none⟩) ∧ v14 = .int .i64 er ∧ BI W wx S9 L F xs i tb c done v ∧ wx.heap[B]? = some (.cells #[.int .i64 a, .int .i64 b, .pointer p] 28 (0, 0)) ∧
    ((er ≠ 0 ∧ ¬ Fits L c x.1 x.2) ∨
     (er = 0 ∧ Fits L c x.1 x.2 ∧ ∃ T d, a = (L : Int) ∧ b = F ∧ p = some ⟨T, 0, none⟩ ∧ v.ownBlock ≠ some T ∧ T ≠ S9 ∧ T ≠ W.heap.size ∧ Comp ((tot L c + x.2) / F) L (fun q => c q + leafF (2 ^ L + x.1) x.2 q) d ∧ DigM wx T L F d ∧ tot L d = tot L c + x.2))

/-- what Add gives -/
def Got (L : Nat) (F : Int) (c : Int → Int) (x : Int × Int) (low : Nat) (w' : World) (a b : Int) (p : Option Addr) (er : Int) : Prop :=
  (er ≠ 0 ∧ ¬ Fits L c x.1 x.2) ∨
  (er = 0 ∧ Fits L c x.1 x.2 ∧ ∃ T d, a = (L : Int) ∧ b = F ∧ p = some ⟨T, 0, none⟩ ∧ low ≤ T ∧ Comp ((tot L c + x.2) / F) L (fun q => c q + leafF (2 ^ L + x.1) x.2 q) d ∧ DigM w' T L F d ∧ tot L d = tot L c + x.2)
theorem add_got (tb L : Nat) (F : Int) (c : Int → Int) (x : Int × Int) (W : World) (h : DigM W tb L F c) :
    Calls Try.prog 25 #[.agg #[.int .i64 (L : Int), .int .i64 F, .pointer (some ⟨tb, 0, none⟩)], .int .i64 x.1, .int .i64 x.2] W (fun e w' => ∃ (a b : Int) (p : Option Addr) (er : Int), e = .returned (.tuple #[.agg #[.int .i64 a, .int .i64 b, .pointer p], .int .i64 er]) ∧ Below W.heap.size W w' ∧ Got L F c x W.heap.size w' a b p er) := by
  refine (add_gen tb L F c x.1 x.2 W h).mono ?_
  rintro e w' ⟨a, b, p, er, he, hb, k | k⟩
  · exact ⟨a, b, p, er, he, hb, .inl ⟨k.1, k.2.1⟩⟩
  · exact ⟨a, b, p, er, he, hb, .inr k⟩
theorem own_ne {W w : World} {S9 L i tb T : Nat} {F : Int} {c : Int → Int} {xs done : List (Int × Int)} {v : Value} (h : BI W w S9 L F xs i tb c done v) (hT : w.heap.size ≤ T) : v.ownBlock ≠ some T ∧ T ≠ S9 ∧ T ≠ W.heap.size := by
  have h1 := (Array.getElem?_eq_some_iff.1 h.d9).1
  have h2 := (Array.getElem?_eq_some_iff.1 h.res).1
  exact ⟨fun e => by have := (h.row.lt T e).2; omega, by omega, by omega⟩
theorem Came.after {W w w4 : World} {S9 L i tb : Nat} {F a b er : Int} {p : Option Addr} {c : Int → Int} {xs done : List (Int × Int)} {v : Value} {x : Int × Int} (h : BI W w S9 L F xs i tb c done v) (hb : Below w.heap.size w w4) (hg : Got L F c x w.heap.size w4 a b p er) :
    Came W (w4.alloc (.cells #[.int .i64 a, .int .i64 b, .pointer p] 28)) S9 L F xs i tb c done v x (.pointer (some ⟨w4.heap.size, 0, none⟩)) (.int .i64 er) := by
  have K := box_below w4 (.cells #[.int .i64 a, .int .i64 b, .pointer p] 28)
  refine ⟨_, a, b, p, er, rfl, rfl, (h.keep hb).keep K, cells_new _ _ _, ?_⟩
  rcases hg with g | ⟨g1, g2, T, d, g3, g4, g5, g6, g7, g8, g9⟩
  · exact .inl g
  · have k := own_ne h g6
    exact .inr ⟨g1, g2, T, d, g3, g4, g5, k.1, k.2.1, k.2.2, g7, g8.keep K, g9⟩
theorem Came.before {W w w4 : World} {S9 L i tb : Nat} {F a b er : Int} {p : Option Addr} {c : Int → Int} {xs done : List (Int × Int)} {v : Value} {x : Int × Int} (h : BI W w S9 L F xs i tb c done v) (hb : Below (w.heap.size + 1) (w.alloc (.cells #[.int .i64 0, .int .i64 0, .pointer none] 28)) w4) (hg : Got L F c x (w.heap.size + 1) w4 a b p er) :
    Came W (((w4.setCell ⟨w.heap.size, 0, none⟩ (.int .i64 a)).setCell ⟨w.heap.size, 1, none⟩ (.int .i64 b)).setCell ⟨w.heap.size, 2, none⟩ (.pointer p)) S9 L F xs i tb c done v x (.pointer (some ⟨w.heap.size, 0, none⟩)) (.int .i64 er) := by
  have h0 : w4.heap[w.heap.size]? = some (.cells #[.int .i64 0, .int .i64 0, .pointer none] 28 (0, 0)) := (hb.block _ (by omega)).trans (cells_new _ _ _)
  have ho : Only (fun i => i = w.heap.size) w4 (((w4.setCell ⟨w.heap.size, 0, none⟩ (.int .i64 a)).setCell ⟨w.heap.size, 1, none⟩ (.int .i64 b)).setCell ⟨w.heap.size, 2, none⟩ (.pointer p)) := ((Only.setCell w4 ⟨w.heap.size, 0, none⟩ _).trans (Only.setCell _ ⟨w.heap.size, 1, none⟩ _)).trans (Only.setCell _ ⟨w.heap.size, 2, none⟩ _)
  have hbw : Below w.heap.size w w4 := (box_below w _).trans (hb.mono (by omega))
  have hbz : Below w.heap.size w (((w4.setCell ⟨w.heap.size, 0, none⟩ (.int .i64 a)).setCell ⟨w.heap.size, 1, none⟩ (.int .i64 b)).setCell ⟨w.heap.size, 2, none⟩ (.pointer p)) := ((Only.of_below hbw).trans (ho.mono (fun i hi => by subst hi; exact Nat.le_refl _))).below (fun i (hi : w.heap.size ≤ i) => hi)
  refine ⟨_, a, b, p, er, rfl, rfl, h.keep hbz, set_three h0, ?_⟩
  rcases hg with g | ⟨g1, g2, T, d, g3, g4, g5, g6, g7, g8, g9⟩
  · exact .inl g
  · have k := own_ne h (T := T) (by omega)
    exact .inr ⟨g1, g2, T, d, g3, g4, g5, k.1, k.2.1, k.2.2, g7, g8.only ho (by show ¬ T = _; omega) (fun i hi _ => by subst hi; exact ⟨_, _, _, h0⟩), g9⟩

theorem take_next {xs : List (Int × Int)} {i : Nat} {x : Int × Int} (hi : i < xs.length) (hx : x = xs[i]?.getD (0, 0)) : xs.take (i + 1) = xs.take i ++ [x] := by
  rw [hx, List.getElem?_eq_getElem hi]
  exact (List.take_append_getElem hi).symm
theorem BI.skip {W w : World} {S9 L i tb : Nat} {F : Int} {c : Int → Int} {xs done : List (Int × Int)} {v : Value} {x : Int × Int} (h : BI W w S9 L F xs i tb c done v) (hx : xs.take (i + 1) = xs.take i ++ [x]) (hf : ¬ Fits L c x.1 x.2) : BI W w S9 L F xs (i + 1) tb c done v :=
  ⟨h.d9, h.res, h.dig, by rw [hx]; exact Made.skip _ _ _ _ h.made hf, h.row, h.own, h.b, h.s9⟩
theorem BI.own9 {W w : World} {S9 L i tb : Nat} {F : Int} {c : Int → Int} {xs done : List (Int × Int)} {v : Value} (h : BI W w S9 L F xs i tb c done v) : v.ownBlock ≠ some S9 := fun e => by
  obtain ⟨_, cs, h3⟩ := own_cells h.row e
  rw [h.d9] at h3
  injection h3 with h3
  injection h3 with _ h4
  exact absurd h4 (by decide)
theorem BI.row9 {W w : World} {S9 L i tb : Nat} {F : Int} {c : Int → Int} {xs done : List (Int × Int)} {v : Value} (h : BI W w S9 L F xs i tb c done v) (x y z : Value) : (((w.setCell ⟨S9, 0, none⟩ x).setCell ⟨S9, 1, none⟩ y).setCell ⟨S9, 2, none⟩ z).ownsRow (W.heap.size + 1) 43 2 v done.length (ncells done) := by
  have o1 : Only (fun i => i = S9) w (((w.setCell ⟨S9, 0, none⟩ x).setCell ⟨S9, 1, none⟩ y).setCell ⟨S9, 2, none⟩ z) := ((Only.setCell w ⟨S9, 0, none⟩ _).trans (Only.setCell _ ⟨S9, 1, none⟩ _)).trans (Only.setCell _ ⟨S9, 2, none⟩ _)
  exact h.row.kept (row := some S9) ⟨o1.os, o1.tape, o1.output, o1.size, fun k hk hne => o1.block k hk (fun e => hne (by rw [e]))⟩ (.inr h.own9)
theorem BI.step {W w w7 : World} {S9 L i tb T g cap : Nat} {F : Int} {c d : Int → Int} {xs done : List (Int × Int)} {v : Value} {x : Int × Int} (h : BI W w S9 L F xs i tb c done v) (hx : xs.take (i + 1) = xs.take i ++ [x]) (hf : Fits L c x.1 x.2)
    (hT1 : v.ownBlock ≠ some T) (hT2 : T ≠ S9) (hT3 : T ≠ W.heap.size) (hcomp : Comp ((tot L c + x.2) / F) L (fun q => c q + leafF (2 ^ L + x.1) x.2 q) d) (hdm : DigM w T L F d) (htt : tot L d = tot L c + x.2)
    (hrow : w7.ownsRow (W.heap.size + 1) 43 2 (.slice (some ⟨g, 0, none⟩) (done.length + 1) cap) (done.length + 1) (ncells done ++ [.int .i64 x.1, .int .i64 x.2]))
    (hg : ((((w.setCell ⟨S9, 0, none⟩ (.int .i64 (L : Int))).setCell ⟨S9, 1, none⟩ (.int .i64 F)).setCell ⟨S9, 2, none⟩ (.pointer (some ⟨T, 0, none⟩))).alloc (.cells #[.int .i64 x.1, .int .i64 x.2] 43)).grownBy w7 v.ownBlock)
    (hat : v.ownBlock = some g ∨ g = ((((w.setCell ⟨S9, 0, none⟩ (.int .i64 (L : Int))).setCell ⟨S9, 1, none⟩ (.int .i64 F)).setCell ⟨S9, 2, none⟩ (.pointer (some ⟨T, 0, none⟩))).alloc (.cells #[.int .i64 x.1, .int .i64 x.2] 43)).heap.size) :
    BI W w7 S9 L F xs (i + 1) T d (done ++ [x]) (.slice (some ⟨g, 0, none⟩) (done.length + 1) cap) := by
  have o1 : Only (fun i => i = S9) w (((w.setCell ⟨S9, 0, none⟩ (.int .i64 (L : Int))).setCell ⟨S9, 1, none⟩ (.int .i64 F)).setCell ⟨S9, 2, none⟩ (.pointer (some ⟨T, 0, none⟩))) := ((Only.setCell w ⟨S9, 0, none⟩ _).trans (Only.setCell _ ⟨S9, 1, none⟩ _)).trans (Only.setCell _ ⟨S9, 2, none⟩ _)
  have hr := set_three (x := .int .i64 (L : Int)) (y := .int .i64 F) (z := .pointer (some ⟨T, 0, none⟩)) h.d9
  generalize (((w.setCell ⟨S9, 0, none⟩ (.int .i64 (L : Int))).setCell ⟨S9, 1, none⟩ (.int .i64 F)).setCell ⟨S9, 2, none⟩ (.pointer (some ⟨T, 0, none⟩))) = w5 at o1 hr hg hat
  have K := box_below w5 (.cells #[.int .i64 x.1, .int .i64 x.2] 43)
  have o2 := Only.of_grown hg
  have l1 := (Array.getElem?_eq_some_iff.1 h.d9).1
  have l2 := (Array.getElem?_eq_some_iff.1 h.res).1
  have z1 := o1.size
  have z2 := K.size
  have z3 := h.b.size
  have hs9 := h.s9
  have k9 := h.own9
  have kW : v.ownBlock ≠ some W.heap.size := fun e => by have := (own_cells h.row e).1; omega
  have hob : ∀ b, v.ownBlock = some b → b < (w5.alloc (.cells #[.int .i64 x.1, .int .i64 x.2] 43)).heap.size → ∃ cs t f, (w5.alloc (.cells #[.int .i64 x.1, .int .i64 x.2] 43)).heap[b]? = some (.cells cs t f) := fun b e _ => by
    obtain ⟨_, cs, h3⟩ := own_cells h.row e
    have hb9 : b ≠ S9 := fun g => k9 (by rw [e, g])
    exact ⟨cs, _, _, row_keep K ((o1.block b (Array.getElem?_eq_some_iff.1 h3).1 hb9).trans h3)⟩
  have hd5 : DigM w5 T L F d := hdm.only o1 hT2 (fun i hi _ => by subst hi; exact ⟨_, _, _, h.d9⟩)
  have hd7 : DigM w7 T L F d := (hd5.keep K).only o2 hT1 hob
  have hgood : Good L d := by obtain ⟨_, _, _, _, _, k, _⟩ := hdm; exact k
  refine ⟨(o2.block S9 (by omega) k9).trans (row_keep K hr), (o2.block _ (by omega) kW).trans (row_keep K ((o1.block _ l2 (by omega)).trans h.res)), hd7, by rw [hx]; exact Made.add _ _ _ _ _ h.made hf hcomp htt hgood, ?_, ?_, ?_, ⟨hs9.1, hT2, hT3⟩⟩
  · rw [List.length_append, ncells_snoc]
    exact hrow
  · intro e
    obtain rfl : g = T := by simpa [Value.ownBlock] using e
    rcases hat with e2 | e2
    · exact hT1 e2
    · obtain ⟨_, _, _, k, _⟩ := hd5
      simp at e2
      omega
  · have b5 : Below W.heap.size W w5 := ((Only.of_below h.b).trans (o1.mono (fun i hi => by subst hi; show W.heap.size ≤ _; omega))).below (fun i hi => hi)
    have b6 := b5.trans (K.mono b5.size)
    exact b6.grown hg b6.size (fun k e => by have := (own_cells h.row e).1; omega)

theorem results_cell_tmp2 {P : Program} {fn : Func} {p q r : Tmp} {ty : TypeId} (h : fn.results = #[.cell p ty, .tmp q, .tmp r]) (tmps : Array Value) (w : World) (g : Nat) (t : TypeId) (cs : Array Value) (fr : Nat × Nat) (d : TypeDesc)
    (hp : tmps.getD p undef = .pointer (some ⟨g, 0, none⟩)) (hg : w.heap[g]? = some (.cells cs t fr))
    (hu : P.underlying ty = some d) (hd : (match d with | .struct _ | .array _ _ => true | _ => false) = true) (hi : (P.info? ty).map (·.size) = some cs.size) :
    (results fn tmps).run P w = .ok (.tuple #[.agg cs, tmps.getD q undef, tmps.getD r undef]) w := by
  have hp' : tmps[p]?.getD undef = .pointer (some ⟨g, 0, none⟩) := by simpa using hp
  simp [results, h, hp', asAddr, run_loadVar_row w g t ty cs fr d hg hu hd hi, Result.andThen]

set_option maxRecDepth 100000 in
set_option maxHeartbeats 8000000 in
theorem built_any (L : Nat) (F : Int) (ao : Option Addr) (la ca : Nat) (xs : List (Int × Int)) (W : World) (hR : Right L F) (hs : Al W ao la xs) (hla : la ≤ 1000) :
    Calls Try.prog 26 #[.int .i64 (L : Int), .int .i64 F, .slice ao la ca] W (fun e w' => ∃ tb c done v, e = .returned (.tuple #[.agg #[.int .i64 (L : Int), .int .i64 F, .pointer (some ⟨tb, 0, none⟩)], v, .bool true]) ∧ DigM w' tb L F c ∧ Made L F xs c done ∧ w'.ownsRow (W.heap.size + 1) 43 2 v done.length (ncells done) ∧ Below W.heap.size W w') := by
  obtain ⟨V0, hV0⟩ : ∃ V, V = W.alloc (.cells #[.int .i64 0, .int .i64 0, .pointer none] 28) := ⟨_, rfl⟩
  have HB : Hid (Below W.heap.size W V0) := Lib.hid (by rw [hV0]; exact box_below W _)
  have HRES : Hid (V0.heap[W.heap.size]? = some (.cells #[.int .i64 0, .int .i64 0, .pointer none] 28 (0, 0))) := Lib.hid (by rw [hV0]; exact cells_new W _ _)
  have HS := Lib.hid hs
  have HV0 := Lib.hid hV0
  clear hV0 hs
  go_enter Try.func26, Try.ntmps26
  go_upto_region 1 with fail
  rw [← HV0.out]
  go_wp2_with fail
  refine (newYes L F V0 hR).mono ?_
  rintro e w1 ⟨tb, rfl, hd, hb1⟩
  have HB1 := Lib.hid (HB.out.trans (hb1.mono HB.out.size))
  have K := box_below w1 (.cells #[.int .i64 (L : Int), .int .i64 F, .pointer (some ⟨tb, 0, none⟩)] 28)
  have HI0 : Hid (BI W (w1.alloc (.cells #[.int .i64 (L : Int), .int .i64 F, .pointer (some ⟨tb, 0, none⟩)] 28)) w1.heap.size L F xs 0 tb (fun _ => 0) [] (.slice none 0 0)) := Lib.hid (by
    have h1 := (Array.getElem?_eq_some_iff.1 HRES.out).1
    have h2 := hb1.size
    obtain ⟨mb, k1, k2, k3, k4⟩ := hd
    refine ⟨cells_new _ _ _, row_keep K (row_keep hb1 HRES.out), ⟨mb, k1.keep K, k2, Nat.lt_of_lt_of_le k3 K.size, k4⟩, Made.nil, ⟨rfl, .inl ⟨rfl, rfl⟩⟩, by simp [Value.ownBlock], HB1.out.trans (K.mono HB1.out.size), ⟨by omega, by omega, ?_⟩⟩
    intro e
    have h3 := k1.c0
    rw [e, (three_cells (row_keep hb1 HRES.out)).1] at h3
    cases h3)
  clear hd hb1 K HB HV0 HRES
  go_upto_region 2 with fail
  generalize w1.heap.size = S9 at HI0 ⊢
  generalize w1.alloc _ = w2 at HI0 ⊢
  clear HB1
  go_wp2_with fail
  go_loopg [11, 12] (la + 1) (fun g t11 t12 wr => ∃ (v : Value) (i tb : Nat) (c : Int → Int) (done : List (Int × Int)), v = t11 ∧ t12 = .int .i64 (i : Int) ∧ i ≤ la ∧ i + g = la + 1 ∧ Hid (BI W wr S9 L F xs i tb c done v))
  case atStart => exact ⟨_, 0, tb, _, [], rfl, rfl, by omega, by omega, HI0⟩
  case round =>
    clear HI0
    obtain ⟨v, i, tb, c, done, rfl, rfl, hi, hg, HI⟩ := hrel
    by_cases hlt : i < la
    · have hlt2 : (i : Int) < (la : Int) := by omega
      obtain ⟨bb, off, hao, p0, p1⟩ := HS.out.at hlt
      obtain ⟨x, hx⟩ : ∃ x, x = xs[i]?.getD (0, 0) := ⟨_, rfl⟩
      rw [← hx] at p0 p1
      subst hao
      have q0 := cell_later HI.out.b p0
      have q1 := cell_later HI.out.b p1
      have P0 := Lib.hid p0
      have P1 := Lib.hid p1
      clear p0 p1
      have hd := three_cells HI.out.d9
      have d0 := hd.1
      have d1 := hd.2.1
      have d2 := hd.2.2.1
      clear hd
      have HADD : Hid (∀ w', Below wr.heap.size wr w' → Calls Try.prog 25 #[.agg #[.int .i64 (L : Int), .int .i64 F, .pointer (some ⟨tb, 0, none⟩)], .int .i64 x.1, .int .i64 x.2] w' (fun e w'' => ∃ (a b : Int) (p : Option Addr) (er : Int), e = .returned (.tuple #[.agg #[.int .i64 a, .int .i64 b, .pointer p], .int .i64 er]) ∧ Below w'.heap.size w' w'' ∧ Got L F c x w'.heap.size w'' a b p er)) := Lib.hid (fun w' hb => add_got tb L F c x w' (HI.out.dig.keep hb))
      have n0 : S9 ≠ wr.heap.size := by have := (Array.getElem?_eq_some_iff.1 HI.out.d9).1; omega
      have n1 : bb ≠ wr.heap.size := by have : bb < wr.heap.size := block_lt_of_cell q0; omega
      have HX := Lib.hid hx
      clear hx
      go_upto_region 6 with fail
      have q1 : wr.cell? ⟨bb, off + i * 2 + 1, none⟩ = some (.int .i64 x.2) := q1
      go_cut [13, 14] (fun v13 v14 wx => Came W wx S9 L F xs i tb c done v x v13 v14)
      case first =>
        have hbz : Below wr.heap.size wr (wr.alloc (.cells #[.int .i64 0, .int .i64 0, .pointer none] 28)).drew := (box_below wr _).drew
        go_region_held3 (fun w' => w'.cell? ⟨S9, 0, none⟩ = some (.int .i64 (L : Int)) ∧ w'.cell? ⟨S9, 1, none⟩ = some (.int .i64 F) ∧ w'.cell? ⟨S9, 2, none⟩ = some (.pointer (some ⟨tb, 0, none⟩)) ∧ w'.cell? ⟨bb, off + i * 2, none⟩ = some (.int .i64 x.1) ∧ w'.cell? ⟨bb, off + i * 2 + 1, none⟩ = some (.int .i64 x.2)) (first | with_reducible exact ⟨keep_set3 f0 n0, keep_set3 f1 n0, keep_set3 f2 n0, keep_set3 f3 n1, keep_set3 f4 n1⟩ | go_keep)
          (first | (go_at_call 25; refine (HADD.out wr.drew (Below.refl _ _).drew).mono ?_; rintro e w4 ⟨a, b, p, er, rfl, hb4, hgot⟩; have f0 := cell_later hb4 d0; have f1 := cell_later hb4 d1; have f2 := cell_later hb4 d2; have f3 := cell_later hb4 q0; have f4 := cell_later hb4 q1; have HC := Lib.hid (Came.after HI.out ((Below.refl wr.heap.size wr).drew.trans hb4) hgot); clear hb4 hgot) | (go_at_call 25; refine (HADD.out (wr.alloc (.cells #[.int .i64 0, .int .i64 0, .pointer none] 28)).drew hbz).mono ?_; rintro e w4 ⟨a, b, p, er, rfl, hb4, hgot⟩; have f0 := cell_later hb4 (cell_later hbz d0); have f1 := cell_later hb4 (cell_later hbz d1); have f2 := cell_later hb4 (cell_later hbz d2); have f3 := cell_later hb4 (cell_later hbz q0); have f4 := cell_later hb4 (cell_later hbz q1); have hT9 := three_cells ((hb4.block wr.heap.size (by simp)).trans (heap_alloc_new wr (.cells #[.int .i64 0, .int .i64 0, .pointer none] 28))); have k0 := hT9.1; have k1 := hT9.2.1; have k2 := hT9.2.2.1; have k3 := hT9.2.2.2.1; have k4 := hT9.2.2.2.2.1; have k5 := hT9.2.2.2.2.2; have HC := Lib.hid (Came.before HI.out ((Below.refl (wr.heap.size + 1) (wr.alloc (.cells #[.int .i64 0, .int .i64 0, .pointer none] 28))).drew.trans (by simpa using hb4)) (by simpa using hgot)); clear hb4 hgot hT9))
        all_goals go_wp2_with fail
        all_goals go_meet
        all_goals exact HC.out
      case rest =>
        obtain ⟨B, a, b, p, er, rfl, rfl, hbi, hb13, hgot⟩ := hcut
        have HI2 := Lib.hid hbi
        have HB13 := Lib.hid hb13
        have hnx : Hid (xs.take (i + 1) = xs.take i ++ [x]) := Lib.hid (take_next (by rw [HS.out.1]; exact hlt) HX.out)
        clear hbi hb13 d0 d1 d2 q0 q1 n0 n1 HADD
        rcases hgot with ⟨her, hnf⟩ | ⟨rfl, hf, T, d, rfl, hbF, rfl, hT1, hT2, hT3, hcomp, hdm, htt⟩
        · have HN := Lib.hid (HI2.out.skip hnx.out hnf)
          clear hnf
          go_wp2_with fail
          go_roundg (gk - 1)
          case measure => omega
          case rel => exact ⟨v, i + 1, tb, c, done, rfl, rfl, by omega, by omega, HN⟩
        · subst b
          have HST := Lib.hid (fun w7 g cap => BI.step (w7 := w7) (g := g) (cap := cap) HI2.out hnx.out hf hT1 hT2 hT3 hcomp hdm htt)
          have hs9 := three_cells HI2.out.d9
          have k0 := hs9.1
          have k1 := hs9.2.1
          have k2 := hs9.2.2.1
          have k3 := hs9.2.2.2.1
          have k4 := hs9.2.2.2.2.1
          have k5 := hs9.2.2.2.2.2
          have hb9 := three_cells HB13.out
          have m0 := hb9.1
          have m1 := hb9.2.1
          have m2 := hb9.2.2.1
          have hbW : bb < W.heap.size := block_lt_of_cell P0.out
          have n3 : bb ≠ S9 := by have := HI2.out.s9; omega
          have q2 := keep_set3 (u := .int .i64 (L : Int)) (v := .int .i64 F) (y := .pointer (some ⟨T, 0, none⟩)) (cell_later HI2.out.b P0.out) n3
          have q3 : _ = some (Value.int .i64 x.2) := keep_set3 (a := ⟨bb, off + i * 2 + 1, none⟩) (u := .int .i64 (L : Int)) (v := .int .i64 F) (y := .pointer (some ⟨T, 0, none⟩)) (cell_later HI2.out.b P1.out) n3
          have hdl : done.length ≤ 1000 := by
            have := HI2.out.made.len
            rw [List.length_take] at this
            omega
          have HROW : Hid ((((wc.setCell ⟨S9, 0, none⟩ (.int .i64 (L : Int))).setCell ⟨S9, 1, none⟩ (.int .i64 F)).setCell ⟨S9, 2, none⟩ (.pointer (some ⟨T, 0, none⟩))).ownsRow (W.heap.size + 1) 43 2 v done.length (ncells done)) := Lib.hid (HI2.out.row9 _ _ _)
          have hsz5 : W.heap.size + 1 ≤ (((wc.setCell ⟨S9, 0, none⟩ (.int .i64 (L : Int))).setCell ⟨S9, 1, none⟩ (.int .i64 F)).setCell ⟨S9, 2, none⟩ (.pointer (some ⟨T, 0, none⟩))).heap.size := by
            have := (Array.getElem?_eq_some_iff.1 HI2.out.res).1
            simp [World.setCell]
            omega
          clear hf hT1 hT2 hT3 hcomp hdm htt hs9 hb9
          go_upto_region 9 with fail
          generalize (((wc.setCell ⟨S9, 0, none⟩ (.int .i64 (L : Int))).setCell ⟨S9, 1, none⟩ (.int .i64 F)).setCell ⟨S9, 2, none⟩ (.pointer (some ⟨T, 0, none⟩))) = w5 at HST HROW q2 q3 hsz5 ⊢
          clear k0 k1 k2 k3 k4 k5 m0 m1 m2
          obtain ⟨i0, hi0, hz0, hz1, hz2⟩ := info_parts infoA
          go_wp2_with (refine wpList_appL rfl (.tmp 49) (.tmp 54) 22 rfl (W.heap.size + 1) 43 i0 (.agg #[.int .i64 0, .int .i64 0]) 2 16 Try.underlying22 hi0 hz0 hz1 hz2 rfl (by decide) v done.length (ncells done) rfl (HROW.out.alloc _) ⟨w5.heap.size, 0, none⟩ 1 1 [.int .i64 x.1, .int .i64 x.2] rfl rfl (two_newA w5 x.1 x.2) (by simp [Value.oneCell']) (by omega) (by unfold maxLen; omega) (by omega) (by simp; omega) ?_; intro g' cap' w7 hown' hgrow hat; have HN := Lib.hid (HST.out w7 g' cap' hown' hgrow hat); clear hown' hgrow hat)
          go_roundg (gk - 1)
          case measure => omega
          case rel => exact ⟨_, i + 1, T, d, done ++ [x], rfl, rfl, by omega, by omega, HN⟩
    · obtain rfl : i = la := by omega
      have hd := three_cells HI.out.d9
      have d0 := hd.1
      have d1 := hd.2.1
      have d2 := hd.2.2.1
      have hr9 := three_cells HI.out.res
      have r0 := hr9.1
      have r1 := hr9.2.1
      have r2 := hr9.2.2.1
      have r3 := hr9.2.2.2.1
      have r4 := hr9.2.2.2.2.1
      have r5 := hr9.2.2.2.2.2
      clear hd hr9
      go_wp2_with fail
      refine bodyPost_ret (v := .tuple #[.agg #[.int .i64 (L : Int), .int .i64 F, .pointer (some ⟨tb, 0, none⟩)], v, .bool true]) (results_cell_tmp2 Try.results26 _ _ W.heap.size 28 #[.int .i64 (L : Int), .int .i64 F, .pointer (some ⟨tb, 0, none⟩)] (0, 0) _ rfl (set_three HI.out.res) Try.underlying28 (by kernel_rfl) (by kernel_rfl)) rfl ?_
      have h := HI.out
      have ho : Only (fun i => i = W.heap.size) wr (((wr.setCell ⟨W.heap.size, 0, none⟩ (.int .i64 (L : Int))).setCell ⟨W.heap.size, 1, none⟩ (.int .i64 F)).setCell ⟨W.heap.size, 2, none⟩ (.pointer (some ⟨tb, 0, none⟩))) := ((Only.setCell wr ⟨W.heap.size, 0, none⟩ _).trans (Only.setCell _ ⟨W.heap.size, 1, none⟩ _)).trans (Only.setCell _ ⟨W.heap.size, 2, none⟩ _)
      have kW : v.ownBlock ≠ some W.heap.size := fun e => by have := (own_cells h.row e).1; omega
      have hm := h.made
      rw [List.take_of_length_le (by rw [HS.out.1]; exact Nat.le_refl _)] at hm
      exact ⟨tb, c, done, v, rfl, h.dig.only ho h.s9.2.2 (fun i hi _ => by subst hi; exact ⟨_, _, _, h.res⟩), hm, h.row.kept (row := some W.heap.size) ⟨ho.os, ho.tape, ho.output, ho.size, fun k hk hne => ho.block k hk (fun e => hne (by rw [e]))⟩ (.inr kW),
        ((Only.of_below h.b).trans (ho.mono (fun i hi => by subst hi; exact Nat.le_refl _))).below (fun i (hi : W.heap.size ≤ i) => hi)⟩
end Go.Proofs.Ythjmiimkplhffaa
