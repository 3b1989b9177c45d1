/- Part 3 of the contracts: SHas, SMer1, SJoin, SConcat, ShelfS, SSort, SSorted, SMerge, SCov, SGet. -/
import Derived.Shelf.Small.Bits
import Derived.Shelf.Small.Strs
import Derived.Shelf.Small.Wraps
import Derived.Shelf.Strconv.Itoa0
import Derived.Shelf.LaysM
import Derived.Shelf.Strconv.Clone
import Derived.Shelf.SlSortCmp.WholeK
import Derived.Ground.SlsfProg
import Derived.Test.YtpghehckojdgeaaProg
import Derived.Sort.AssemblyPlain
import Derived.Test.YtpghehckojdgeaaPart2

/- The program's has; the closures of Merge. (By gen_has.py.) -/
set_option linter.unusedVariables false
set_option linter.unusedSimpArgs false
namespace Go.Proofs.Ytpghehckojdgeaa
open Go.RowKit Go.Shelf Go.Sort

theorem bsearch_no (g n cap : Nat) (xs : List Ent) (hnx : xs.length = n) (x : Ent) (W : World) (hr : RowE W g xs) (hs : Sorted xs) (hn : n ≤ 900000) (h : ∀ e ∈ xs, cfE e x ≠ 0) :
    Calls Try.prog 85 #[.slice (some ⟨g, 0, none⟩) n cap, .agg #[.string x.key, .string x.val, .int .i64 (x.site : Int), .int .i64 (x.count : Int)], .func (.func 56) #[] #[]] W fun e w' => ∃ k : Nat, e = .returned (.tuple #[.int .i64 (k : Int), .bool false]) ∧ Below W.heap.size W w' :=
  (bsearch_any g n cap xs hnx x W hr hs hn).mono fun e w' ⟨k, r, he, hb, hh⟩ => by
    rcases hh with ⟨_, hk, h0⟩ | ⟨hr, _⟩
    · exact absurd h0 (h _ (by rw [getElem!_pos xs k hk]; exact List.getElem_mem hk))
    · rw [hr] at he; exact ⟨k, he, hb⟩
theorem bsearch_yes (g n cap : Nat) (xs : List Ent) (hnx : xs.length = n) (x : Ent) (W : World) (hr : RowE W g xs) (hs : Sorted xs) (hn : n ≤ 900000) (y : Ent) (hy : y ∈ xs) (h : cfE y x = 0) :
    Calls Try.prog 85 #[.slice (some ⟨g, 0, none⟩) n cap, .agg #[.string x.key, .string x.val, .int .i64 (x.site : Int), .int .i64 (x.count : Int)], .func (.func 56) #[] #[]] W fun e w' => ∃ k : Nat, e = .returned (.tuple #[.int .i64 (k : Int), .bool true]) ∧ k < n ∧ xs[k]! = y ∧ Below W.heap.size W w' :=
  (bsearch_any g n cap xs hnx x W hr hs hn).mono fun e w' ⟨k, r, he, hb, hh⟩ => by
    rcases hh with ⟨hr, hk, h0⟩ | ⟨_, hall⟩
    · rw [hr] at he
      refine ⟨k, he, by omega, ?_, hb⟩
      refine hs.same (by rw [getElem!_pos xs k hk]; exact List.getElem_mem hk) hy ?_
      obtain ⟨a, b, c⟩ := cfE_zero.1 h0
      obtain ⟨a', b', c'⟩ := cfE_zero.1 h
      exact cfE_zero.2 ⟨a.trans a'.symm, b.trans b'.symm, c.trans c'.symm⟩
    · exact absurd h (hall y hy)
theorem bsearch_zero (ao : Option Addr) (cap : Nat) (x fv : Value) (W : World) (a b : ByteArray) (i c : Int) (hx : x = .agg #[.string a, .string b, .int .i64 i, .int .i64 c]) :
    Calls Try.prog 85 #[.slice ao 0 cap, x, fv] W fun e w' => e = .returned (.tuple #[.int .i64 0, .bool false]) ∧ Below W.heap.size W w' := by
  subst hx
  have HB := Lib.hid (box_below W (.cells #[.string a, .string b, .int .i64 i, .int .i64 c] 82))
  go_enter Try.func85, Try.ntmps85
  go_wp2
  refine wp_loop_rounds 1 ?_
  rw [rounds_succ]
  go_wp2
  go_quiet (fail)
  go_wp2
  go_ret2
  exact ⟨rfl, below_drewN HB.out _⟩
theorem hasE_no {xs : List Ent} {x : Ent} (h : ∀ e ∈ xs, cfE e x ≠ 0) : hasE xs x = false := by
  unfold hasE
  simp only [decide_eq_false_iff_not]
  exact fun hx => h x hx (cfE_zero.2 ⟨rfl, rfl, rfl⟩)
theorem hasE_yes {xs : List Ent} (hs : Sorted xs) {x y : Ent} (hy : y ∈ xs) (h : cfE y x = 0) : hasE xs x = sameE y x := by
  unfold hasE sameE
  rw [Bool.eq_iff_iff]
  simp only [decide_eq_true_eq]
  exact ⟨fun hx => hs.same hy hx h, fun e => e ▸ hy⟩

set_option maxRecDepth 100000 in
set_option maxHeartbeats 4000000 in
theorem has_any (s : Nat → Nat) (ao : Option Addr) (n cap : Nat) (xs : List Ent) (x : Ent) (W : World) (h : El W ao n xs) (hs : Sorted xs) (hn : n ≤ 900000) :
    Calls Try.prog 61 #[tabV s (.slice ao n cap), .agg #[.string x.key, .string x.val, .int .i64 (x.site : Int), .int .i64 (x.count : Int)]] W fun e w' => e = .returned (.bool (hasE xs x)) ∧ Below W.heap.size W w' := by
  obtain ⟨V, hV⟩ : ∃ V, V = (W.alloc (.cells #[.int .i64 (s 0 : Int), .int .i64 (s 1 : Int), .int .i64 (s 2 : Int), .int .i64 (s 3 : Int), .int .i64 (s 4 : Int), .int .i64 (s 5 : Int), .int .i64 (s 6 : Int), .int .i64 (s 7 : Int), .slice ao n cap] 34)).alloc (.cells #[.string x.key, .string x.val, .int .i64 (x.site : Int), .int .i64 (x.count : Int)] 82) := ⟨_, rfl⟩
  have HB : Hid (Below W.heap.size W V) := Lib.hid (by rw [hV]; exact below2 W _ _)
  obtain ⟨r0, r1, r2, r3, r4, r5, r6, r7, r8⟩ := cell_nine (w := V) (T := W.heap.size) (ty := 34) (by rw [hV]; exact block1 W _ _)
  obtain ⟨x0, x1, x2, x3⟩ := four_cells (w := V) (T := W.heap.size + 1) (ty := 82) (by rw [hV]; exact block2 W _ _)
  have hel := h.keep HB.out
  have HV := Lib.hid hV
  clear hV h r0 r1 r2 r3 r4 r5 r6 r7
  unfold tabV
  obtain ⟨hl, hel⟩ := hel
  by_cases h0 : n = 0
  · have hx : xs = [] := List.eq_nil_of_length_eq_zero (by rw [hl, h0])
    subst h0 hx
    have e : hasE [] x = false := hasE_no (fun e he => by cases he)
    rw [e]
    clear e hel
    go_enter Try.func61, Try.ntmps61
    go_upto_region 1 with fail
    rw [← HV.out]
    go_wp2_with (go_at_call 85; refine (bsearch_zero _ _ _ _ _ x.key x.val (x.site : Int) (x.count : Int) rfl).mono ?_; rintro e w1 ⟨rfl, hb1⟩; have HB1 := Lib.hid hb1; clear hb1)
    go_quiet (fail)
    go_wp2
    go_ret
    exact ⟨rfl, below_drewN (HB.out.trans (HB1.out.mono HB.out.size)) _⟩
  · rcases hel with ⟨_, hel⟩ | ⟨g, rfl, hr⟩
    · omega
    · by_cases hex : ∃ y ∈ xs, cfE y x = 0
      · obtain ⟨y, hy, hyx⟩ := hex
        have HC := Lib.hid (bsearch_yes g n cap xs hl x V hr hs hn y hy hyx)
        have HR := Lib.hid hr
        have HL := Lib.hid hl
        have hq := fun w => run_eql_ent y x w
        have hg := fun op a b w => guard_ent op a b #[.string y.key, .string y.val, .int .i64 (y.site : Int), .int .i64 (y.count : Int)] #[.string x.key, .string x.val, .int .i64 (x.site : Int), .int .i64 (x.count : Int)] w
        rw [hasE_yes hs hy hyx]
        generalize sameE y x = b at hq ⊢
        clear hy hyx hr hl hs
        go_enter Try.func61, Try.ntmps61
        go_upto_region 1 with fail
        rw [← HV.out]
        go_wp2_with (go_at_call 85; refine HC.out.mono ?_; rintro e w1 ⟨k, rfl, hk, hky, hb1⟩; have HB1 := Lib.hid hb1; have HKY := Lib.hid hky; clear hb1 hky)
        have q0 := cell_later HB1.out x0
        have q1 := cell_later HB1.out x1
        have q2 := cell_later HB1.out x2
        have q3 := cell_later HB1.out x3
        have q8 := cell_later HB1.out r8
        obtain ⟨c0, c1, c2, c3⟩ := (HR.out.keep HB1.out).2 k (Nat.lt_of_lt_of_eq hk HL.out.symm)
        rw [HKY.out] at c0 c1 c2 c3
        have hk1 : (k : Int) < (n : Int) := by omega
        have hk0 : (0 : Int) ≤ (k : Int) := by omega
        go_quiet (fail)
        go_wp2
        go_ret
        exact ⟨rfl, below_drewN (HB.out.trans (HB1.out.mono HB.out.size)) _⟩
      · have hno : ∀ e ∈ xs, cfE e x ≠ 0 := fun e he h0 => hex ⟨e, he, h0⟩
        have HC := Lib.hid (bsearch_no g n cap xs hl x V hr hs hn hno)
        rw [hasE_no hno]
        clear hex hno hr hl hs
        go_enter Try.func61, Try.ntmps61
        go_upto_region 1 with fail
        rw [← HV.out]
        go_wp2_with (go_at_call 85; refine HC.out.mono ?_; rintro e w1 ⟨k, rfl, hb1⟩; have HB1 := Lib.hid hb1; clear hb1)
        go_quiet (fail)
        go_wp2
        go_ret
        exact ⟨rfl, below_drewN (HB.out.trans (HB1.out.mono HB.out.size)) _⟩
end Go.Proofs.Ytpghehckojdgeaa

/- The closures of the program's Merge; join. (By gen_mer1.py.) -/
set_option linter.unusedVariables false
set_option linter.unusedSimpArgs false
namespace Go.Proofs.Ytpghehckojdgeaa
open Go.RowKit Go.Shelf Go.Sort

/-- block B holds a table -/
def TabAt (w : World) (B : Nat) (s : Nat → Nat) (sl : Value) : Prop := w.heap[B]? = some (.cells #[.int .i64 (s 0 : Int), .int .i64 (s 1 : Int), .int .i64 (s 2 : Int), .int .i64 (s 3 : Int), .int .i64 (s 4 : Int), .int .i64 (s 5 : Int), .int .i64 (s 6 : Int), .int .i64 (s 7 : Int), sl] 34 (0, 0))
theorem TabAt.keep {w w' : World} {B : Nat} {s : Nat → Nat} {sl : Value} (h : TabAt w B s sl) (hb : Below w.heap.size w w') : TabAt w' B s sl := row_keep hb h

set_option maxRecDepth 100000 in
set_option maxHeartbeats 2000000 in
theorem mer1_any (B : Nat) (s : Nat → Nat) (ao : Option Addr) (n cap : Nat) (xs : List Ent) (W1 : World) (hB : TabAt W1 B s (.slice ao n cap)) (h : El W1 ao n xs) (hs : Sorted xs) (hn : n ≤ 900000) :
    PredE 60 #[.pointer (some ⟨B, 0, none⟩)] (fun x => hasE xs x || !(saw s x)) W1 := by
  intro w x hw
  obtain ⟨V, hV⟩ : ∃ V, V = w.alloc (.cells #[.string x.key, .string x.val, .int .i64 (x.site : Int), .int .i64 (x.count : Int)] 82) := ⟨_, rfl⟩
  have HB : Hid (Below w.heap.size w V) := Lib.hid (by rw [hV]; exact box_below w _)
  obtain ⟨x0, x1, x2, x3⟩ := four_cells (w := V) (T := w.heap.size) (ty := 82) (a := .string x.key) (b := .string x.val) (c := .int .i64 (x.site : Int)) (d := .int .i64 (x.count : Int)) (by rw [hV]; exact heap_alloc_new _ _)
  have hT := (hB.keep hw).keep HB.out
  have HT := Lib.hid hT
  obtain ⟨r0, r1, r2, r3, r4, r5, r6, r7, r8⟩ := cell_nine hT
  have hel := (h.keep hw).keep HB.out
  have hc := has_any s ao n cap xs x V hel hs hn
  have hsw := fun w => saw_any s x w
  have HV := Lib.hid hV
  have HX := Lib.hid (four_cells (w := V) (T := w.heap.size) (ty := 82) (a := .string x.key) (b := .string x.val) (c := .int .i64 (x.site : Int)) (d := .int .i64 (x.count : Int)) (by rw [hV]; exact heap_alloc_new _ _))
  clear hV hT hB h hel hs
  unfold tabV at hc
  show Calls _ _ #[.agg #[.string x.key, .string x.val, .int .i64 (x.site : Int), .int .i64 (x.count : Int)], .pointer (some ⟨B, 0, none⟩)] _ (fun e w' => e = .returned (.bool (hasE xs x || !(saw s x))) ∧ Below w.heap.size w w')
  generalize hasE xs x = b at hc ⊢
  generalize saw s x = d at hsw ⊢
  have HC := Lib.hid hc
  clear hc
  cases b
  · go_enter Try.func60, Try.ntmps60
    go_upto_region 1 with fail
    rw [← HV.out]
    go_wp2_with (first | (go_at_call 61; refine HC.out.mono ?_; rintro e w1 ⟨rfl, hb1⟩; have HB1 := Lib.hid hb1; obtain ⟨q0, q1, q2, q3, q4, q5, q6, q7, q8⟩ := cell_nine (HT.out.keep hb1); have y0 := cell_later hb1 HX.out.1; have y1 := cell_later hb1 HX.out.2.1; have y2 := cell_later hb1 HX.out.2.2.1; have y3 := cell_later hb1 HX.out.2.2.2; clear hb1) | (go_at_call 62; refine (hsw _).mono ?_; rintro e w2 ⟨rfl, hb2⟩; have HB2 := Lib.hid hb2; clear hb2))
    go_ret
    exact ⟨by simp, HB.out.trans ((HB1.out.trans (HB2.out.mono HB1.out.size)).mono HB.out.size)⟩
  · go_enter Try.func60, Try.ntmps60
    go_upto_region 1 with fail
    rw [← HV.out]
    go_wp2_with (go_at_call 61; refine HC.out.mono ?_; rintro e w1 ⟨rfl, hb1⟩; have HB1 := Lib.hid hb1; clear hb1)
    go_ret
    exact ⟨by simp, HB.out.trans (HB1.out.mono HB.out.size)⟩

set_option maxRecDepth 100000 in
set_option maxHeartbeats 2000000 in
theorem mer2_any (B : Nat) (s : Nat → Nat) (sl : Value) (W1 : World) (hB : TabAt W1 B s sl) :
    PredE 63 #[.pointer (some ⟨B, 0, none⟩)] (fun x => !(saw s x)) W1 := by
  intro w x hw
  obtain ⟨V, hV⟩ : ∃ V, V = w.alloc (.cells #[.string x.key, .string x.val, .int .i64 (x.site : Int), .int .i64 (x.count : Int)] 82) := ⟨_, rfl⟩
  have HB : Hid (Below w.heap.size w V) := Lib.hid (by rw [hV]; exact box_below w _)
  obtain ⟨x0, x1, x2, x3⟩ := four_cells (w := V) (T := w.heap.size) (ty := 82) (a := .string x.key) (b := .string x.val) (c := .int .i64 (x.site : Int)) (d := .int .i64 (x.count : Int)) (by rw [hV]; exact heap_alloc_new _ _)
  have hT := (hB.keep hw).keep HB.out
  obtain ⟨r0, r1, r2, r3, r4, r5, r6, r7, r8⟩ := cell_nine hT
  have hsw := fun w => saw_any s x w
  have HV := Lib.hid hV
  clear hV hT hB
  show Calls _ _ #[.agg #[.string x.key, .string x.val, .int .i64 (x.site : Int), .int .i64 (x.count : Int)], .pointer (some ⟨B, 0, none⟩)] _ (fun e w' => e = .returned (.bool (!(saw s x))) ∧ Below w.heap.size w w')
  generalize saw s x = d at hsw ⊢
  go_enter Try.func63, Try.ntmps63
  go_upto_region 1 with fail
  rw [← HV.out]
  go_wp2_with (go_at_call 62; refine (hsw _).mono ?_; rintro e w2 ⟨rfl, hb2⟩; have HB2 := Lib.hid hb2; clear hb2)
  go_ret
  exact ⟨rfl, HB.out.trans (HB2.out.mono HB.out.size)⟩
end Go.Proofs.Ytpghehckojdgeaa

/- The program's join of two lists of numbers. (By gen_join.py.) -/
set_option linter.unusedVariables false
set_option linter.unusedSimpArgs false
namespace Go.Proofs.Ytpghehckojdgeaa
open Go.RowKit Go.Shelf Go.Sort

set_option maxRecDepth 100000 in
set_option maxHeartbeats 4000000 in
theorem join_raw (a0 b0 a1 b1 a2 b2 a3 b3 a4 b4 a5 b5 a6 b6 a7 b7 : Int) (W : World) :
    Calls Try.prog 64 #[.agg #[.int .i64 (a0 : Int), .int .i64 (a1 : Int), .int .i64 (a2 : Int), .int .i64 (a3 : Int), .int .i64 (a4 : Int), .int .i64 (a5 : Int), .int .i64 (a6 : Int), .int .i64 (a7 : Int)], .agg #[.int .i64 (b0 : Int), .int .i64 (b1 : Int), .int .i64 (b2 : Int), .int .i64 (b3 : Int), .int .i64 (b4 : Int), .int .i64 (b5 : Int), .int .i64 (b6 : Int), .int .i64 (b7 : Int)]] W fun e w' => e = .returned (.agg #[.int .i64 (max a0 b0), .int .i64 (max a1 b1), .int .i64 (max a2 b2), .int .i64 (max a3 b3), .int .i64 (max a4 b4), .int .i64 (max a5 b5), .int .i64 (max a6 b6), .int .i64 (max a7 b7)]) ∧ Below W.heap.size W w' := by
  have i0 : ∀ w, (Instr.index 31 (.agg #[.int .i64 (b0 : Int), .int .i64 (b1 : Int), .int .i64 (b2 : Int), .int .i64 (b3 : Int), .int .i64 (b4 : Int), .int .i64 (b5 : Int), .int .i64 (b6 : Int), .int .i64 (b7 : Int)]) (.int .i64 0)).run Try.prog w = .ok (.int .i64 b0) w := fun _ => by kernel_rfl
  have i1 : ∀ w, (Instr.index 31 (.agg #[.int .i64 (b0 : Int), .int .i64 (b1 : Int), .int .i64 (b2 : Int), .int .i64 (b3 : Int), .int .i64 (b4 : Int), .int .i64 (b5 : Int), .int .i64 (b6 : Int), .int .i64 (b7 : Int)]) (.int .i64 1)).run Try.prog w = .ok (.int .i64 b1) w := fun _ => by kernel_rfl
  have i2 : ∀ w, (Instr.index 31 (.agg #[.int .i64 (b0 : Int), .int .i64 (b1 : Int), .int .i64 (b2 : Int), .int .i64 (b3 : Int), .int .i64 (b4 : Int), .int .i64 (b5 : Int), .int .i64 (b6 : Int), .int .i64 (b7 : Int)]) (.int .i64 2)).run Try.prog w = .ok (.int .i64 b2) w := fun _ => by kernel_rfl
  have i3 : ∀ w, (Instr.index 31 (.agg #[.int .i64 (b0 : Int), .int .i64 (b1 : Int), .int .i64 (b2 : Int), .int .i64 (b3 : Int), .int .i64 (b4 : Int), .int .i64 (b5 : Int), .int .i64 (b6 : Int), .int .i64 (b7 : Int)]) (.int .i64 3)).run Try.prog w = .ok (.int .i64 b3) w := fun _ => by kernel_rfl
  have i4 : ∀ w, (Instr.index 31 (.agg #[.int .i64 (b0 : Int), .int .i64 (b1 : Int), .int .i64 (b2 : Int), .int .i64 (b3 : Int), .int .i64 (b4 : Int), .int .i64 (b5 : Int), .int .i64 (b6 : Int), .int .i64 (b7 : Int)]) (.int .i64 4)).run Try.prog w = .ok (.int .i64 b4) w := fun _ => by kernel_rfl
  have i5 : ∀ w, (Instr.index 31 (.agg #[.int .i64 (b0 : Int), .int .i64 (b1 : Int), .int .i64 (b2 : Int), .int .i64 (b3 : Int), .int .i64 (b4 : Int), .int .i64 (b5 : Int), .int .i64 (b6 : Int), .int .i64 (b7 : Int)]) (.int .i64 5)).run Try.prog w = .ok (.int .i64 b5) w := fun _ => by kernel_rfl
  have i6 : ∀ w, (Instr.index 31 (.agg #[.int .i64 (b0 : Int), .int .i64 (b1 : Int), .int .i64 (b2 : Int), .int .i64 (b3 : Int), .int .i64 (b4 : Int), .int .i64 (b5 : Int), .int .i64 (b6 : Int), .int .i64 (b7 : Int)]) (.int .i64 6)).run Try.prog w = .ok (.int .i64 b6) w := fun _ => by kernel_rfl
  have i7 : ∀ w, (Instr.index 31 (.agg #[.int .i64 (b0 : Int), .int .i64 (b1 : Int), .int .i64 (b2 : Int), .int .i64 (b3 : Int), .int .i64 (b4 : Int), .int .i64 (b5 : Int), .int .i64 (b6 : Int), .int .i64 (b7 : Int)]) (.int .i64 7)).run Try.prog w = .ok (.int .i64 b7) w := fun _ => by kernel_rfl
  go_enter Try.func64, Try.ntmps64
  go_wp2
  refine wp_loop_rounds 9 ?_
  rw [rounds_succ]
  go_wp2
  rw [rounds_succ]
  go_wp2
  rw [rounds_succ]
  go_wp2
  rw [rounds_succ]
  go_wp2
  rw [rounds_succ]
  go_wp2
  rw [rounds_succ]
  go_wp2
  rw [rounds_succ]
  go_wp2
  rw [rounds_succ]
  go_wp2
  rw [rounds_succ]
  go_wp2
  refine bodyPost_ret (v := .agg #[.int .i64 (max a0 b0), .int .i64 (max a1 b1), .int .i64 (max a2 b2), .int .i64 (max a3 b3), .int .i64 (max a4 b4), .int .i64 (max a5 b5), .int .i64 (max a6 b6), .int .i64 (max a7 b7)]) (results_cell_row Try.results64 _ _ (W.heap.size + 1 + 1) 31 #[.int .i64 (max a0 b0), .int .i64 (max a1 b1), .int .i64 (max a2 b2), .int .i64 (max a3 b3), .int .i64 (max a4 b4), .int .i64 (max a5 b5), .int .i64 (max a6 b6), .int .i64 (max a7 b7)] (0, 0) _ rfl (block3 _ _ _ _) Try.underlying31 (by kernel_rfl) (by kernel_rfl)) rfl ?_
  exact ⟨rfl, below3 W _ _ _⟩
theorem max_cast (a b : Nat) : ((max a b : Nat) : Int) = max (a : Int) (b : Int) := by omega
theorem join_any (s t : Nat → Nat) (W : World) :
    Calls Try.prog 64 #[.agg #[.int .i64 (s 0 : Int), .int .i64 (s 1 : Int), .int .i64 (s 2 : Int), .int .i64 (s 3 : Int), .int .i64 (s 4 : Int), .int .i64 (s 5 : Int), .int .i64 (s 6 : Int), .int .i64 (s 7 : Int)], .agg #[.int .i64 (t 0 : Int), .int .i64 (t 1 : Int), .int .i64 (t 2 : Int), .int .i64 (t 3 : Int), .int .i64 (t 4 : Int), .int .i64 (t 5 : Int), .int .i64 (t 6 : Int), .int .i64 (t 7 : Int)]] W fun e w' => e = .returned (.agg #[.int .i64 ((max (s 0) (t 0) : Nat) : Int), .int .i64 ((max (s 1) (t 1) : Nat) : Int), .int .i64 ((max (s 2) (t 2) : Nat) : Int), .int .i64 ((max (s 3) (t 3) : Nat) : Int), .int .i64 ((max (s 4) (t 4) : Nat) : Int), .int .i64 ((max (s 5) (t 5) : Nat) : Int), .int .i64 ((max (s 6) (t 6) : Nat) : Int), .int .i64 ((max (s 7) (t 7) : Nat) : Int)]) ∧ Below W.heap.size W w' := by
  simp only [max_cast]
  exact join_raw (s 0 : Int) (t 0 : Int) (s 1 : Int) (t 1 : Int) (s 2 : Int) (t 2 : Int) (s 3 : Int) (t 3 : Int) (s 4 : Int) (t 4 : Int) (s 5 : Int) (t 5 : Int) (s 6 : Int) (t 6 : Int) (s 7 : Int) (t 7 : Int) W
end Go.Proofs.Ytpghehckojdgeaa

/- slices.Concat of two slices of entries. -/
set_option linter.unusedVariables false
set_option linter.unusedSimpArgs false
namespace Go.Proofs.Ytpghehckojdgeaa
open Go.RowKit Go.Shelf Go.Sort

theorem run_append_none {P : Program} {w : World} (base : Nat) (t ty e : TypeId) (i : TypeInfo) (size : Nat) (ht : P.underlying t = some (.slice e)) (hi : P.info? e = some i) (v : Value) (n : Nat) (xs : List Value) (hown : w.ownsRow base e size v n xs) (c : Nat) :
    (Builtin.append_ #[t, t] ty #[v, .slice none 0 c]).run P w = .ok v w := by
  rcases hown.2 with ⟨rfl, rfl⟩ | ⟨g, cap, cur, rfl, _, _, hnc, _⟩
  · simp [Builtin.append_, run_underlying ht, sizeOf, typeInfo, hi, Builtin.lenOf, Builtin.firstCells]
  · simp [Builtin.append_, run_underlying ht, sizeOf, typeInfo, hi, Builtin.lenOf, Builtin.firstCells, hnc, storeCells]

/-- entries are appended to an own row, whatever slice holds them -/
theorem wpList_appAny {w : World} {ops : Array Oper} {rest : List Oper} {o : Oper} {a : Act} {Q : Exit → Act → World → Prop} (hgd : o.guard = none) (s x : Operand)
    (ho : o.op = .call { callee := .builtin .append, args := #[s, x], argTypes := #[32, 32] }) (base : Nat) (v : Value) (n : Nat) (xs : List Ent) (hs : a.eval s = v) (hown : OwnE w base v n xs)
    (ao : Option Addr) (m c : Nat) (ys : List Ent) (hx : a.eval x = .slice ao m c) (hel : El w ao m ys) (hn : n + m ≤ 10000000) (hbase : base ≤ w.heap.size)
    (h : ∀ v' w', OwnE w' base v' (n + m) (xs ++ ys) → Below base w w' → w.heap.size ≤ w'.heap.size → wpList Try.prog ops Q rest (a.put o.dst v') w') :
    wpList Try.prog ops Q (o :: rest) a w := by
  obtain ⟨i0, hi, hz0, hz1, hz2⟩ := info_parts infoE
  obtain ⟨hl, hel⟩ := hel
  rcases hel with ⟨rfl, rfl⟩ | ⟨g, rfl, hr⟩
  · have e0 : ys = [] := List.eq_nil_of_length_eq_zero hl
    subst e0
    refine wpList_plain hgd fun K hK => ?_
    have hrun := run_append_none (P := Try.prog) (w := w) base 32 o.type 82 i0 4 Try.underlying32 hi v n (flatE xs) hown.2 c
    unfold Oper.wp
    simp [execOp, ho, resolve, invoke, builtin, hs, hx, hrun, Result.andThen]
    exact hK _ _ (h v w (by simpa using hown) (Below.refl _ _) (Nat.le_refl _))
  · refine wpList_append_own w hgd s x 32 ho base 82 i0 _ 4 48 Try.underlying32 hi hz0 hz1 hz2 rfl (by decide) v n (flatE xs) hs hown.2 ⟨g, 0, none⟩ m c (flatE ys) hx (by rw [flatE_len, hl]) hr.cells (flatE_one ys) (by unfold maxLen; omega) (by omega) hbase ?_
    intro v' w' hrow hg _
    exact h v' w' ⟨by rw [List.length_append, hown.1, hl], by rw [flatE_app]; exact hrow⟩ ((Below.refl base w).grown hg hbase (fun j hj => (World.ownsRow.lt hown.2 j hj).1)) hg.size

/-- slices.Grow of nil -/
theorem grow_nil (n : Nat) (W : World) (hn : n ≤ 10000000) :
    Calls Try.prog 87 #[.slice none 0 0, .int .i64 (n : Int)] W fun e w' => ∃ v, e = .returned v ∧ OwnE w' W.heap.size v 0 [] ∧ Below W.heap.size W w' := by
  by_cases h0 : n = 0
  · subst h0
    have h := Any8.slices_Grow_room Try.growE none 0 0 0 W (Nat.le_refl _) (by omega) (by omega) (by omega)
    change Calls Try.prog 87 _ _ _ at h
    exact h.mono fun e w' ⟨he, hw⟩ => ⟨_, he, OwnE.nil _ _, by rw [hw]; exact Below.refl _ _⟩
  · obtain ⟨i0, hi, hz0, hz1, hz2⟩ := info_parts infoE
    have h := Any8.slices_Grow_grow Try.growE i0 _ hi hz0 (by omega) none 0 0 n [] W (Nat.le_refl _) (by omega) (by rw [hz2]; omega) (by omega) (by simp) (fun _ => rfl) (fun a ha => by cases ha)
    change Calls Try.prog 87 _ _ _ at h
    refine h.mono fun e w' ⟨he, hw⟩ => ⟨_, he, ?_, ?_⟩
    · subst hw
      refine ⟨rfl, rfl, .inr ⟨W.heap.size, _, _, rfl, Nat.le_refl _, heap_alloc_new W.drew _, Nat.zero_le _, grownCap_le_maxLen _ _ _ _ (by unfold maxLen; omega), ?_, rfl⟩⟩
      have hg := grownCap_ge W (0 + n) 0 82
      simp only [Array.size_append, size_zeroCells]
      show 0 + (0 + n - 0) * 4 + (grownCap W (0 + n) 0 82 - (0 + n)) * 4 = grownCap W (0 + n) 0 82 * 4
      omega
    · rw [hw]
      exact (below_drewN (Below.refl _ _) 1).alloc (Nat.le_refl _) _

set_option maxRecDepth 100000 in
set_option maxHeartbeats 4000000 in
theorem concat_any (b : Nat) (a1 a2 : Option Addr) (n1 n2 c1 c2 : Nat) (xs ys : List Ent) (W : World) (h1 : El W a1 n1 xs) (h2 : El W a2 n2 ys) (hc1 : W.cell? ⟨b, 0, none⟩ = some (.slice a1 n1 c1)) (hc2 : W.cell? ⟨b, 1, none⟩ = some (.slice a2 n2 c2)) (hn1 : n1 ≤ 900000) (hn2 : n2 ≤ 900000) :
    Calls Try.prog 78 #[.slice (some ⟨b, 0, none⟩) 2 2] W fun e w' => ∃ v, e = .returned v ∧ OwnE w' W.heap.size v (n1 + n2) (xs ++ ys) ∧ Below W.heap.size W w' := by
  have hg := fun w => grow_nil (n1 + n2) w (by omega)
  rw [show ((n1 + n2 : Nat) : Int) = (n1 : Int) + (n2 : Int) by omega] at hg
  have H1 := Lib.hid h1
  have H2 := Lib.hid h2
  have p1 : (0 : Int) ≤ (n1 : Int) := by omega
  have p2 : (0 : Int) ≤ (n2 : Int) := by omega
  have p3 : (n1 : Int) ≤ 900000 := by omega
  have p4 : (n2 : Int) ≤ 900000 := by omega
  clear h1 h2
  go_enter Try.func78, Try.ntmps78
  go_wp2
  refine wp_loop_rounds 3 ?_
  rw [rounds_succ]
  go_wp2
  rw [rounds_succ]
  go_wp2
  rw [rounds_succ]
  go_wp2_with (go_at_call 87; refine (hg _).mono ?_; rintro e w1 ⟨v1, rfl, hown1, hb1⟩; have HO1 := Lib.hid hown1; have HB1 := Lib.hid hb1; have d1 := cell_later hb1 hc1; have d2 := cell_later hb1 hc2; clear hown1 hb1)
  refine wp_loop_rounds 3 ?_
  rw [rounds_succ]
  go_wp2_with (at_builtin; refine wpList_appAny rfl _ _ rfl W.heap.size v1 0 [] rfl HO1.out a1 n1 c1 xs rfl (H1.out.keep HB1.out) (by omega) HB1.out.size ?_; intro v2 w2 hown2 hb2 hs2; have HO2 := Lib.hid hown2; have HB2 := Lib.hid (HB1.out.trans hb2); have d3 := cell_later HB2.out hc1; have d4 := cell_later HB2.out hc2; clear hown2 hb2)
  rw [rounds_succ]
  go_wp2_with (at_builtin; refine wpList_appAny rfl _ _ rfl W.heap.size v2 (0 + n1) ([] ++ xs) rfl HO2.out a2 n2 c2 ys rfl (H2.out.keep HB2.out) (by omega) (Nat.le_trans HB1.out.size hs2) ?_; intro v3 w3 hown3 hb3 hs3; have HO3 := Lib.hid hown3; have HB3 := Lib.hid (HB2.out.trans hb3); clear hown3 hb3)
  rw [rounds_succ]
  go_wp2
  go_ret
  exact ⟨v3, rfl, by simpa using HO3.out, HB3.out⟩
end Go.Proofs.Ytpghehckojdgeaa

/- The contracts that the program calls come to, at the numbers of this program. -/
namespace Go.Proofs
open Go.Shelf
def Try.sortFE_ren : Go.Shelf.Ren := ⟨fun | 6 => 79 | 15 => 89 | 14 => 88 | 28 => 101 | 29 => 102 | 20 => 93 | 21 => 94 | 22 => 95 | 23 => 96 | 24 => 97 | 25 => 98 | 26 => 99 | 27 => 100 | 46 => 104 | 47 => 105 | 48 => 106 | 49 => 107 | 50 => 108 | 57 => 109 | n => n, fun | 22 => 32 | 24 => 82 | 25 => 107 | 3 => 3 | 39 => 135 | 0 => 0 | 53 => 145 | 55 => 147 | 4 => 4 | 46 => 139 | 45 => 138 | 50 => 127 | 5 => 5 | 9 => 9 | 66 => 148 | 70 => 152 | 76 => 154 | 77 => 155 | n => n, fun | n => n⟩
theorem Try.sortFE : Go.Proofs.SlLaysF0.n6 Try.prog Try.sortFE_ren := {
  mixed := by kernel_rfl
  f6 := ⟨Try.f79.name, by decide, Try.func79.trans (congrArg some (by kernel_rfl))⟩
  f14 := ⟨Try.f88.name, by decide, Try.func88.trans (congrArg some (by kernel_rfl))⟩
  f15 := Try.func89.trans (congrArg some (by kernel_rfl))
  f20 := ⟨Try.f93.name, by decide, Try.func93.trans (congrArg some (by kernel_rfl))⟩
  f21 := ⟨Try.f94.name, by decide, Try.func94.trans (congrArg some (by kernel_rfl))⟩
  f22 := ⟨Try.f95.name, by decide, Try.func95.trans (congrArg some (by kernel_rfl))⟩
  f23 := ⟨Try.f96.name, by decide, Try.func96.trans (congrArg some (by kernel_rfl))⟩
  f24 := ⟨Try.f97.name, by decide, Try.func97.trans (congrArg some (by kernel_rfl))⟩
  f25 := ⟨Try.f98.name, by decide, Try.func98.trans (congrArg some (by kernel_rfl))⟩
  f26 := ⟨Try.f99.name, by decide, Try.func99.trans (congrArg some (by kernel_rfl))⟩
  f27 := ⟨Try.f100.name, by decide, Try.func100.trans (congrArg some (by kernel_rfl))⟩
  f28 := Try.func101.trans (congrArg some (by kernel_rfl))
  f29 := Try.func102.trans (congrArg some (by kernel_rfl))
  f46 := ⟨Try.f104.name, by decide, Try.func104.trans (congrArg some (by kernel_rfl))⟩
  f47 := Try.func105.trans (congrArg some (by kernel_rfl))
  f48 := Try.func106.trans (congrArg some (by kernel_rfl))
  f49 := ⟨Try.f107.name, by decide, Try.func107.trans (congrArg some (by kernel_rfl))⟩
  f50 := ⟨Try.f108.name, by decide, Try.func108.trans (congrArg some (by kernel_rfl))⟩
  f57 := ⟨Try.f109.name, by decide, Try.func109.trans (congrArg some (by kernel_rfl))⟩
  t0 := Try.underlying0
  a0 := Try.isAgg0
  z0 := Try.sizeOf0
  v0 := Try.zeroValue0
  t3 := Try.underlying3
  a3 := Try.isAgg3
  z3 := Try.sizeOf3
  v3 := Try.zeroValue3
  t4 := Try.underlying4
  a4 := Try.isAgg4
  z4 := Try.sizeOf4
  v4 := Try.zeroValue4
  t5 := Try.underlying5
  a5 := Try.isAgg5
  z5 := Try.sizeOf5
  v5 := Try.zeroValue5
  t9 := Try.underlying9
  a9 := Try.isAgg9
  z9 := Try.sizeOf9
  v9 := Try.zeroValue9
  t22 := Try.underlying32
  a22 := Try.isAgg32
  z22 := Try.sizeOf32
  v22 := Try.zeroValue32
  t25 := Try.underlying107
  a25 := Try.isAgg107
  z25 := Try.sizeOf107
  v25 := Try.zeroValue107
  t39 := Try.underlying135
  a39 := Try.isAgg135
  z39 := Try.sizeOf135
  v39 := Try.zeroValue135
  t45 := Try.underlying138
  a45 := Try.isAgg138
  z45 := Try.sizeOf138
  v45 := Try.zeroValue138
  t46 := Try.underlying139
  a46 := Try.isAgg139
  z46 := Try.sizeOf139
  v46 := Try.zeroValue139
  t50 := Try.underlying127
  a50 := Try.isAgg127
  z50 := Try.sizeOf127
  v50 := Try.zeroValue127
  t53 := Try.underlying145
  a53 := Try.isAgg145
  z53 := Try.sizeOf145
  v53 := Try.zeroValue145
  t55 := Try.underlying147
  a55 := Try.isAgg147
  z55 := Try.sizeOf147
  v55 := Try.zeroValue147
  t66 := Try.underlying148
  a66 := Try.isAgg148
  z66 := Try.sizeOf148
  v66 := Try.zeroValue148
  t70 := Try.underlying152
  a70 := Try.isAgg152
  z70 := Try.sizeOf152
  v70 := Try.zeroValue152
  t76 := Try.underlying154
  a76 := Try.isAgg154
  z76 := Try.sizeOf154
  v76 := Try.zeroValue154
  t77 := Try.underlying155
  a77 := Try.isAgg155
  z77 := Try.sizeOf155
  v77 := Try.zeroValue155 }
end Go.Proofs

/- slices.SortFunc of entries; the program's sorted. -/
set_option linter.unusedVariables false
set_option linter.unusedSimpArgs false
namespace Go.Proofs.Ytpghehckojdgeaa
open Go.RowKit Go.Shelf Go.Sort

theorem holdsK_of_row {w : World} {g : Nat} {xs : List Ent} (h : RowE w g xs) (hf : FreeE w g xs.length) : HoldsK encE 4 w g 0 xs.toArray := by
  intro t ht
  rw [size_flatK] at ht
  have ht' : t < xs.length * 4 := by simpa using ht
  rw [get_flatK _ _ _ _ ht, Nat.zero_add]
  refine ⟨?_, hf t ht'⟩
  have hi : t / 4 < xs.length := by omega
  obtain ⟨a, b, c, d⟩ := h.2 (t / 4) hi
  have e : (xs.toArray)[t / 4]! = xs[t / 4]! := by simp
  rw [e]
  generalize xs[t / 4]! = y at a b c d
  have ht4 : t = t / 4 * 4 + t % 4 := by omega
  have hm : t % 4 = 0 ∨ t % 4 = 1 ∨ t % 4 = 2 ∨ t % 4 = 3 := by omega
  rcases hm with m | m | m | m
  · rw [m] at ht4 ⊢; rw [show t = t / 4 * 4 by omega]; exact a
  · rw [m] at ht4 ⊢; rw [ht4]; exact b
  · rw [m] at ht4 ⊢; rw [ht4]; exact c
  · rw [m] at ht4 ⊢; rw [ht4]; exact d
theorem row_of_holdsK {w : World} {g : Nat} {d : Array Ent} (h : HoldsK encE 4 w g 0 d) (hg : g < w.heap.size) : RowE w g d.toList := by
  refine ⟨hg, fun i hi => ?_⟩
  have hi' : i < d.size := by simpa using hi
  have e : d.toList[i]! = d[i]! := by rw [getElem!_pos d i hi', getElem!_pos d.toList i hi]; simp
  rw [e]
  have h0 := (h.cell hi' (c := 0) (by omega)).1
  have h1 := (h.cell hi' (c := 1) (by omega)).1
  have h2 := (h.cell hi' (c := 2) (by omega)).1
  have h3 := (h.cell hi' (c := 3) (by omega)).1
  rw [Nat.zero_add] at h0 h1 h2 h3
  exact ⟨h0, h1, h2, h3⟩
theorem cmpE_lays (blk off size : Nat) (w : World) : CmpLays Try.prog 56 #[] encE 4 cfE blk off size w := fun _ _ _ _ x y => byKey_any x y _
theorem grown_sortK {w : World} {g n : Nat} {os : Array Obj} (d : Array Ent) : w.grownBy (sortWorldK encE 4 w g 0 n d os) (some g) := by
  refine ⟨rfl, rfl, rfl, size_sortWorldK_c encE 4 w g 0 n d os, fun k hk hne => ?_⟩
  unfold sortWorldK putRowK
  rw [heap_grow_old _ _ (by simpa using hk)]
  have : g ≠ k := fun e => hne (by rw [e])
  simp [putRow, mapBlock, Sort.ahead, Array.getElem?_modify, this]
theorem sorted_of_perm {xs : List Ent} {d' : Array Ent} (hp : PermIn 0 xs.toArray.size xs.toArray d') (hs : SortedIn (ltOf cfE) 0 xs.toArray.size d') (hne : xs.Pairwise fun a b => cfE a b ≠ 0) : Sorted d'.toList ∧ ∀ e, e ∈ d'.toList ↔ e ∈ xs := by
  obtain ⟨h1, _, h3⟩ := hp
  have hperm : d'.toList.Perm xs := by
    have e1 : d'.extract 0 xs.toArray.size = d' := by rw [← h1]; exact Array.extract_size ..
    have e2 : xs.toArray.extract 0 xs.toArray.size = xs.toArray := Array.extract_size ..
    rw [e1, e2] at h3
    simpa using h3
  refine ⟨?_, fun e => hperm.mem_iff⟩
  have hne' : d'.toList.Pairwise fun a b => cfE a b ≠ 0 := (hperm.pairwise_iff (R := fun a b => cfE a b ≠ 0) (fun {x y} h k => h (by rw [cfE_neg, k]; rfl))).2 hne
  refine List.pairwise_iff_getElem.2 fun i j hi hj hij => ?_
  have hn := List.pairwise_iff_getElem.1 hne' i j hi hj hij
  have hi' : i < d'.size := by simpa using hi
  have hj' : j < d'.size := by simpa using hj
  have hl := hs i j (Nat.zero_le _) hij (by rw [← h1]; exact hj')
  rw [getElem!_pos d' i hi', getElem!_pos d' j hj', ltOf_E] at hl
  rcases ltE_or d'.toList[i] d'.toList[j] with k | k | k
  · exact k
  · simp at k; rw [hl] at k; cases k
  · exact absurd k hn

/-! ### an empty slice -/
theorem ins_zero (p : Option Addr) (cap : Nat) (fv : Value) (w : World) :
    Calls Try.prog 93 #[.slice p 0 cap, .int .i64 0, .int .i64 0, fv] w fun e w' => e = .returned (.tuple #[]) ∧ w' = w := by
  go_enter Try.func93, Try.ntmps93
  go_wp2
  refine wp_loop_rounds 1 ?_
  rw [rounds_succ]
  go_wp2
  go_end0
  exact ⟨rfl, rfl⟩
theorem pdq_zero (p : Option Addr) (cap : Nat) (lim : Int) (fv : Value) (w : World) :
    Calls Try.prog 88 #[.slice p 0 cap, .int .i64 0, .int .i64 0, .int .i64 lim, fv] w fun e w' => e = .returned (.tuple #[]) ∧ w' = w := by
  go_enter Try.func88, Try.ntmps88
  go_wp2
  refine wp_loop_rounds 1 ?_
  rw [rounds_succ]
  go_wp2_with (go_at_call 93; refine (ins_zero p cap fv _).mono ?_; rintro e w' ⟨rfl, rfl⟩)
  (try simp only [Exit.inBlock, Exit.then]); refine bodyPost_ret (results_none rfl _ _ _) rfl ?_
  exact ⟨rfl, rfl⟩
theorem sort_zero (p : Option Addr) (cap : Nat) (fv : Value) (w : World) :
    Calls Try.prog 79 #[.slice p 0 cap, fv] w fun e w' => e = .returned (.tuple #[]) ∧ w' = w := by
  go_enter Try.func79, Try.ntmps79
  go_wp2_with (first | (go_at_call 89; refine (Try.bits_Len 0 _ (by omega) (by omega)).mono ?_; rintro e w' ⟨rfl, rfl⟩) | (go_at_call 88; refine (pdq_zero p cap _ fv _).mono ?_; rintro e w' ⟨rfl, rfl⟩))
  go_end0
  exact ⟨rfl, rfl⟩

/-- an own row is sorted -/
theorem sort_own (base : Nat) (v : Value) (n : Nat) (xs : List Ent) (W : World) (h : OwnE W base v n xs) (hn : n ≤ 9000000) (hne : xs.Pairwise fun a b => cfE a b ≠ 0) (hbase : base ≤ W.heap.size) :
    Calls Try.prog 79 #[v, .func (.func 56) #[] #[]] W fun e w' => e = .returned (.tuple #[]) ∧ ∃ ao cap ys, v = .slice ao n cap ∧ El w' ao n ys ∧ Sorted ys ∧ (∀ e, e ∈ ys ↔ e ∈ xs) ∧ Below base W w' := by
  have hl := h.1
  rcases h.2.2 with ⟨rfl, h0⟩ | ⟨g, cap, cur, rfl, hb, hg, r1, r2, r3⟩
  · subst h0
    have e0 : xs = [] := List.eq_nil_of_length_eq_zero hl
    subst e0
    exact (sort_zero none 0 _ W).mono fun e w' ⟨he, hw⟩ => ⟨he, none, 0, [], rfl, El.nil _, List.Pairwise.nil, fun e => Iff.rfl, by rw [hw]; exact Below.refl _ _⟩
  · have hr := h.row
    subst hl
    have hH := holdsK_of_row hr.1 hr.2.1
    have eg : ∀ args w, (callFunc 56 args).run Try.prog w = .ok (.enter 56 args) w := enters_of Try.func56 (by kernel_rfl) rfl
    have hq := AnyQ.slices_SortFunc Try.sortFE 4 Try.isAgg82 Try.sizeOf82 encE encE_len (fun x v hv => by simp [encE] at hv; rcases hv with rfl | rfl | rfl | rfl <;> rfl) cfE swo_E 56 #[] g 0 cap xs.toArray W eg (cmpE_lays g 0 _ W) hH hr.1.1 (by simp; omega)
    change Calls Try.prog 79 _ _ _ at hq
    rw [show xs.toArray.size = xs.length by simp] at hq
    refine hq.mono fun e w' ⟨he, d', m, os, hp, hs, hw⟩ => ⟨he, some ⟨g, 0, none⟩, cap, d'.toList, rfl, ?_⟩
    have hsm := sorted_of_perm (xs := xs) (d' := d') (by simpa using hp) (by simpa using hs) hne
    have hlen : d'.toList.length = xs.length := by have := hp.1; simpa using this
    have hgr := grown_sortK (w := W) (g := g) (n := m) (os := os) d'
    rw [← hw] at hgr
    have hH' := holdsK_sortWorldK_c encE 4 W g 0 xs.toArray d' m os hH hr.1.1 (by simpa using hlen)
    rw [← hw] at hH'
    exact ⟨⟨hlen, .inr ⟨g, rfl, row_of_holdsK hH' (Nat.lt_of_lt_of_le hr.1.1 hgr.size)⟩⟩, hsm.1, hsm.2, (Below.refl base W).grown hgr hbase (fun k hk => by cases hk; exact hb)⟩
end Go.Proofs.Ytpghehckojdgeaa

/- The program's sorted. -/
set_option linter.unusedVariables false
set_option linter.unusedSimpArgs false
namespace Go.Proofs.Ytpghehckojdgeaa
open Go.RowKit Go.Shelf Go.Sort

theorem own_below {w w' : World} {base n : Nat} {v : Value} {xs : List Ent} (h : OwnE w base v n xs) (hb : Below w.heap.size w w') : OwnE w' base v n xs := by
  refine ⟨h.1, h.2.1, ?_⟩
  rcases h.2.2 with h2 | ⟨g, cap, cur, h3, h4, h5, h6⟩
  · exact .inl h2
  · exact .inr ⟨g, cap, cur, h3, h4, (hb.block g (Array.getElem?_eq_some_iff.1 h5).1).trans h5, h6⟩
set_option maxHeartbeats 2000000 in
theorem sorted_any (b : Nat) (a1 a2 : Option Addr) (n1 n2 c1 c2 : Nat) (xs ys zs : List Ent) (W : World) (h1 : El W a1 n1 xs) (h2 : El W a2 n2 ys) (hc1 : W.cell? ⟨b, 0, none⟩ = some (.slice a1 n1 c1)) (hc2 : W.cell? ⟨b, 1, none⟩ = some (.slice a2 n2 c2)) (hn1 : n1 ≤ 900000) (hn2 : n2 ≤ 900000)
    (hne : (xs ++ ys).Pairwise fun a b => cfE a b ≠ 0) (hz : Sorted zs) (hm : ∀ e, e ∈ zs ↔ e ∈ xs ++ ys) :
    Calls Try.prog 55 #[.func (.func 56) #[] #[], .slice (some ⟨b, 0, none⟩) 2 2] W (OutE W.heap.size W zs) := by
  have HC := Lib.hid (concat_any b a1 a2 n1 n2 c1 c2 xs ys W h1 h2 hc1 hc2 hn1 hn2)
  have HS : Hid (∀ v w, OwnE w W.heap.size v (n1 + n2) (xs ++ ys) → W.heap.size ≤ w.heap.size → Calls Try.prog 79 #[v, .func (.func 56) #[] #[]] w fun e w' => e = .returned (.tuple #[]) ∧ ∃ ao cap, v = .slice ao zs.length cap ∧ El w' ao zs.length zs ∧ Below W.heap.size w w') := Lib.hid fun v w ho hb => by
    refine (sort_own W.heap.size v (n1 + n2) (xs ++ ys) w ho (by omega) hne hb).mono fun e w' ⟨he, ao, cap, us, hv, hel, hs, hmem, hbl⟩ => ?_
    have e1 : us = zs := Sorted.uniq hs hz fun e => (hmem e).trans (hm e).symm
    subst e1
    have hl := hel.1
    exact ⟨he, ao, cap, by rw [hl]; exact hv, by rw [hl]; exact hel, hbl⟩
  clear h1 h2 hc1 hc2 hne hz hm
  go_enter Try.func55, Try.ntmps55
  go_wp2_with (first | (go_at_call 78; refine HC.out.mono ?_; rintro e w1 ⟨v, rfl, hown, hb1⟩; have HO := Lib.hid hown; have HB1 := Lib.hid hb1; clear hown hb1) | (go_at_call 79; refine (HS.out _ _ HO.out HB1.out.size).mono ?_; rintro e w2 ⟨rfl, ao, cap, hv, hel, hb2⟩; have HV := Lib.hid hv; have HE := Lib.hid hel; have HB2 := Lib.hid hb2; clear hv hel hb2))
  go_ret
  exact ⟨ao, cap, by rw [← HV.out]; rfl, HE.out, HB1.out.trans HB2.out⟩
end Go.Proofs.Ytpghehckojdgeaa

/- The program's Merge. (By gen_merge.py.) -/
set_option linter.unusedVariables false
set_option linter.unusedSimpArgs false
namespace Go.Proofs.Ytpghehckojdgeaa
open Go.RowKit Go.Shelf Go.Sort

theorem block1of3 (W : World) (a b c : Obj) : (((W.alloc a).alloc b).alloc c).heap[W.heap.size]? = some a := by
  rw [Below.heap_alloc _ _ _ (by simp; omega)]; exact block1 W a b
theorem block2of3 (W : World) (a b c : Obj) : (((W.alloc a).alloc b).alloc c).heap[W.heap.size + 1]? = some b := by
  rw [Below.heap_alloc _ _ _ (by simp)]; exact block2 W a b
theorem pair_new (W : World) (a b : Value) (t : TypeId) : (W.alloc (.cells #[a, b] t)).cell? ⟨W.heap.size, 0, none⟩ = some a ∧ (W.alloc (.cells #[a, b] t)).cell? ⟨W.heap.size, 1, none⟩ = some b := two_cells (heap_alloc_new W (.cells #[a, b] t))

set_option maxRecDepth 100000 in
set_option maxHeartbeats 8000000 in
theorem Merge_any (m q : Nat) (s t : Nat → Nat) (ao ao' : Option Addr) (n c n' c' : Nat) (xs ys : List Ent) (W : World) (h1 : El W ao n xs) (h2 : El W ao' n' ys) (hn : n ≤ 400000) (hn' : n' ≤ 400000) (ha : (Tab.mk s xs).Ok m) (hb : (Tab.mk t ys).Ok q) :
    Calls Try.prog 25 #[tabV s (.slice ao n c), tabV t (.slice ao' n' c')] W (OutT W (merT ⟨s, xs⟩ ⟨t, ys⟩)) := by
  obtain ⟨V, hV⟩ : ∃ V, V = ((W.alloc (.cells #[.int .i64 (s 0 : Int), .int .i64 (s 1 : Int), .int .i64 (s 2 : Int), .int .i64 (s 3 : Int), .int .i64 (s 4 : Int), .int .i64 (s 5 : Int), .int .i64 (s 6 : Int), .int .i64 (s 7 : Int), .slice ao n c] 34)).alloc (.cells #[.int .i64 (t 0 : Int), .int .i64 (t 1 : Int), .int .i64 (t 2 : Int), .int .i64 (t 3 : Int), .int .i64 (t 4 : Int), .int .i64 (t 5 : Int), .int .i64 (t 6 : Int), .int .i64 (t 7 : Int), .slice ao' n' c'] 34)).alloc (.cells #[.int .i64 0, .int .i64 0, .int .i64 0, .int .i64 0, .int .i64 0, .int .i64 0, .int .i64 0, .int .i64 0, .slice none 0 0] 34) := ⟨_, rfl⟩
  have HB : Hid (Below W.heap.size W V) := Lib.hid (by rw [hV]; exact below3 W _ _ _)
  have TA : Hid (TabAt V W.heap.size s (.slice ao n c)) := Lib.hid (by unfold TabAt; rw [hV]; exact block1of3 W _ _ _)
  have TB : Hid (TabAt V (W.heap.size + 1) t (.slice ao' n' c')) := Lib.hid (by unfold TabAt; rw [hV]; exact block2of3 W _ _ _)
  have TR : Hid (V.heap[W.heap.size + 1 + 1]? = some (.cells #[.int .i64 0, .int .i64 0, .int .i64 0, .int .i64 0, .int .i64 0, .int .i64 0, .int .i64 0, .int .i64 0, .slice none 0 0] 34 (0, 0))) := Lib.hid (by rw [hV]; exact block3 W _ _ _)
  have E1 := Lib.hid (h1.keep HB.out)
  have E2 := Lib.hid (h2.keep HB.out)
  have g69 : ∀ args w, (callFunc 60 args).run Try.prog w = .ok (.enter 60 args) w := enters_of Try.func60 (by kernel_rfl) rfl
  have g72 : ∀ args w, (callFunc 63 args).run Try.prog w = .ok (.enter 63 args) w := enters_of Try.func63 (by kernel_rfl) rfl
  have C1 : Hid (∀ w, Below V.heap.size V w → Calls Try.prog 59 #[.agg #[.int .i64 (s 0 : Int), .int .i64 (s 1 : Int), .int .i64 (s 2 : Int), .int .i64 (s 3 : Int), .int .i64 (s 4 : Int), .int .i64 (s 5 : Int), .int .i64 (s 6 : Int), .int .i64 (s 7 : Int), .slice ao n c], .func (.func 60) #[] #[.pointer (some ⟨W.heap.size + 1, 0, none⟩)]] w (OutE w.heap.size w (keptT ⟨s, xs⟩ ⟨t, ys⟩))) :=
    Lib.hid fun w hw => only_any g69 (mer1_any _ t ao' n' c' ys w (TB.out.keep hw) (E2.out.keep hw) hb.srt (by omega)) s ao n c xs (E1.out.keep hw) (by omega)
  have C2 : Hid (∀ w, Below V.heap.size V w → Calls Try.prog 59 #[.agg #[.int .i64 (t 0 : Int), .int .i64 (t 1 : Int), .int .i64 (t 2 : Int), .int .i64 (t 3 : Int), .int .i64 (t 4 : Int), .int .i64 (t 5 : Int), .int .i64 (t 6 : Int), .int .i64 (t 7 : Int), .slice ao' n' c'], .func (.func 63) #[] #[.pointer (some ⟨W.heap.size, 0, none⟩)]] w (OutE w.heap.size w (addedT ⟨s, xs⟩ ⟨t, ys⟩))) :=
    Lib.hid fun w hw => only_any g72 (mer2_any _ s _ w (TA.out.keep hw)) t ao' n' c' ys (E2.out.keep hw) (by omega)
  have L1 : Hid ((keptT ⟨s, xs⟩ ⟨t, ys⟩).length ≤ 400000 ∧ (addedT ⟨s, xs⟩ ⟨t, ys⟩).length ≤ 400000) := Lib.hid ⟨by
    have e := h1.1
    exact Nat.le_trans (List.length_filter_le _ _) (by show xs.length ≤ _; omega), by
    have e := h2.1
    exact Nat.le_trans (List.length_filter_le _ _) (by show ys.length ≤ _; omega)⟩
  have C3 : Hid (∀ (b : Nat) (a1 a2 : Option Addr) (k1 k2 : Nat) (w : World), El w a1 (keptT ⟨s, xs⟩ ⟨t, ys⟩).length (keptT ⟨s, xs⟩ ⟨t, ys⟩) → El w a2 (addedT ⟨s, xs⟩ ⟨t, ys⟩).length (addedT ⟨s, xs⟩ ⟨t, ys⟩) → w.cell? ⟨b, 0, none⟩ = some (.slice a1 (keptT ⟨s, xs⟩ ⟨t, ys⟩).length k1) → w.cell? ⟨b, 1, none⟩ = some (.slice a2 (addedT ⟨s, xs⟩ ⟨t, ys⟩).length k2) →
      Calls Try.prog 55 #[.func (.func 56) #[] #[], .slice (some ⟨b, 0, none⟩) 2 2] w (OutE w.heap.size w (merT ⟨s, xs⟩ ⟨t, ys⟩).L)) :=
    Lib.hid fun b a1 a2 k1 k2 w e1 e2 hc1 hc2 => sorted_any b a1 a2 _ _ k1 k2 _ _ _ w e1 e2 hc1 hc2 (by have := L1.out.1; omega) (by have := L1.out.2; omega) (kept_added ha hb) (mer_sorted ha hb) (fun e => mem_mer0 ha hb)
  have HV := Lib.hid hV
  have hbv : W.heap.size + 1 + 1 < V.heap.size := (Array.getElem?_eq_some_iff.1 TR.out).1
  obtain ⟨r0, r1, r2, r3, r4, r5, r6, r7, r8⟩ := cell_nine TA.out
  obtain ⟨u0, u1, u2, u3, u4, u5, u6, u7, u8⟩ := cell_nine TB.out
  clear hV h1 h2 ha hb L1
  unfold tabV
  show Calls _ _ _ _ (OutT W ⟨fun i => max (s i) (t i), (merT ⟨s, xs⟩ ⟨t, ys⟩).L⟩)
  generalize (merT ⟨s, xs⟩ ⟨t, ys⟩).L = M at C3 ⊢
  generalize keptT ⟨s, xs⟩ ⟨t, ys⟩ = K1 at C1 C3
  generalize addedT ⟨s, xs⟩ ⟨t, ys⟩ = K2 at C2 C3
  go_enter Try.func25, Try.ntmps25
  go_upto_region 1 with fail
  rw [← HV.out]
  go_upto_region 2 with ((go_at_call 59; refine (C1.out V (Below.refl _ _)).mono ?_; rintro e w1 ⟨a1, k1, rfl, hel, hb1⟩; have HE1 := Lib.hid hel; have B1 := Lib.hid hb1; clear hel hb1))
  obtain ⟨v0, v1, v2, v3, v4, v5, v6, v7, v8⟩ := cell_nine (TB.out.keep B1.out)
  obtain ⟨p0, p1, p2, p3, p4, p5, p6, p7, p8⟩ := cell_nine (TA.out.keep B1.out)
  clear r0 r1 r2 r3 r4 r5 r6 r7 r8 u0 u1 u2 u3 u4 u5 u6 u7 u8
  go_upto_region 3 with ((go_at_call 59; refine (C2.out w1 B1.out).mono ?_; rintro e w2 ⟨a2, k2, rfl, hel, hb2⟩; have HE2 := Lib.hid hel; have B2 := Lib.hid (below_then B1.out hb2); have HE12 := Lib.hid (HE1.out.keep hb2); clear hel hb2))
  clear v0 v1 v2 v3 v4 v5 v6 v7 v8 p0 p1 p2 p3 p4 p5 p6 p7 p8
  obtain ⟨r0, r1, r2, r3, r4, r5, r6, r7, r8⟩ := cell_nine (TA.out.keep B2.out)
  obtain ⟨u0, u1, u2, u3, u4, u5, u6, u7, u8⟩ := cell_nine (TB.out.keep B2.out)
  go_wp2_with (first
    | (go_at_call 64; refine (join_any s t _).mono ?_; rintro e w3 ⟨rfl, hb3⟩; have B3 := Lib.hid (below_then B2.out hb3); have HE13 := Lib.hid (HE12.out.keep hb3); have HE23 := Lib.hid (HE2.out.keep hb3); clear hb3)
    | (go_at_call 55; refine (C3.out _ a1 a2 k1 k2 _ (HE13.out.keep (box_below _ _)) (HE23.out.keep (box_below _ _)) (pair_new _ _ _ _).1 (pair_new _ _ _ _).2).mono ?_; rintro e w4 ⟨a4, k4, rfl, hel4, hb4⟩; have HE4 := Lib.hid hel4; have B4 := Lib.hid (below_then (below_then B3.out (box_below _ _)) hb4); have HR := Lib.hid (row_keep B4.out TR.out); obtain ⟨q0, q1, q2, q3, q4, q5, q6, q7, q8⟩ := cell_nine HR.out; have f0 := free_nine HR.out 0; have f1 := free_nine HR.out 1; have f2 := free_nine HR.out 2; have f3 := free_nine HR.out 3; have f4 := free_nine HR.out 4; have f5 := free_nine HR.out 5; have f6 := free_nine HR.out 6; have f7 := free_nine HR.out 7; have f8 := free_nine HR.out 8; clear hel4 hb4))
  refine bodyPost_ret (v := tabV (fun i => max (s i) (t i)) (.slice a4 M.length k4)) (results_cell_row Try.results25 _ _ (W.heap.size + 1 + 1) 34 (tabC (fun i => max (s i) (t i)) (.slice a4 M.length k4)) (0, 0) _ rfl (set_nine HR.out) Try.underlying34 (by kernel_rfl) (by kernel_rfl)) rfl ?_
  exact ⟨a4, M.length, k4, rfl, El.only HE4.out q0 (fun b o hb => cell_set9 _ _ _ _ _ _ _ _ _ _ _ _ _ hb) (by simp), below_set9 _ _ _ _ _ _ _ _ _ (HB.out.trans (B4.out.mono HB.out.size)) (by omega)⟩
end Go.Proofs.Ytpghehckojdgeaa

/- The program's Covers. (By gen_cov.py.) -/
set_option linter.unusedVariables false
set_option linter.unusedSimpArgs false
namespace Go.Proofs.Ytpghehckojdgeaa
open Go.RowKit Go.Shelf Go.Sort

/-- the same numbers and the same entries -/
noncomputable def sameT (a b : Tab) : Bool := sameN a.seen b.seen && eqL a.L b.L
theorem sameT_iff {m n : Nat} {a b : Tab} (ha : a.Ok m) (hb : b.Ok n) : sameT a b = true ↔ a = b := by
  unfold sameT eqL
  rw [Bool.and_eq_true, sameN_iff]
  simp only [decide_eq_true_eq]
  constructor
  · rintro ⟨h1, h2⟩
    exact Tab.ext' (fun i => by
      by_cases hi : i < 8
      · exact h1 i hi
      · rw [ha.out i (by omega), hb.out i (by omega)]) h2
  · rintro rfl; exact ⟨fun _ _ => rfl, rfl⟩

set_option maxRecDepth 100000 in
set_option maxHeartbeats 8000000 in
theorem Covers_any (m q : Nat) (s t : Nat → Nat) (ao ao' : Option Addr) (n c n' c' : Nat) (xs ys : List Ent) (W : World) (h1 : El W ao n xs) (h2 : El W ao' n' ys) (hn : n ≤ 400000) (hn' : n' ≤ 400000) (ha : (Tab.mk s xs).Ok m) (hb : (Tab.mk t ys).Ok q) (hl : (merT ⟨s, xs⟩ ⟨t, ys⟩).L.length ≤ 800000) :
    Calls Try.prog 16 #[tabV s (.slice ao n c), tabV t (.slice ao' n' c')] W fun e w' => e = .returned (.bool (sameT (merT ⟨s, xs⟩ ⟨t, ys⟩) ⟨s, xs⟩)) ∧ Below W.heap.size W w' := by
  obtain ⟨V, hV⟩ : ∃ V, V = (W.alloc (.cells #[.int .i64 (s 0 : Int), .int .i64 (s 1 : Int), .int .i64 (s 2 : Int), .int .i64 (s 3 : Int), .int .i64 (s 4 : Int), .int .i64 (s 5 : Int), .int .i64 (s 6 : Int), .int .i64 (s 7 : Int), .slice ao n c] 34)).alloc (.cells #[.int .i64 (t 0 : Int), .int .i64 (t 1 : Int), .int .i64 (t 2 : Int), .int .i64 (t 3 : Int), .int .i64 (t 4 : Int), .int .i64 (t 5 : Int), .int .i64 (t 6 : Int), .int .i64 (t 7 : Int), .slice ao' n' c'] 34) := ⟨_, rfl⟩
  have HB : Hid (Below W.heap.size W V) := Lib.hid (by rw [hV]; exact below2 W _ _)
  have TA : Hid (TabAt V W.heap.size s (.slice ao n c)) := Lib.hid (by unfold TabAt; rw [hV]; exact block1 W _ _)
  have TB : Hid (TabAt V (W.heap.size + 1) t (.slice ao' n' c')) := Lib.hid (by unfold TabAt; rw [hV]; exact block2 W _ _)
  have E1 := Lib.hid (h1.keep HB.out)
  have E2 := Lib.hid (h2.keep HB.out)
  have CM : Hid (∀ w, Below V.heap.size V w → Calls Try.prog 25 #[tabV s (.slice ao n c), tabV t (.slice ao' n' c')] w (OutT w (merT ⟨s, xs⟩ ⟨t, ys⟩))) :=
    Lib.hid fun w hw => Merge_any m q s t ao ao' n c n' c' xs ys w (E1.out.keep hw) (E2.out.keep hw) hn hn' ha hb
  have CE : Hid (∀ (a1 : Option Addr) (k1 c1 : Nat) w, Below V.heap.size V w → El w a1 k1 (merT ⟨s, xs⟩ ⟨t, ys⟩).L → Calls Try.prog 14 #[tabV (merT ⟨s, xs⟩ ⟨t, ys⟩).seen (.slice a1 k1 c1), tabV s (.slice ao n c)] w fun e w' => e = .returned (.bool (sameT (merT ⟨s, xs⟩ ⟨t, ys⟩) ⟨s, xs⟩)) ∧ Below w.heap.size w w') :=
    Lib.hid fun a1 k1 c1 w hw he => Equal_any _ s a1 ao k1 c1 n c _ xs w he (E1.out.keep hw) (by rw [← he.1]; omega) (by omega)
  have HV := Lib.hid hV
  obtain ⟨r0, r1, r2, r3, r4, r5, r6, r7, r8⟩ := cell_nine TA.out
  obtain ⟨u0, u1, u2, u3, u4, u5, u6, u7, u8⟩ := cell_nine TB.out
  clear hV h1 h2 ha hb hl TA TB
  generalize sameT (merT ⟨s, xs⟩ ⟨t, ys⟩) ⟨s, xs⟩ = b at CE ⊢
  generalize merT ⟨s, xs⟩ ⟨t, ys⟩ = M at CM CE
  unfold tabV at *
  go_enter Try.func16, Try.ntmps16
  go_upto_region 1 with fail
  rw [← HV.out]
  go_region_held3 (fun w' => w'.cell? ⟨W.heap.size, 0, none⟩ = some (.int .i64 (s 0 : Int)) ∧ w'.cell? ⟨W.heap.size, 1, none⟩ = some (.int .i64 (s 1 : Int)) ∧ w'.cell? ⟨W.heap.size, 2, none⟩ = some (.int .i64 (s 2 : Int)) ∧ w'.cell? ⟨W.heap.size, 3, none⟩ = some (.int .i64 (s 3 : Int)) ∧ w'.cell? ⟨W.heap.size, 4, none⟩ = some (.int .i64 (s 4 : Int)) ∧ w'.cell? ⟨W.heap.size, 5, none⟩ = some (.int .i64 (s 5 : Int)) ∧ w'.cell? ⟨W.heap.size, 6, none⟩ = some (.int .i64 (s 6 : Int)) ∧ w'.cell? ⟨W.heap.size, 7, none⟩ = some (.int .i64 (s 7 : Int)) ∧ w'.cell? ⟨W.heap.size, 8, none⟩ = some (.slice ao n c) ∧ w'.cell? ⟨W.heap.size + 1, 0, none⟩ = some (.int .i64 (t 0 : Int)) ∧ w'.cell? ⟨W.heap.size + 1, 1, none⟩ = some (.int .i64 (t 1 : Int)) ∧ w'.cell? ⟨W.heap.size + 1, 2, none⟩ = some (.int .i64 (t 2 : Int)) ∧ w'.cell? ⟨W.heap.size + 1, 3, none⟩ = some (.int .i64 (t 3 : Int)) ∧ w'.cell? ⟨W.heap.size + 1, 4, none⟩ = some (.int .i64 (t 4 : Int)) ∧ w'.cell? ⟨W.heap.size + 1, 5, none⟩ = some (.int .i64 (t 5 : Int)) ∧ w'.cell? ⟨W.heap.size + 1, 6, none⟩ = some (.int .i64 (t 6 : Int)) ∧ w'.cell? ⟨W.heap.size + 1, 7, none⟩ = some (.int .i64 (t 7 : Int)) ∧ w'.cell? ⟨W.heap.size + 1, 8, none⟩ = some (.slice ao' n' c')) (go_keep)
    (first
      | (go_at_call 14; refine (CE.out a1 k1 c1 w1 B1.out HE1.out).mono ?_; rintro e w2 ⟨rfl, hb2⟩; have B2 := Lib.hid (below_then B1.out hb2); have y0 := cell_later B2.out r0; have y1 := cell_later B2.out r1; have y2 := cell_later B2.out r2; have y3 := cell_later B2.out r3; have y4 := cell_later B2.out r4; have y5 := cell_later B2.out r5; have y6 := cell_later B2.out r6; have y7 := cell_later B2.out r7; have y8 := cell_later B2.out r8; have z0 := cell_later B2.out u0; have z1 := cell_later B2.out u1; have z2 := cell_later B2.out u2; have z3 := cell_later B2.out u3; have z4 := cell_later B2.out u4; have z5 := cell_later B2.out u5; have z6 := cell_later B2.out u6; have z7 := cell_later B2.out u7; have z8 := cell_later B2.out u8; clear hb2)
      | (go_at_call 25; refine (CM.out _ (below_drewN (Below.refl _ _) 1)).mono ?_; rintro e w1 ⟨a1, k1, c1, rfl, hel, hb1⟩; have B1 := Lib.hid (below_then (below_drewN (Below.refl V.heap.size V) 1) hb1); have HE1 := Lib.hid hel; have p0 := cell_later B1.out r0; have p1 := cell_later B1.out r1; have p2 := cell_later B1.out r2; have p3 := cell_later B1.out r3; have p4 := cell_later B1.out r4; have p5 := cell_later B1.out r5; have p6 := cell_later B1.out r6; have p7 := cell_later B1.out r7; have p8 := cell_later B1.out r8; have q0 := cell_later B1.out u0; have q1 := cell_later B1.out u1; have q2 := cell_later B1.out u2; have q3 := cell_later B1.out u3; have q4 := cell_later B1.out u4; have q5 := cell_later B1.out u5; have q6 := cell_later B1.out u6; have q7 := cell_later B1.out u7; have q8 := cell_later B1.out u8; clear hb1 hel))
  go_wp2
  go_ret
  exact ⟨rfl, HB.out.trans (B2.out.mono HB.out.size)⟩
end Go.Proofs.Ytpghehckojdgeaa

/- Slices of strings; the program's Get. (By gen_get.py.) -/
set_option linter.unusedVariables false
set_option linter.unusedSimpArgs false
namespace Go.Proofs.Ytpghehckojdgeaa
open Go.RowKit Go.Shelf Go.Sort

/-- the slice (ao, n) holds the strings ss -/
def Sl (w : World) (ao : Option Addr) (n : Nat) (ss : List ByteArray) : Prop := ss.length = n ∧ ((ao = none ∧ n = 0) ∨ ∃ g, ao = some ⟨g, 0, none⟩ ∧ g < w.heap.size ∧ ∀ i, i < n → w.cell? ⟨g, i, none⟩ = some (.string ss[i]!))
theorem Sl.keep {w w' : World} {ao : Option Addr} {n : Nat} {ss : List ByteArray} (h : Sl w ao n ss) (hb : Below w.heap.size w w') : Sl w' ao n ss := by
  obtain ⟨h1, h2⟩ := h
  refine ⟨h1, ?_⟩
  rcases h2 with h2 | ⟨g, h2, h3, h4⟩
  · exact .inl h2
  · exact .inr ⟨g, h2, Nat.lt_of_lt_of_le h3 hb.size, fun i hi => cell_later hb (h4 i hi)⟩
/-- an own row of strings -/
def OwnS (w : World) (base : Nat) (v : Value) (n : Nat) (ss : List ByteArray) : Prop := ss.length = n ∧ w.ownsRow base 9 1 v n (ss.map Value.string)
theorem OwnS.nil (w : World) (base : Nat) : OwnS w base (.slice none 0 0) 0 [] := ⟨rfl, World.ownsRow_nil _ _ _ _⟩
theorem OwnS.keep {w w' : World} {base n : Nat} {v : Value} {ss : List ByteArray} (h : OwnS w base v n ss) (hb : Below w.heap.size w w') : OwnS w' base v n ss := by
  refine ⟨h.1, h.2.1, ?_⟩
  rcases h.2.2 with h2 | ⟨g, cap, cur, h3, h4, h5, h6⟩
  · exact .inl h2
  · exact .inr ⟨g, cap, cur, h3, h4, (hb.block g (Array.getElem?_eq_some_iff.1 h5).1).trans h5, h6⟩
theorem OwnS.sl {w : World} {base n : Nat} {v : Value} {ss : List ByteArray} (h : OwnS w base v n ss) : ∃ ao cap, v = .slice ao n cap ∧ Sl w ao n ss := by
  obtain ⟨hl, h1, h2⟩ := h
  rcases h2 with ⟨rfl, rfl⟩ | ⟨g, cap, cur, rfl, hb, hg, hnc, hcm, hcs, ht⟩
  · exact ⟨none, 0, rfl, hl, .inl ⟨rfl, rfl⟩⟩
  · refine ⟨_, cap, rfl, hl, .inr ⟨g, rfl, (Array.getElem?_eq_some_iff.1 hg).1, fun i hi => ?_⟩⟩
    have : (ss.map Value.string)[i]? = some (.string ss[i]!) := by
      rw [List.getElem?_map, List.getElem?_eq_getElem (by omega), getElem!_pos ss i (by omega)]; rfl
    rw [← ht, List.getElem?_take] at this
    split at this
    · simp only [World.cell?, hg]
      simpa using this
    · cases this
theorem infoS : (Try.prog.info? 9).map (fun i => (i.zero, i.size, i.bytes)) = some (some (.string ⟨#[]⟩), 1, 16) := by kernel_rfl
/-- a string is appended to an own row -/
theorem wpList_appS {w1 : World} {ops : Array Oper} {rest : List Oper} {o : Oper} {a : Act} {Q : Exit → Act → World → Prop} (hgd : o.guard = none) (s x : Operand)
    (ho : o.op = .call { callee := .builtin .append, args := #[s, x], argTypes := #[38, 38] }) (w : World) (t : TypeId) (base : Nat) (v : Value) (n : Nat) (ss : List ByteArray) (z : ByteArray) (H : Nat) (hH : w.heap.size = H) (hw : w1 = w.alloc (.cells #[.string z] t)) (hs : a.eval s = v) (hown : OwnS w base v n ss)
    (hx : a.eval x = .slice (some ⟨H, 0, none⟩) 1 1) (hn : n ≤ 10000000) (hbase : base ≤ w.heap.size)
    (h : ∀ v' w', OwnS w' base v' (n + 1) (ss ++ [z]) → Below base w w' → wpList Try.prog ops Q rest (a.put o.dst v') w') :
    wpList Try.prog ops Q (o :: rest) a w1 := by
  subst hw hH
  obtain ⟨i0, hi, hz0, hz1, hz2⟩ := info_parts infoS
  refine wpList_append_own _ hgd s x 38 ho base 9 i0 _ 1 16 Try.underlying38 hi hz0 hz1 hz2 rfl (by decide) v n (ss.map Value.string) hs (World.ownsRow.alloc hown.2 _) ⟨w.heap.size, 0, none⟩ 1 1 [.string z] hx rfl ?_ (fun u hu => by simp at hu; subst hu; rfl) (by unfold maxLen; omega) (by omega) (by simp; omega) ?_
  · intro j u hj
    match j, hj with
    | 0, hj => simp at hj; subst hj; simp [Addr.add]
  · intro v' w' hr hg _
    refine h v' w' ⟨by rw [List.length_append, hown.1]; rfl, by rw [List.map_append]; exact hr⟩ ?_
    exact ((Below.refl base w).alloc hbase _).grown hg (by simp; omega) (fun j hj => (World.ownsRow.lt hown.2 j hj).1)

/-- a list of strings is returned -/
def OutS (W : World) (ss : List ByteArray) (e : Ending) (w' : World) : Prop := ∃ ao cap, e = .returned (.slice ao ss.length cap) ∧ Sl w' ao ss.length ss ∧ Below W.heap.size W w'

noncomputable def getL (xs : List Ent) (k : ByteArray) : List ByteArray := (xs.filter fun e => isKeyB k e).map Ent.val
theorem getL_snoc (xs : List Ent) (y : Ent) (k : ByteArray) : getL (xs ++ [y]) k = getL xs k ++ (if isKeyB k y then [y.val] else []) := by
  unfold getL
  rw [List.filter_append, List.map_append]
  cases h : isKeyB k y <;> simp [h]
theorem getL_len (xs : List Ent) (k : ByteArray) : (getL xs k).length ≤ xs.length := by
  unfold getL; rw [List.length_map]; exact List.length_filter_le _ _

set_option maxRecDepth 100000 in
set_option maxHeartbeats 4000000 in
theorem get_any (s : Nat → Nat) (ao : Option Addr) (n c : Nat) (xs : List Ent) (k : ByteArray) (W : World) (h : El W ao n xs) (hn : n ≤ 900000) :
    Calls Try.prog 12 #[tabV s (.slice ao n c), .string k] W (OutS W (getL xs k)) := by
  obtain ⟨V, hV⟩ : ∃ V, V = W.alloc (.cells #[.int .i64 (s 0 : Int), .int .i64 (s 1 : Int), .int .i64 (s 2 : Int), .int .i64 (s 3 : Int), .int .i64 (s 4 : Int), .int .i64 (s 5 : Int), .int .i64 (s 6 : Int), .int .i64 (s 7 : Int), .slice ao n c] 34) := ⟨_, rfl⟩
  have HB : Hid (Below W.heap.size W V) := Lib.hid (by rw [hV]; exact box_below W _)
  have r8 : V.cell? ⟨W.heap.size, 8, none⟩ = some (.slice ao n c) := (nine_cells (s := s) (sl := .slice ao n c) (ty := 34) (by rw [hV]; exact heap_alloc_new _ _)).2.2.2.2.2.2.2.2
  have HE := Lib.hid (h.keep HB.out)
  have HN := Lib.hid h.1
  have HV := Lib.hid hV
  have pn : (n : Int) ≤ 900000 := by omega
  clear hV h
  unfold tabV
  go_enter Try.func12, Try.ntmps12
  go_upto_region 1 with fail
  rw [← HV.out]
  go_wp2
  go_loopg [5, 7, 11] n (fun gg s5 s7 s11 wr => ∃ (j : Nat) (l : Nat), s11 = .int .i64 (j : Int) ∧ j ≤ n ∧ n - j ≤ gg ∧ l = (getL (xs.take j) k).length ∧ Hid (OwnS wr V.heap.size s5 l (getL (xs.take j) k)) ∧ Hid (Below V.heap.size V wr))
  case atStart => exact ⟨0, 0, rfl, Nat.zero_le _, by omega, rfl, Lib.hid (OwnS.nil _ _), Lib.hid (Below.refl _ _)⟩
  case round =>
    obtain ⟨j, l, rfl, hj, hgg, hl, HO, HBr⟩ := hrel
    have hl9 : l ≤ 900000 := by
      have h1 := getL_len (xs.take j) k
      have h2 := List.length_take_le j xs
      rw [hl]; omega
    have HL := Lib.hid hl
    clear hl
    by_cases hlt : j < n
    · have hltz : (j : Int) < (n : Int) := by omega
      obtain ⟨g, hg, hc⟩ : ∃ g, ao = some ⟨g, 0, none⟩ ∧ At4 wr g (j * 4) xs[j]! := by
        have he := HE.out.keep HBr.out
        rcases he.2 with ⟨_, h0⟩ | ⟨g, hg, hr⟩
        · omega
        · exact ⟨g, hg, hr.2 j (by rw [HN.out]; exact hlt)⟩
      have HSN : Hid (getL (xs.take (j + 1)) k = getL (xs.take j) k ++ (if isKeyB k xs[j]! then [xs[j]!.val] else [])) := Lib.hid (by rw [take_succ! (by rw [HN.out]; exact hlt), getL_snoc])
      obtain ⟨y, hy⟩ : ∃ y, y = xs[j]! := ⟨_, rfl⟩
      rw [← hy] at hc HSN
      have HY := Lib.hid hy
      clear hy
      obtain ⟨c0, c1, c2, c3⟩ := hc
      subst hg
      have q8 := cell_later HBr.out r8
      by_cases hk : y.key = k
      · have qk := str_eq hk
        have e : isKeyB k y = true := by unfold isKeyB; simp [hk]
        rw [e] at HSN
        clear hk e
        go_wp2_with (at_builtin; refine wpList_appS rfl _ _ rfl (wr.alloc (.cells #[.string y.key, .string y.val, .int .i64 (y.site : Int), .int .i64 (y.count : Int)] 82)) 9 V.heap.size _ l (getL (xs.take j) k) y.val (wr.heap.size + 1) (by simp) rfl rfl (HO.out.keep (box_below _ _)) rfl (by omega) (Nat.le_trans HBr.out.size (box_below wr (.cells #[.string y.key, .string y.val, .int .i64 (y.site : Int), .int .i64 (y.count : Int)] 82)).size) ?_; intro v2 w2 hown2 hb2; have HO2 := Lib.hid hown2; have HB2 := Lib.hid ((HBr.out.alloc HBr.out.size _).trans hb2); clear hown2 hb2)
        go_roundg (n - (j + 1))
        case measure => omega
        case rel =>
          refine ⟨j + 1, l + 1, by go_num, by omega, Nat.le_refl _, ?_, ?_, HB2⟩
          · rw [HSN.out, HL.out]; simp
          · rw [HSN.out]; exact Lib.hid (by simpa using HO2.out)
      · have qk := str_ne hk
        have e : isKeyB k y = false := by unfold isKeyB; simp [hk]
        rw [e] at HSN
        clear hk e
        go_wp2
        go_roundg (n - (j + 1))
        case measure => omega
        case rel =>
          refine ⟨j + 1, l, by go_num, by omega, Nat.le_refl _, ?_, ?_, Lib.hid (HBr.out.alloc HBr.out.size _)⟩
          · rw [HSN.out, HL.out]; simp
          · rw [HSN.out]; exact Lib.hid (by simpa using HO.out.keep (box_below _ _))
    · obtain rfl : j = n := by omega
      have hltz : ¬ (j : Int) < (j : Int) := by omega
      go_wp2
      go_ret
      obtain ⟨a1, k1, hv, hs⟩ := HO.out.sl
      rw [List.take_of_length_le (by rw [HN.out]; exact Nat.le_refl _)] at hs HL
      have hL := HL.out
      subst hL
      exact ⟨a1, k1, by rw [← hv]; rfl, hs, HB.out.trans (HBr.out.mono HB.out.size)⟩
end Go.Proofs.Ytpghehckojdgeaa
