/- Part 6 of the contracts: STables, SLat2, SStrs. -/
import Derived.IntWalk
import Derived.Test.YtkdbdocipijncaaPart5

/- The law's tables. (By gen_tables.py.) -/
set_option linter.unusedVariables false
set_option linter.unusedSimpArgs false
namespace Go.Proofs.Ytkdbdocipijncaa
open Go.RowKit Go.Shelf Go.Sort

/-- block B holds the table of a slot -/
def BoxAt (w : World) (B : Nat) (x : Slot) : Prop := w.heap[B]? = some (.cells #[.int .i64 (x.T.seen 0 : Int), .int .i64 (x.T.seen 1 : Int), .int .i64 (x.T.seen 2 : Int), .int .i64 (x.T.seen 3 : Int), .int .i64 (x.T.seen 4 : Int), .int .i64 (x.T.seen 5 : Int), .int .i64 (x.T.seen 6 : Int), .int .i64 (x.T.seen 7 : Int), .slice x.ao x.n x.c] 34 (0, 0))
theorem BoxAt.keep {w w' : World} {B : Nat} {x : Slot} (h : BoxAt w B x) (hb : Below w.heap.size w w') : BoxAt w' B x := row_keep hb h
theorem tabs_one (w : World) (g : Nat) (hg : w.heap[g]? = some (.cells #[.int .i64 0, .int .i64 0, .int .i64 0, .int .i64 0, .int .i64 0, .int .i64 0, .int .i64 0, .int .i64 0, .slice none 0 0] 34 (0, 0))) (base : Nat) (hb : base ≤ g) : Tabs w base 0 g 1 1 [⟨Tab.none, none, 0, 0⟩] :=
  ⟨rfl, Nat.le_refl _, ⟨rfl, .inr ⟨g, 1, _, rfl, hb, hg, Nat.le_refl _, by unfold maxLen; omega, rfl, rfl⟩⟩, fun x hx => by
    rw [List.mem_singleton] at hx
    subst hx
    exact Held.none w⟩

/-- Put, whatever it is given -/
theorem putCase {W : World} {m : Nat} {T : Tab} {ao : Option Addr} {n : Nat} (c : Nat) (h : Held W m T ao n) (hm : m ≤ 40000) (site : Int) (k v : ByteArray) :
    ∃ er : Int, ∀ w, Below W.heap.size W w → Calls Try.prog 29 #[.agg #[.int .i64 (T.seen 0 : Int), .int .i64 (T.seen 1 : Int), .int .i64 (T.seen 2 : Int), .int .i64 (T.seen 3 : Int), .int .i64 (T.seen 4 : Int), .int .i64 (T.seen 5 : Int), .int .i64 (T.seen 6 : Int), .int .i64 (T.seen 7 : Int), .slice ao n c], .int .i64 site, .string k, .string v] w fun e w' => ∃ T4 a4 n4 c4, e = .returned (.tuple #[.agg #[.int .i64 (T4.seen 0 : Int), .int .i64 (T4.seen 1 : Int), .int .i64 (T4.seen 2 : Int), .int .i64 (T4.seen 3 : Int), .int .i64 (T4.seen 4 : Int), .int .i64 (T4.seen 5 : Int), .int .i64 (T4.seen 6 : Int), .int .i64 (T4.seen 7 : Int), .slice a4 n4 c4], .int .i64 er]) ∧ Held w' (m + 1) T4 a4 n4 ∧ Below w.heap.size w w' := by
  have err : ∀ er : Int, (∀ w, Below W.heap.size W w → Calls Try.prog 29 #[.agg #[.int .i64 (T.seen 0 : Int), .int .i64 (T.seen 1 : Int), .int .i64 (T.seen 2 : Int), .int .i64 (T.seen 3 : Int), .int .i64 (T.seen 4 : Int), .int .i64 (T.seen 5 : Int), .int .i64 (T.seen 6 : Int), .int .i64 (T.seen 7 : Int), .slice ao n c], .int .i64 site, .string k, .string v] w fun e w' => e = .returned (.tuple #[zeroT, .int .i64 er]) ∧ Below w.heap.size w w') → ∀ w, Below W.heap.size W w → Calls Try.prog 29 #[.agg #[.int .i64 (T.seen 0 : Int), .int .i64 (T.seen 1 : Int), .int .i64 (T.seen 2 : Int), .int .i64 (T.seen 3 : Int), .int .i64 (T.seen 4 : Int), .int .i64 (T.seen 5 : Int), .int .i64 (T.seen 6 : Int), .int .i64 (T.seen 7 : Int), .slice ao n c], .int .i64 site, .string k, .string v] w fun e w' => ∃ T4 a4 n4 c4, e = .returned (.tuple #[.agg #[.int .i64 (T4.seen 0 : Int), .int .i64 (T4.seen 1 : Int), .int .i64 (T4.seen 2 : Int), .int .i64 (T4.seen 3 : Int), .int .i64 (T4.seen 4 : Int), .int .i64 (T4.seen 5 : Int), .int .i64 (T4.seen 6 : Int), .int .i64 (T4.seen 7 : Int), .slice a4 n4 c4], .int .i64 er]) ∧ Held w' (m + 1) T4 a4 n4 ∧ Below w.heap.size w w' := fun er hw w hb =>
    (hw w hb).mono fun e w' ⟨he, hb'⟩ => ⟨Tab.none, none, 0, 0, he, (Held.none w').more (Nat.zero_le _), hb'⟩
  by_cases hs : site < 0 ∨ 8 ≤ site
  · exact ⟨80, err 80 fun w _ => put_site T.seen ao n c site k v w hs⟩
  · by_cases hk : (1 ≤ k.size ∧ k.size ≤ 64) ∧ v.size ≤ 64
    · obtain ⟨i, rfl⟩ := Int.eq_ofNat_of_zero_le (show 0 ≤ site by omega)
      have hi : i < 8 := by omega
      cases hr : room T.L k
      · exact ⟨5, err 5 fun w hb => putA_full c (h.keep hb) hm i hi k v hk.1 hk.2 hr⟩
      · exact ⟨0, fun w hb => (putA c (h.keep hb) hm i hi k v hk.1 hk.2 hr).mono fun e w' ⟨T4, a4, n4, c4, he, _, hh, hb'⟩ => ⟨T4, a4, n4, c4, he, hh, hb'⟩⟩
    · exact ⟨2, err 2 fun w _ => put_arg T.seen ao n c site k v w (by omega) hk⟩
theorem box_new {W w : World} {m : Nat} {T : Tab} {ao : Option Addr} {n c : Nat} {ty : TypeId} (hb : Below W.heap.size W w) (h : Held w m T ao n) : (w.alloc (.cells #[.int .i64 ((Slot.mk T ao n c).T.seen 0 : Int), .int .i64 ((Slot.mk T ao n c).T.seen 1 : Int), .int .i64 ((Slot.mk T ao n c).T.seen 2 : Int), .int .i64 ((Slot.mk T ao n c).T.seen 3 : Int), .int .i64 ((Slot.mk T ao n c).T.seen 4 : Int), .int .i64 ((Slot.mk T ao n c).T.seen 5 : Int), .int .i64 ((Slot.mk T ao n c).T.seen 6 : Int), .int .i64 ((Slot.mk T ao n c).T.seen 7 : Int), .slice (Slot.mk T ao n c).ao (Slot.mk T ao n c).n (Slot.mk T ao n c).c] ty)).heap[w.heap.size]? = some (.cells #[.int .i64 ((Slot.mk T ao n c).T.seen 0 : Int), .int .i64 ((Slot.mk T ao n c).T.seen 1 : Int), .int .i64 ((Slot.mk T ao n c).T.seen 2 : Int), .int .i64 ((Slot.mk T ao n c).T.seen 3 : Int), .int .i64 ((Slot.mk T ao n c).T.seen 4 : Int), .int .i64 ((Slot.mk T ao n c).T.seen 5 : Int), .int .i64 ((Slot.mk T ao n c).T.seen 6 : Int), .int .i64 ((Slot.mk T ao n c).T.seen 7 : Int), .slice (Slot.mk T ao n c).ao (Slot.mk T ao n c).n (Slot.mk T ao n c).c] ty (0, 0)) ∧ Held (w.alloc (.cells #[.int .i64 ((Slot.mk T ao n c).T.seen 0 : Int), .int .i64 ((Slot.mk T ao n c).T.seen 1 : Int), .int .i64 ((Slot.mk T ao n c).T.seen 2 : Int), .int .i64 ((Slot.mk T ao n c).T.seen 3 : Int), .int .i64 ((Slot.mk T ao n c).T.seen 4 : Int), .int .i64 ((Slot.mk T ao n c).T.seen 5 : Int), .int .i64 ((Slot.mk T ao n c).T.seen 6 : Int), .int .i64 ((Slot.mk T ao n c).T.seen 7 : Int), .slice (Slot.mk T ao n c).ao (Slot.mk T ao n c).n (Slot.mk T ao n c).c] ty)) m T ao n ∧ Below W.heap.size W (w.alloc (.cells #[.int .i64 ((Slot.mk T ao n c).T.seen 0 : Int), .int .i64 ((Slot.mk T ao n c).T.seen 1 : Int), .int .i64 ((Slot.mk T ao n c).T.seen 2 : Int), .int .i64 ((Slot.mk T ao n c).T.seen 3 : Int), .int .i64 ((Slot.mk T ao n c).T.seen 4 : Int), .int .i64 ((Slot.mk T ao n c).T.seen 5 : Int), .int .i64 ((Slot.mk T ao n c).T.seen 6 : Int), .int .i64 ((Slot.mk T ao n c).T.seen 7 : Int), .slice (Slot.mk T ao n c).ao (Slot.mk T ao n c).n (Slot.mk T ao n c).c] ty)) :=
  ⟨heap_alloc_new _ _, h.keep (box_below _ _), below_then hb (box_below _ _)⟩
theorem held_set9 {w : World} {m D : Nat} {T : Tab} {ao : Option Addr} {n : Nat} {ty : TypeId} {x0 x1 x2 x3 x4 x5 x6 x7 x8 : Value} (h : Held w m T ao n) (hD : w.heap[D]? = some (.cells #[.int .i64 0, .int .i64 0, .int .i64 0, .int .i64 0, .int .i64 0, .int .i64 0, .int .i64 0, .int .i64 0, .slice none 0 0] ty (0, 0))) : Held (((((((((w.setCell ⟨D, 0, none⟩ x0).setCell ⟨D, 1, none⟩ x1).setCell ⟨D, 2, none⟩ x2).setCell ⟨D, 3, none⟩ x3).setCell ⟨D, 4, none⟩ x4).setCell ⟨D, 5, none⟩ x5).setCell ⟨D, 6, none⟩ x6).setCell ⟨D, 7, none⟩ x7).setCell ⟨D, 8, none⟩ x8) m T ao n :=
  ⟨El.only h.el (cell_nine hD).1 (fun b o hb => cell_set9 _ _ _ _ _ _ _ _ _ _ _ _ _ hb) (by simp), h.ok⟩
theorem boxNew {W w : World} {m : Nat} (T : Tab) (ao : Option Addr) (n c : Nat) (hb : Below W.heap.size W w) (h : Held w m T ao n) : BoxAt (w.alloc (.cells #[.int .i64 (T.seen 0 : Int), .int .i64 (T.seen 1 : Int), .int .i64 (T.seen 2 : Int), .int .i64 (T.seen 3 : Int), .int .i64 (T.seen 4 : Int), .int .i64 (T.seen 5 : Int), .int .i64 (T.seen 6 : Int), .int .i64 (T.seen 7 : Int), .slice ao n c] 34)) w.heap.size ⟨T, ao, n, c⟩ ∧ Held (w.alloc (.cells #[.int .i64 (T.seen 0 : Int), .int .i64 (T.seen 1 : Int), .int .i64 (T.seen 2 : Int), .int .i64 (T.seen 3 : Int), .int .i64 (T.seen 4 : Int), .int .i64 (T.seen 5 : Int), .int .i64 (T.seen 6 : Int), .int .i64 (T.seen 7 : Int), .slice ao n c] 34)) m T ao n ∧ Below W.heap.size W (w.alloc (.cells #[.int .i64 (T.seen 0 : Int), .int .i64 (T.seen 1 : Int), .int .i64 (T.seen 2 : Int), .int .i64 (T.seen 3 : Int), .int .i64 (T.seen 4 : Int), .int .i64 (T.seen 5 : Int), .int .i64 (T.seen 6 : Int), .int .i64 (T.seen 7 : Int), .slice ao n c] 34)) :=
  ⟨heap_alloc_new _ _, h.keep (box_below _ _), below_then hb (box_below _ _)⟩
theorem boxSet {W w : World} {m : Nat} (T : Tab) (ao : Option Addr) (n c D : Nat) (hb : Below W.heap.size W w) (h : Held w m T ao n) (hr : w.heap[D]? = some (.cells #[.int .i64 0, .int .i64 0, .int .i64 0, .int .i64 0, .int .i64 0, .int .i64 0, .int .i64 0, .int .i64 0, .slice none 0 0] 34 (0, 0))) (hD : W.heap.size ≤ D) : BoxAt (((((((((w.setCell ⟨D, 0, none⟩ (.int .i64 (T.seen 0 : Int))).setCell ⟨D, 1, none⟩ (.int .i64 (T.seen 1 : Int))).setCell ⟨D, 2, none⟩ (.int .i64 (T.seen 2 : Int))).setCell ⟨D, 3, none⟩ (.int .i64 (T.seen 3 : Int))).setCell ⟨D, 4, none⟩ (.int .i64 (T.seen 4 : Int))).setCell ⟨D, 5, none⟩ (.int .i64 (T.seen 5 : Int))).setCell ⟨D, 6, none⟩ (.int .i64 (T.seen 6 : Int))).setCell ⟨D, 7, none⟩ (.int .i64 (T.seen 7 : Int))).setCell ⟨D, 8, none⟩ (.slice ao n c)) D ⟨T, ao, n, c⟩ ∧ Held (((((((((w.setCell ⟨D, 0, none⟩ (.int .i64 (T.seen 0 : Int))).setCell ⟨D, 1, none⟩ (.int .i64 (T.seen 1 : Int))).setCell ⟨D, 2, none⟩ (.int .i64 (T.seen 2 : Int))).setCell ⟨D, 3, none⟩ (.int .i64 (T.seen 3 : Int))).setCell ⟨D, 4, none⟩ (.int .i64 (T.seen 4 : Int))).setCell ⟨D, 5, none⟩ (.int .i64 (T.seen 5 : Int))).setCell ⟨D, 6, none⟩ (.int .i64 (T.seen 6 : Int))).setCell ⟨D, 7, none⟩ (.int .i64 (T.seen 7 : Int))).setCell ⟨D, 8, none⟩ (.slice ao n c)) m T ao n ∧ Below W.heap.size W (((((((((w.setCell ⟨D, 0, none⟩ (.int .i64 (T.seen 0 : Int))).setCell ⟨D, 1, none⟩ (.int .i64 (T.seen 1 : Int))).setCell ⟨D, 2, none⟩ (.int .i64 (T.seen 2 : Int))).setCell ⟨D, 3, none⟩ (.int .i64 (T.seen 3 : Int))).setCell ⟨D, 4, none⟩ (.int .i64 (T.seen 4 : Int))).setCell ⟨D, 5, none⟩ (.int .i64 (T.seen 5 : Int))).setCell ⟨D, 6, none⟩ (.int .i64 (T.seen 6 : Int))).setCell ⟨D, 7, none⟩ (.int .i64 (T.seen 7 : Int))).setCell ⟨D, 8, none⟩ (.slice ao n c)) :=
  ⟨set_nine hr, held_set9 h hr, below_set9 _ _ _ _ _ _ _ _ _ hb hD⟩
theorem keep_far9 {w : World} {T b o : Nat} {v x0 x1 x2 x3 x4 x5 x6 x7 x8 : Value} (h : w.cell? ⟨b, o, none⟩ = some v) (hb : b ≠ T) : (((((((((w.setCell ⟨T, 0, none⟩ x0).setCell ⟨T, 1, none⟩ x1).setCell ⟨T, 2, none⟩ x2).setCell ⟨T, 3, none⟩ x3).setCell ⟨T, 4, none⟩ x4).setCell ⟨T, 5, none⟩ x5).setCell ⟨T, 6, none⟩ x6).setCell ⟨T, 7, none⟩ x7).setCell ⟨T, 8, none⟩ x8).cell? ⟨b, o, none⟩ = some v := (cell_set9 w T b o x0 x1 x2 x3 x4 x5 x6 x7 x8 hb).trans h
theorem two_boxes (w : World) (x y : Slot) : BoxAt ((w.alloc (.cells #[.int .i64 (x.T.seen 0 : Int), .int .i64 (x.T.seen 1 : Int), .int .i64 (x.T.seen 2 : Int), .int .i64 (x.T.seen 3 : Int), .int .i64 (x.T.seen 4 : Int), .int .i64 (x.T.seen 5 : Int), .int .i64 (x.T.seen 6 : Int), .int .i64 (x.T.seen 7 : Int), .slice x.ao x.n x.c] 34)).alloc (.cells #[.int .i64 (y.T.seen 0 : Int), .int .i64 (y.T.seen 1 : Int), .int .i64 (y.T.seen 2 : Int), .int .i64 (y.T.seen 3 : Int), .int .i64 (y.T.seen 4 : Int), .int .i64 (y.T.seen 5 : Int), .int .i64 (y.T.seen 6 : Int), .int .i64 (y.T.seen 7 : Int), .slice y.ao y.n y.c] 34)).drew w.heap.size x ∧ BoxAt ((w.alloc (.cells #[.int .i64 (x.T.seen 0 : Int), .int .i64 (x.T.seen 1 : Int), .int .i64 (x.T.seen 2 : Int), .int .i64 (x.T.seen 3 : Int), .int .i64 (x.T.seen 4 : Int), .int .i64 (x.T.seen 5 : Int), .int .i64 (x.T.seen 6 : Int), .int .i64 (x.T.seen 7 : Int), .slice x.ao x.n x.c] 34)).alloc (.cells #[.int .i64 (y.T.seen 0 : Int), .int .i64 (y.T.seen 1 : Int), .int .i64 (y.T.seen 2 : Int), .int .i64 (y.T.seen 3 : Int), .int .i64 (y.T.seen 4 : Int), .int .i64 (y.T.seen 5 : Int), .int .i64 (y.T.seen 6 : Int), .int .i64 (y.T.seen 7 : Int), .slice y.ao y.n y.c] 34)).drew (w.heap.size + 1) y ∧ Below w.heap.size w ((w.alloc (.cells #[.int .i64 (x.T.seen 0 : Int), .int .i64 (x.T.seen 1 : Int), .int .i64 (x.T.seen 2 : Int), .int .i64 (x.T.seen 3 : Int), .int .i64 (x.T.seen 4 : Int), .int .i64 (x.T.seen 5 : Int), .int .i64 (x.T.seen 6 : Int), .int .i64 (x.T.seen 7 : Int), .slice x.ao x.n x.c] 34)).alloc (.cells #[.int .i64 (y.T.seen 0 : Int), .int .i64 (y.T.seen 1 : Int), .int .i64 (y.T.seen 2 : Int), .int .i64 (y.T.seen 3 : Int), .int .i64 (y.T.seen 4 : Int), .int .i64 (y.T.seen 5 : Int), .int .i64 (y.T.seen 6 : Int), .int .i64 (y.T.seen 7 : Int), .slice y.ao y.n y.c] 34)).drew :=
  ⟨block1 w _ _, block2 w _ _, (below2 w _ _).drew⟩
theorem two_boxes' (w : World) (x y : Slot) : BoxAt ((w.alloc (.cells #[.int .i64 (y.T.seen 0 : Int), .int .i64 (y.T.seen 1 : Int), .int .i64 (y.T.seen 2 : Int), .int .i64 (y.T.seen 3 : Int), .int .i64 (y.T.seen 4 : Int), .int .i64 (y.T.seen 5 : Int), .int .i64 (y.T.seen 6 : Int), .int .i64 (y.T.seen 7 : Int), .slice y.ao y.n y.c] 34)).alloc (.cells #[.int .i64 (x.T.seen 0 : Int), .int .i64 (x.T.seen 1 : Int), .int .i64 (x.T.seen 2 : Int), .int .i64 (x.T.seen 3 : Int), .int .i64 (x.T.seen 4 : Int), .int .i64 (x.T.seen 5 : Int), .int .i64 (x.T.seen 6 : Int), .int .i64 (x.T.seen 7 : Int), .slice x.ao x.n x.c] 34)).drew (w.heap.size + 1) x ∧ BoxAt ((w.alloc (.cells #[.int .i64 (y.T.seen 0 : Int), .int .i64 (y.T.seen 1 : Int), .int .i64 (y.T.seen 2 : Int), .int .i64 (y.T.seen 3 : Int), .int .i64 (y.T.seen 4 : Int), .int .i64 (y.T.seen 5 : Int), .int .i64 (y.T.seen 6 : Int), .int .i64 (y.T.seen 7 : Int), .slice y.ao y.n y.c] 34)).alloc (.cells #[.int .i64 (x.T.seen 0 : Int), .int .i64 (x.T.seen 1 : Int), .int .i64 (x.T.seen 2 : Int), .int .i64 (x.T.seen 3 : Int), .int .i64 (x.T.seen 4 : Int), .int .i64 (x.T.seen 5 : Int), .int .i64 (x.T.seen 6 : Int), .int .i64 (x.T.seen 7 : Int), .slice x.ao x.n x.c] 34)).drew w.heap.size y ∧ Below w.heap.size w ((w.alloc (.cells #[.int .i64 (y.T.seen 0 : Int), .int .i64 (y.T.seen 1 : Int), .int .i64 (y.T.seen 2 : Int), .int .i64 (y.T.seen 3 : Int), .int .i64 (y.T.seen 4 : Int), .int .i64 (y.T.seen 5 : Int), .int .i64 (y.T.seen 6 : Int), .int .i64 (y.T.seen 7 : Int), .slice y.ao y.n y.c] 34)).alloc (.cells #[.int .i64 (x.T.seen 0 : Int), .int .i64 (x.T.seen 1 : Int), .int .i64 (x.T.seen 2 : Int), .int .i64 (x.T.seen 3 : Int), .int .i64 (x.T.seen 4 : Int), .int .i64 (x.T.seen 5 : Int), .int .i64 (x.T.seen 6 : Int), .int .i64 (x.T.seen 7 : Int), .slice x.ao x.n x.c] 34)).drew :=
  ⟨block2 w _ _, block1 w _ _, (below2 w _ _).drew⟩

set_option maxRecDepth 100000 in
set_option maxHeartbeats 16000000 in
theorem tables_any (ao : Option Addr) (la ca : Nat) (xs : List ActD) (W : World) (h : Acts W ao la xs) (hla : la ≤ 1000) :
    Calls Try.prog 42 #[.slice ao la ca] W fun e w' => ∃ g n cap l, e = .returned (.slice (some ⟨g, 0, none⟩) n cap) ∧ Tabs w' W.heap.size la g n cap l ∧ n ≤ la + 1 ∧ Below W.heap.size W w' := by
  have HA := Lib.hid h
  have pl : (la : Int) ≤ 1000 := by omega
  have hmk : ∀ w : World, (Instr.makeSlice 25 (.int .i64 1) (.int .i64 1)).run Try.prog w = .ok (.slice (some ⟨w.heap.size, 0, none⟩) 1 1) (w.alloc (.cells #[.int .i64 0, .int .i64 0, .int .i64 0, .int .i64 0, .int .i64 0, .int .i64 0, .int .i64 0, .int .i64 0, .slice none 0 0] 34)) := fun _ => by kernel_rfl
  clear h
  go_enter Try.func42, Try.ntmps42
  go_upto_region 2 with fail
  obtain ⟨V, hV⟩ : ∃ V, V = W.alloc (.cells #[.int .i64 0, .int .i64 0, .int .i64 0, .int .i64 0, .int .i64 0, .int .i64 0, .int .i64 0, .int .i64 0, .slice none 0 0] 34) := ⟨_, rfl⟩
  have HBV : Hid (Below W.heap.size W V) := Lib.hid (by rw [hV]; exact box_below W _)
  have T0 : Hid (Tabs V W.heap.size 0 W.heap.size 1 1 [⟨Tab.none, none, 0, 0⟩]) := Lib.hid (tabs_one V W.heap.size (by rw [hV]; exact heap_alloc_new _ _) W.heap.size (Nat.le_refl _))
  rw [← hV]
  clear hV hmk
  go_wp2
  go_loopg [3, 4, 5, 6, 7, 8] la (fun gg s3 s4 _ _ _ _ wr => ∃ (i g n cap : Nat) (l : List Slot), s4 = .int .i64 (i : Int) ∧ i ≤ la ∧ la - i ≤ gg ∧ s3 = .slice (some ⟨g, 0, none⟩) n cap ∧ n ≤ i + 1 ∧ Hid (Tabs wr W.heap.size i g n cap l) ∧ Hid (Below W.heap.size W wr))
  case atStart => exact ⟨0, W.heap.size, 1, 1, _, rfl, Nat.zero_le _, by omega, rfl, Nat.le_refl _, T0, HBV⟩
  case round =>
    obtain ⟨i, g, n, cap, l, rfl, hi, hgg, rfl, hn, HT, HB⟩ := hrel
    by_cases hlt : i < la
    · have t1 : (i : Int) < (la : Int) := by omega
      have t0 : (0 : Int) ≤ (i : Int) := by omega
      obtain ⟨ga, oa, hga, hact, hfine⟩ := (HA.out.keep HB.out).at hlt
      obtain ⟨x, hx⟩ : ∃ x, x = xs[i]! := ⟨_, rfl⟩
      rw [← hx] at hact hfine
      clear hx
      subst hga
      have hpos := HT.out.pos
      have HX := Lib.hid hact
      have HF := Lib.hid hfine
      obtain ⟨pa, hpa⟩ : ∃ pa, pa = x.a % n := ⟨_, rfl⟩
      obtain ⟨pb, hpb⟩ : ∃ pb, pb = x.b % n := ⟨_, rfl⟩
      have hpan : pa < n := by rw [hpa]; exact Nat.mod_lt _ (by omega)
      have hpbn : pb < n := by rw [hpb]; exact Nat.mod_lt _ (by omega)
      obtain ⟨ta, hla1⟩ : ∃ ta, ta = l[pa]! := ⟨_, rfl⟩
      obtain ⟨tb, hlb1⟩ : ∃ tb, tb = l[pb]! := ⟨_, rfl⟩
      have A1 := HT.out.at hpan
      have A2 := HT.out.at hpbn
      rw [← hla1] at A1
      rw [← hlb1] at A2
      have HH1 := Lib.hid A1.2.1
      have HH2 := Lib.hid A2.2.1
      obtain ⟨p0, p1, p2, p3, p4, p5, p6, p7, p8⟩ := A1.1
      obtain ⟨r0, r1, r2, r3, r4, r5, r6, r7, r8⟩ := A2.1
      obtain ⟨d0, d1, d2, d3, d4, d5⟩ := hact
      have f1 := hfine.2.1
      have f2 := hfine.2.2.1
      have k1 : (x.a : Int).tmod (n : Int) = (pa : Int) := by rw [hpa, Int.tmod_eq_emod_of_nonneg (by omega)]; rfl
      have k2 : (x.b : Int).tmod (n : Int) = (pb : Int) := by rw [hpb, Int.tmod_eq_emod_of_nonneg (by omega)]; rfl
      have k3 : IntKind.i64.wrap (pa : Int) = (pa : Int) := IntWalk.i64_in _ (by omega)
      have k4 : IntKind.i64.wrap (pb : Int) = (pb : Int) := IntWalk.i64_in _ (by omega)
      have k5 : (pa : Int) < (n : Int) := by omega
      have k6 : (pb : Int) < (n : Int) := by omega
      have k7 : (0 : Int) ≤ (pa : Int) := by omega
      have k8 : (0 : Int) ≤ (pb : Int) := by omega
      have k9 : ¬ (n : Int) = 0 := by omega
      have k9c : ¬ n = 0 := by omega
      have k10 : IntKind.i64.wrap (x.a : Int) = (x.a : Int) := IntWalk.i64_in _ (by omega)
      have k11 : IntKind.i64.wrap (x.b : Int) = (x.b : Int) := IntWalk.i64_in _ (by omega)
      clear hpa hpb hla1 hlb1 A1 A2 hfine
      go_upto_region 5 with fail
      go_cut [5, 6] (fun v5 v6 wx => ∃ B5 B6, v5 = .pointer (some ⟨B5, 0, none⟩) ∧ v6 = .pointer (some ⟨B6, 0, none⟩) ∧ Hid (BoxAt wx B5 ta ∧ BoxAt wx B6 tb ∧ Below wr.heap.size wr wx))
      · go_region_held3 (fun w' => w'.cell? ⟨ga, oa + i * 6 + 1, none⟩ = some (.int .u8 (x.a : Int)) ∧ w'.cell? ⟨ga, oa + i * 6 + 2, none⟩ = some (.int .u8 (x.b : Int)) ∧ w'.cell? ⟨g, pa * 9, none⟩ = some (.int .i64 (ta.T.seen 0 : Int)) ∧ w'.cell? ⟨g, pa * 9 + 1, none⟩ = some (.int .i64 (ta.T.seen 1 : Int)) ∧ w'.cell? ⟨g, pa * 9 + 2, none⟩ = some (.int .i64 (ta.T.seen 2 : Int)) ∧ w'.cell? ⟨g, pa * 9 + 3, none⟩ = some (.int .i64 (ta.T.seen 3 : Int)) ∧ w'.cell? ⟨g, pa * 9 + 4, none⟩ = some (.int .i64 (ta.T.seen 4 : Int)) ∧ w'.cell? ⟨g, pa * 9 + 5, none⟩ = some (.int .i64 (ta.T.seen 5 : Int)) ∧ w'.cell? ⟨g, pa * 9 + 6, none⟩ = some (.int .i64 (ta.T.seen 6 : Int)) ∧ w'.cell? ⟨g, pa * 9 + 7, none⟩ = some (.int .i64 (ta.T.seen 7 : Int)) ∧ w'.cell? ⟨g, pa * 9 + 8, none⟩ = some (.slice ta.ao ta.n ta.c) ∧ w'.cell? ⟨g, pb * 9, none⟩ = some (.int .i64 (tb.T.seen 0 : Int)) ∧ w'.cell? ⟨g, pb * 9 + 1, none⟩ = some (.int .i64 (tb.T.seen 1 : Int)) ∧ w'.cell? ⟨g, pb * 9 + 2, none⟩ = some (.int .i64 (tb.T.seen 2 : Int)) ∧ w'.cell? ⟨g, pb * 9 + 3, none⟩ = some (.int .i64 (tb.T.seen 3 : Int)) ∧ w'.cell? ⟨g, pb * 9 + 4, none⟩ = some (.int .i64 (tb.T.seen 4 : Int)) ∧ w'.cell? ⟨g, pb * 9 + 5, none⟩ = some (.int .i64 (tb.T.seen 5 : Int)) ∧ w'.cell? ⟨g, pb * 9 + 6, none⟩ = some (.int .i64 (tb.T.seen 6 : Int)) ∧ w'.cell? ⟨g, pb * 9 + 7, none⟩ = some (.int .i64 (tb.T.seen 7 : Int)) ∧ w'.cell? ⟨g, pb * 9 + 8, none⟩ = some (.slice tb.ao tb.n tb.c)) (go_keep) (fail)
        all_goals go_wp2_with fail
        all_goals go_meet
        all_goals first | exact ⟨_, _, rfl, rfl, Lib.hid (two_boxes wr ta tb)⟩ | exact ⟨_, _, rfl, rfl, Lib.hid (two_boxes' wr ta tb)⟩
      · obtain ⟨B5, B6, rfl, rfl, HBX⟩ := hcut
        have HW := Lib.hid HBX.out.2.2
        have BX5 := Lib.hid HBX.out.1
        have BX6 := Lib.hid HBX.out.2.1
        have J1 := Lib.hid (HH1.out.keep HW.out)
        have J2 := Lib.hid (HH2.out.keep HW.out)
        have HT2 := Lib.hid (HT.out.keep HW.out)
        have HX2 := Lib.hid (HX.out.keep HW.out)
        have HB2 := Lib.hid (HB.out.trans (HW.out.mono HB.out.size))
        have hkd := HF.out.1
        have hkd2 : (x.kind : Int) ≤ 255 := by omega
        have hkd3 : (0 : Int) ≤ (x.kind : Int) := by omega
        clear HBX HW HH1 HH2 HT HX HB p0 r0 p1 r1 p2 r2 p3 r3 p4 r4 p5 r5 p6 r6 p7 r7 p8 r8 d0 d1 d2 d3 d4 d5 k1 k2 k3 k4 k5 k6 k7 k8 k9 k9c k10 k11
        obtain ⟨d0, d1, d2, d3, d4, d5⟩ := HX2.out
        obtain ⟨p0, p1, p2, p3, p4, p5, p6, p7, p8⟩ := cell_nine BX5.out
        obtain ⟨r0, r1, r2, r3, r4, r5, r6, r7, r8⟩ := cell_nine BX6.out
        by_cases hk2 : x.kind % 4 = 2
        · have m1 : (((x.kind : Int) % 4) == 2) = true := by simp; omega
          go_upto_region 11 with fail
          have JD := Lib.hid (J1.out.keep (below_drewN (Below.refl wc.heap.size wc) 1))
          go_region_law ((first | ((try go_simp); go_at_call 43; refine (removeA ta.c JD.out (by omega) x.key).mono ?_; rintro e w4 ⟨T4, a4, n4, c4, he, HT4, hh, hb⟩; subst he; have B4 := Lib.hid (below_then (below_drewN (Below.refl wc.heap.size wc) 1) hb); have HH4 := Lib.hid hh; clear hb hh) | (refine step_appT (w := w4.alloc (.cells #[.int .i64 ((Slot.mk T4 a4 n4 c4).T.seen 0 : Int), .int .i64 ((Slot.mk T4 a4 n4 c4).T.seen 1 : Int), .int .i64 ((Slot.mk T4 a4 n4 c4).T.seen 2 : Int), .int .i64 ((Slot.mk T4 a4 n4 c4).T.seen 3 : Int), .int .i64 ((Slot.mk T4 a4 n4 c4).T.seen 4 : Int), .int .i64 ((Slot.mk T4 a4 n4 c4).T.seen 5 : Int), .int .i64 ((Slot.mk T4 a4 n4 c4).T.seen 6 : Int), .int .i64 ((Slot.mk T4 a4 n4 c4).T.seen 7 : Int), .slice (Slot.mk T4 a4 n4 c4).ao (Slot.mk T4 a4 n4 c4).n (Slot.mk T4 a4 n4 c4).c] 34)) (by rfl) (.tmp 74) (.tmp 82) (by rfl) W.heap.size i g n cap l ⟨T4, a4, n4, c4⟩ w4.heap.size 34 (heap_alloc_new _ _) (by rfl) ((HT2.out.keep B4.out).keep (box_below _ _)) (HH4.out.keep (box_below _ _)) (by rfl) (by omega) (Nat.le_trans HB2.out.size (Nat.le_trans B4.out.size (box_below w4 _).size)) ?_; intro g5 cap5 w5 hT5 hb5; have HT5 := Lib.hid hT5; have HB5 := Lib.hid ((HB2.out.trans ((B4.out.trans ((box_below w4 _).mono B4.out.size)).mono HB2.out.size)).trans hb5); clear hT5 hb5)))
          all_goals go_wp2
          all_goals go_roundg (la - (i + 1))
          all_goals first | exact ⟨i + 1, g5, n + 1, cap5, _, by go_num, by omega, Nat.le_refl _, rfl, by omega, Lib.hid (HT5.out.more (Nat.le_succ i)), HB5⟩ | omega
        · by_cases hk3 : x.kind % 4 = 3
          · have m1 : (((x.kind : Int) % 4) == 2) = false := by simp; omega
            have m2 : (((x.kind : Int) % 4) == 3) = true := by simp; omega
            go_wp2_with (first | (go_at_call 31; refine (mergeA ta.c tb.c J1.out J2.out (by omega)).mono ?_; rintro e w4 ⟨T4, a4, n4, c4, rfl, HT4, hh, hb⟩; have B4 := Lib.hid hb; have HH4 := Lib.hid hh; clear hb hh) | (at_builtin; refine wpList_appT rfl _ _ rfl w4 34 W.heap.size i g n cap l ⟨T4, a4, n4, c4⟩ w4.heap.size rfl rfl rfl (HT2.out.keep B4.out) HH4.out rfl (by omega) (Nat.le_trans HB2.out.size B4.out.size) ?_; intro g5 cap5 w5 hT5 hb5; have HT5 := Lib.hid hT5; have HB5 := Lib.hid ((HB2.out.trans (B4.out.mono HB2.out.size)).trans hb5); clear hT5 hb5))
            go_roundg (la - (i + 1))
            case measure => omega
            case rel => exact ⟨i + 1, g5, n + 1, cap5, _, by go_num, by omega, Nat.le_refl _, rfl, by omega, Lib.hid (HT5.out.more (Nat.le_succ i)), HB5⟩
          · have m1 : (((x.kind : Int) % 4) == 2) = false := by simp; omega
            have m2 : (((x.kind : Int) % 4) == 3) = false := by simp; omega
            obtain ⟨er, hput⟩ := putCase ta.c J1.out (by omega) x.site x.key x.val
            have HP := Lib.hid hput
            clear hput
            go_upto_region 7 with fail
            have hB5 : B5 < wc.heap.size := block_lt_of_cell p0
            have hga : ga < wc.heap.size := block_lt_of_cell d3
            go_cut [7, 8] (fun v7 v8 wx => ∃ B7 T4 a4 n4 c4, v7 = .pointer (some ⟨B7, 0, none⟩) ∧ v8 = .int .i64 er ∧ Hid (BoxAt wx B7 ⟨T4, a4, n4, c4⟩ ∧ Held wx (i + 1) T4 a4 n4 ∧ Below wc.heap.size wc wx))
            · have ZB := Lib.hid ((box_below wc (.cells #[.int .i64 0, .int .i64 0, .int .i64 0, .int .i64 0, .int .i64 0, .int .i64 0, .int .i64 0, .int .i64 0, .slice none 0 0] 34)).drew)
              go_region_held3 (fun w' => w'.cell? ⟨B5, 0, none⟩ = some (.int .i64 (ta.T.seen 0 : Int)) ∧ w'.cell? ⟨B5, 1, none⟩ = some (.int .i64 (ta.T.seen 1 : Int)) ∧ w'.cell? ⟨B5, 2, none⟩ = some (.int .i64 (ta.T.seen 2 : Int)) ∧ w'.cell? ⟨B5, 3, none⟩ = some (.int .i64 (ta.T.seen 3 : Int)) ∧ w'.cell? ⟨B5, 4, none⟩ = some (.int .i64 (ta.T.seen 4 : Int)) ∧ w'.cell? ⟨B5, 5, none⟩ = some (.int .i64 (ta.T.seen 5 : Int)) ∧ w'.cell? ⟨B5, 6, none⟩ = some (.int .i64 (ta.T.seen 6 : Int)) ∧ w'.cell? ⟨B5, 7, none⟩ = some (.int .i64 (ta.T.seen 7 : Int)) ∧ w'.cell? ⟨B5, 8, none⟩ = some (.slice ta.ao ta.n ta.c) ∧ w'.cell? ⟨ga, oa + i * 6 + 3, none⟩ = some (.int .i64 x.site) ∧ w'.cell? ⟨ga, oa + i * 6 + 4, none⟩ = some (.string x.key) ∧ w'.cell? ⟨ga, oa + i * 6 + 5, none⟩ = some (.string x.val)) (first | go_keep | (with_reducible exact ⟨keep_far9 (by assumption) (by omega), keep_far9 (by assumption) (by omega), keep_far9 (by assumption) (by omega), keep_far9 (by assumption) (by omega), keep_far9 (by assumption) (by omega), keep_far9 (by assumption) (by omega), keep_far9 (by assumption) (by omega), keep_far9 (by assumption) (by omega), keep_far9 (by assumption) (by omega), keep_far9 (by assumption) (by omega), keep_far9 (by assumption) (by omega), keep_far9 (by assumption) (by omega)⟩))
                (first | (go_at_call 29; refine (HP.out wc.drew (below_drewN (Below.refl _ _) 1)).mono ?_; rintro e w4 ⟨T4, a4, n4, c4, rfl, hh, hb⟩; have B4 := Lib.hid (below_then (below_drewN (Below.refl wc.heap.size wc) 1) hb); have HH4 := Lib.hid hh; have y0 := cell_later B4.out p0; have y1 := cell_later B4.out p1; have y2 := cell_later B4.out p2; have y3 := cell_later B4.out p3; have y4 := cell_later B4.out p4; have y5 := cell_later B4.out p5; have y6 := cell_later B4.out p6; have y7 := cell_later B4.out p7; have y8 := cell_later B4.out p8; have z3 := cell_later B4.out d3; have z4 := cell_later B4.out d4; have z5 := cell_later B4.out d5; clear hb hh) | (go_at_call 29; refine (HP.out (wc.alloc (.cells #[.int .i64 0, .int .i64 0, .int .i64 0, .int .i64 0, .int .i64 0, .int .i64 0, .int .i64 0, .int .i64 0, .slice none 0 0] 34)).drew ZB.out).mono ?_; rintro e w4 ⟨T4, a4, n4, c4, rfl, hh, hb⟩; have B4 := Lib.hid (below_then ZB.out hb); have HH4 := Lib.hid hh; have y0 := cell_later B4.out p0; have y1 := cell_later B4.out p1; have y2 := cell_later B4.out p2; have y3 := cell_later B4.out p3; have y4 := cell_later B4.out p4; have y5 := cell_later B4.out p5; have y6 := cell_later B4.out p6; have y7 := cell_later B4.out p7; have y8 := cell_later B4.out p8; have z3 := cell_later B4.out d3; have z4 := cell_later B4.out d4; have z5 := cell_later B4.out d5; have RR := Lib.hid (row_keep hb (heap_alloc_new wc (.cells #[.int .i64 0, .int .i64 0, .int .i64 0, .int .i64 0, .int .i64 0, .int .i64 0, .int .i64 0, .int .i64 0, .slice none 0 0] 34))); obtain ⟨q0, q1, q2, q3, q4, q5, q6, q7, q8⟩ := cell_nine RR.out; have f0 := free_nine RR.out 0; have f1 := free_nine RR.out 1; have f2 := free_nine RR.out 2; have f3 := free_nine RR.out 3; have f4 := free_nine RR.out 4; have f5 := free_nine RR.out 5; have f6 := free_nine RR.out 6; have f7 := free_nine RR.out 7; have f8 := free_nine RR.out 8; clear hb hh))
              all_goals go_wp2_with fail
              all_goals go_meet
              · exact ⟨_, T4, a4, n4, c4, rfl, rfl, Lib.hid (boxNew T4 a4 n4 c4 B4.out HH4.out)⟩
              · exact ⟨_, T4, a4, n4, c4, rfl, rfl, Lib.hid (boxSet T4 a4 n4 c4 _ B4.out HH4.out RR.out (Nat.le_refl _))⟩
            · obtain ⟨B7, T4, a4, n4, c4, rfl, rfl, H7⟩ := hcut
              have BX7 := Lib.hid H7.out.1
              have J7 := Lib.hid H7.out.2.1
              have B8 := Lib.hid H7.out.2.2
              clear H7
              have HT3 := Lib.hid (HT2.out.keep B8.out)
              have HB3 := Lib.hid (HB2.out.trans (B8.out.mono HB2.out.size))
              clear p0 r0 p1 r1 p2 r2 p3 r3 p4 r4 p5 r5 p6 r6 p7 r7 p8 r8 d0 d1 d2 d3 d4 d5
              by_cases her : er = 0
              · subst her
                obtain ⟨p0, p1, p2, p3, p4, p5, p6, p7, p8⟩ := cell_nine BX7.out
                go_wp2_with (at_builtin; refine wpList_appT rfl _ _ rfl _ 34 W.heap.size (i + 1) g n cap l ⟨T4, a4, n4, c4⟩ _ rfl rfl rfl (HT3.out.more (Nat.le_succ i)) J7.out rfl (by omega) HB3.out.size ?_; intro g5 cap5 w5 hT5 hb5; have HT5 := Lib.hid hT5; have HB5 := Lib.hid (HB3.out.trans hb5); clear hT5 hb5)
                go_roundg (la - (i + 1))
                case measure => omega
                case rel => exact ⟨i + 1, g5, n + 1, cap5, _, by go_num, by omega, Nat.le_refl _, rfl, by omega, HT5, HB5⟩
              · have her0 : (er == 0) = false := beq_eq_false_iff_ne.2 her
                go_wp2
                go_roundg (la - (i + 1))
                case measure => omega
                case rel => exact ⟨i + 1, g, n, cap, l, by go_num, by omega, Nat.le_refl _, rfl, by omega, Lib.hid (HT3.out.more (Nat.le_succ i)), HB3⟩
    · obtain rfl : i = la := by omega
      have t1 : ¬ (i : Int) < (i : Int) := by omega
      go_wp2
      go_ret
      exact ⟨g, n, cap, rfl, ⟨l, HT.out⟩, hn, HB.out⟩
end Go.Proofs.Ytkdbdocipijncaa

/- What a Put leaves of a key. No function of the program is walked here. -/
set_option linter.unusedVariables false
set_option linter.unusedSimpArgs false
namespace Go.Proofs.Ytkdbdocipijncaa
open Go

theorem isKeyB_iff {k : ByteArray} {e : Ent} : isKeyB k e = true ↔ e.key = k := by unfold isKeyB; simp
theorem isKeyB_no {k : ByteArray} {e : Ent} : isKeyB k e = false ↔ e.key ≠ k := by unfold isKeyB; simp
theorem rem_all {T : Tab} {k : ByteArray} {e : Ent} (h : e ∈ (remT T k).L) : isKeyB k e = false := isKeyB_no.2 (mem_rem.1 h).2
theorem filter_none {l : List Ent} {p : Ent → Bool} (h : ∀ e ∈ l, p e = false) : l.filter p = [] := List.filter_eq_nil_iff.2 fun e he => by simp [h e he]
theorem get_put (T : Tab) (i : Nat) (hi : i < 8) (k v : ByteArray) : getL (putT T i hi k v).L k = [v] := by
  unfold getL putT insE
  rw [List.filter_append, List.filter_cons, filter_none (fun e he => rem_all ((List.takeWhile_prefix _).subset he)), filter_none (fun e he => rem_all ((List.dropWhile_suffix _).subset he)), if_pos (show isKeyB k ⟨k, v, i, T.seen i + 1, hi⟩ = true from isKeyB_iff.2 rfl)]
  rfl
theorem get_rem (T : Tab) (k : ByteArray) : getL (remT T k).L k = [] := by
  unfold getL
  rw [filter_none (fun e he => rem_all he)]; rfl
theorem rem_put (T : Tab) (i : Nat) (hi : i < 8) (k v : ByteArray) : (remT (putT T i hi k v) k).L = (remT T k).L := by
  show ((putT T i hi k v).L.filter fun e => !(decide (e.key = k))) = (remT T k).L
  have hall : ∀ l : List Ent, (∀ e ∈ l, e.key ≠ k) → (l.filter fun e => !(decide (e.key = k))) = l := fun l h => List.filter_eq_self.2 fun e he => by simp [h e he]
  unfold putT insE
  rw [List.filter_append, List.filter_cons, hall _ (fun e he => (mem_rem.1 ((List.takeWhile_prefix _).subset he)).2), hall _ (fun e he => (mem_rem.1 ((List.dropWhile_suffix _).subset he)).2)]
  simp only [decide_true, Bool.not_true, Bool.false_eq_true, if_false]
  exact List.takeWhile_append_dropWhile
theorem room_of_get {xs : List Ent} {k : ByteArray} (h : 0 < (getL xs k).length) : room xs k = true := by unfold room; simp [h]
theorem two_get' {T U M : Tab} {i j : Nat} {hi : i < 8} {hj : j < 8} {k v u : ByteArray} (hij : j < i) (hk : 1 ≤ k.size ∧ k.size ≤ 64) (hv : v.size ≤ 64) (hu : u.size ≤ 64) (hT : T = putT Tab.none i hi k v) (hU : U = putT Tab.none j hj k u) (hM : M = merT T U) : getL M.L k = [u, v] := by
  subst hT hU hM
  rw [mer_two_gt hi hj hij k v u hk hv hu]
  exact getL_two _ _ k rfl rfl
/-- a later write that saw both replaces them -/
theorem last_left {T U M Z : Tab} {m i : Nat} {hi : i < 8} {k x : ByteArray} (hT : T.Ok m) (hU : U.Ok m) (hk : 1 ≤ k.size ∧ k.size ≤ 64) (hx : x.size ≤ 64) (hM : M = merT T U) (hZ : Z = putT M i hi k x) : merT Z T = Z ∧ merT U Z = Z := by
  have hMo : M.Ok m := by rw [hM]; exact mer_ok hT hU (Nat.le_refl _) (Nat.le_refl _)
  have hZo : Z.Ok (m + 1) := by rw [hZ]; exact put_ok hMo hi hk hx
  have c1 : Cov Z M := by rw [hZ]; exact put_cov hMo hk hx
  have c2 : Cov M T := by rw [hM]; exact cov_left hT hU
  have c3 : Cov M U := by rw [hM]; exact cov_right hT hU
  have hT' := hT.more (Nat.le_succ m)
  have hU' := hU.more (Nat.le_succ m)
  have hM' := hMo.more (Nat.le_succ m)
  exact ⟨cov_trans hZo hM' hT' c1 c2, by rw [mer_comm hU' hZo]; exact cov_trans hZo hM' hU' c1 c3⟩
end Go.Proofs.Ytkdbdocipijncaa

/- The law's comparison of two lists of strings that are the same; of two lists of entries that are the same. -/
set_option linter.unusedVariables false
set_option linter.unusedSimpArgs false
namespace Go.Proofs.Ytkdbdocipijncaa
open Go.RowKit Go.Shelf Go.Sort

theorem Sl.at {w : World} {ao : Option Addr} {n : Nat} {ss : List ByteArray} (h : Sl w ao n ss) {i : Nat} (hi : i < n) : ∃ g, ao = some ⟨g, 0, none⟩ ∧ w.cell? ⟨g, i, none⟩ = some (.string ss[i]!) := by
  rcases h.2 with ⟨_, h0⟩ | ⟨g, hg, _, hc⟩
  · omega
  · exact ⟨g, hg, hc i hi⟩
set_option maxRecDepth 100000 in
set_option maxHeartbeats 4000000 in
theorem strings_same (a b : Option Addr) (n c c' : Nat) (ss : List ByteArray) (W : World) (h1 : Sl W a n ss) (h2 : Sl W b n ss) (hn : n ≤ 900000) :
    Calls Try.prog 17 #[.slice a n c, .slice b n c'] W fun e w' => e = .returned (.bool true) ∧ Below W.heap.size W w' := by
  have H1 := Lib.hid h1
  have H2 := Lib.hid h2
  have pn : (n : Int) ≤ 900000 := by omega
  clear h1 h2
  go_enter Try.func17, Try.ntmps17
  go_wp2
  go_loopg [5] n (fun gg s5 wr => ∃ j : Nat, s5 = .int .i64 (j : Int) ∧ j ≤ n ∧ n - j ≤ gg ∧ Hid (Below W.heap.size W wr))
  case atStart => exact ⟨0, rfl, Nat.zero_le _, by omega, Lib.hid (Below.refl _ _)⟩
  case round =>
    obtain ⟨j, rfl, hj, hgg, HB⟩ := hrel
    by_cases hlt : j < n
    · have hltz : (j : Int) < (n : Int) := by omega
      obtain ⟨g1, hg1, c1⟩ := (H1.out.keep HB.out).at hlt
      obtain ⟨g2, hg2, c2⟩ := (H2.out.keep HB.out).at hlt
      subst hg1 hg2
      generalize ss[j]! = z at c1 c2
      have q := str_eq (rfl : z = z)
      have j0 : (0 : Int) ≤ (j : Int) := by omega
      go_wp2_with fail
      go_quiet (fail)
      go_wp2
      go_roundg (n - (j + 1))
      case measure => omega
      case rel => exact ⟨j + 1, by go_num, by omega, Nat.le_refl _, Lib.hid (below_drewN HB.out _)⟩
    · obtain rfl : j = n := by omega
      have hltz : ¬ (j : Int) < (j : Int) := by omega
      go_wp2
      go_ret
      exact ⟨rfl, HB.out⟩
end Go.Proofs.Ytkdbdocipijncaa
