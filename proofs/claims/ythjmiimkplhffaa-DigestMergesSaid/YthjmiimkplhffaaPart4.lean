/- Part 4 of the contracts: DNew, DSorted, DIter, DCollect, DNodes. -/
import Derived.Shelf.SlSortCmp.NoneTotal
import Derived.Shelf.SlIterI.Sorted
import Derived.RangeFuncNested
import Derived.RangeFuncBound
import Derived.RangeFuncCalls
import Derived.RangeFuncLeaves
import Derived.Shelf.Abstract
import Derived.Shelf.RegionOpen
import Derived.OwnWalkIn
import Derived.TacticsInMore
import Derived.LoopNIn
import Derived.LoopIn
import Derived.Test.YthjmiimkplhffaaPart3

/- The program's New, Count; a digest in memory. -/
set_option linter.unusedVariables false
set_option linter.unusedSimpArgs false
namespace Go.Proofs.Ythjmiimkplhffaa
open Go.RowKit Go.Maps

/-- A digest in memory: its tree tb, its levels, factor and counts. -/
def DigM (w : World) (tb L : Nat) (F : Int) (c : Int → Int) : Prop :=
  ∃ mb, Tree w tb mb (tot L c) c ∧ tb ≠ mb ∧ tb < w.heap.size ∧ (1 ≤ L ∧ L ≤ 20 ∧ 1 ≤ F ∧ F ≤ 1000) ∧ Good L c ∧ tot L c ≤ 1099511627776 ∧ Still (tot L c / F) L c

theorem DigM.keep {w w' : World} {tb L : Nat} {F : Int} {c : Int → Int} (h : DigM w tb L F c) (hb : Below w.heap.size w w') : DigM w' tb L F c := by
  obtain ⟨mb, h1, h2, h3, h4⟩ := h
  exact ⟨mb, ⟨cell_later hb h1.c0, cell_later hb h1.c1, h1.m.keep hb⟩, h2, Nat.lt_of_lt_of_le h3 hb.size, h4⟩
theorem DigM.drew {w w' : World} {tb L : Nat} {F : Int} {c : Int → Int} (h : DigM w tb L F c) (hb : Drew w w') : DigM w' tb L F c := h.keep hb.below

/-- the digest's value -/
def dv (L : Nat) (F : Int) (tb : Nat) : Value := .agg #[.int .i64 (L : Int), .int .i64 F, .pointer (some ⟨tb, 0, none⟩)]

theorem results_cell_tmp {P : Program} {fn : Func} {p q : Tmp} {ty : TypeId} (h : fn.results = #[.cell p ty, .tmp q]) (tmps : Array Value) (w : World) (g : Nat) (t : TypeId) (cs : Array Value) (fr : Nat × Nat) (d : TypeDesc)
    (hp : tmps.getD p undef = .pointer (some ⟨g, 0, none⟩)) (hg : w.heap[g]? = some (.cells cs t fr))
    (hu : P.underlying ty = some d) (hd : (match d with | .struct _ | .array _ _ => true | _ => false) = true) (hi : (P.info? ty).map (·.size) = some cs.size) :
    (results fn tmps).run P w = .ok (.tuple #[.agg cs, tmps.getD q undef]) w := by
  have hp' : tmps[p]?.getD undef = .pointer (some ⟨g, 0, none⟩) := by simpa using hp
  simp [results, h, hp', asAddr, run_loadVar_row w g t ty cs fr d hg hu hd hi, Result.andThen]

theorem tot_zero (L : Nat) : tot L (fun _ => 0) = 0 := S_zero _
theorem good_zero (L : Nat) : Good L (fun _ => 0) := ⟨fun _ => Int.le_refl _, fun q h => absurd rfl h⟩
theorem still_zero (t : Int) (d : Nat) : Still t d (fun _ => 0) := fun e _ p _ h => h.1 rfl

/-- may there be a digest? -/
def Right (l f : Int) : Prop := 1 ≤ l ∧ l ≤ 20 ∧ 1 ≤ f ∧ f ≤ 1000

def NewPost (l f : Int) (W : World) (e : Ending) (w' : World) : Prop :=
  (Right l f ∧ ∃ tb, e = .returned (.tuple #[dv l.toNat f tb, .int .i64 0]) ∧ DigM w' tb l.toNat f (fun _ => 0) ∧ Below W.heap.size W w') ∨
  (¬ Right l f ∧ e = .returned (.tuple #[zeroD, .int .i64 2]) ∧ Below W.heap.size W w')

theorem cells_new (w : World) (cs : Array Value) (t : TypeId) : (w.alloc (.cells cs t)).heap[w.heap.size]? = some (.cells cs t (0, 0)) := heap_alloc_new _ _

theorem old_block (W : World) (a b c : Obj) : (((W.alloc a).alloc b).alloc c).heap[W.heap.size]? = some a := by
  rw [Below.heap_alloc _ _ _ (by simp; omega), Below.heap_alloc _ _ _ (by simp)]
  exact heap_alloc_new _ _
theorem new_below (W : World) (a b c : Obj) : Below W.heap.size W (((W.alloc a).alloc b).alloc c) := (((Below.refl _ _).alloc (Nat.le_refl _) _).alloc (by simp) _).alloc (by simp; omega) _
theorem cm_new (W : World) : Cm (W.alloc (.map #[] 0)) W.heap.size (fun _ => 0) := ⟨.map [], World.ownsMap_made W _ _ _, reads_empty⟩
theorem new_tree (W : World) (a : Obj) : Tree (((W.alloc a).alloc (.map #[] 0)).alloc (.cells #[.map (some (W.heap.size + 1)), .int .i64 0] 69)) (W.heap.size + 1 + 1) (W.heap.size + 1) 0 (fun _ => 0) := by
  have h := cells_new ((W.alloc a).alloc (.map #[] 0)) #[.map (some (W.heap.size + 1)), .int .i64 0] 69
  rw [show ((W.alloc a).alloc (.map #[] 0)).heap.size = W.heap.size + 1 + 1 by simp] at h
  have h2 := two_cells h
  refine ⟨h2.1, h2.2.1, ?_⟩
  have h3 := cm_new (W.alloc a)
  rw [show (W.alloc a).heap.size = W.heap.size + 1 by simp] at h3
  exact h3.keep ((Below.refl _ _).alloc (Nat.le_refl _) _)

set_option maxRecDepth 100000 in
set_option maxHeartbeats 4000000 in
theorem new_any (l f : Int) (W : World) : Calls Try.prog 13 #[.int .i64 l, .int .i64 f] W (NewPost l f W) := by
  have hmm := @run_makeMap Try.prog
  have hno : ∀ W : World, Below W.heap.size W (W.alloc (.cells #[.int .i64 0, .int .i64 0, .pointer none] 28)) := fun W => (Below.refl _ _).alloc (Nat.le_refl _) _
  have HNO := Lib.hid hno
  clear hno
  by_cases h1 : l < 1
  · go_enter Try.func13, Try.ntmps13
    go_wp2
    refine bodyPost_ret (v := .tuple #[zeroD, .int .i64 2]) (results_cell_tmp Try.results13 _ _ W.heap.size 28 #[.int .i64 0, .int .i64 0, .pointer none] (0, 0) _ rfl (cells_new W _ _) Try.underlying28 (by kernel_rfl) (by kernel_rfl)) rfl ?_
    exact .inr ⟨fun h => by unfold Right at h; omega, rfl, HNO.out W⟩
  · by_cases h2 : 20 < l
    · go_enter Try.func13, Try.ntmps13
      go_wp2
      refine bodyPost_ret (v := .tuple #[zeroD, .int .i64 2]) (results_cell_tmp Try.results13 _ _ W.heap.size 28 #[.int .i64 0, .int .i64 0, .pointer none] (0, 0) _ rfl (cells_new W _ _) Try.underlying28 (by kernel_rfl) (by kernel_rfl)) rfl ?_
      exact .inr ⟨fun h => by unfold Right at h; omega, rfl, HNO.out W⟩
    · by_cases h3 : f < 1
      · go_enter Try.func13, Try.ntmps13
        go_wp2
        refine bodyPost_ret (v := .tuple #[zeroD, .int .i64 2]) (results_cell_tmp Try.results13 _ _ W.heap.size 28 #[.int .i64 0, .int .i64 0, .pointer none] (0, 0) _ rfl (cells_new W _ _) Try.underlying28 (by kernel_rfl) (by kernel_rfl)) rfl ?_
        exact .inr ⟨fun h => by unfold Right at h; omega, rfl, HNO.out W⟩
      · by_cases h4 : 1000 < f
        · go_enter Try.func13, Try.ntmps13
          go_wp2
          refine bodyPost_ret (v := .tuple #[zeroD, .int .i64 2]) (results_cell_tmp Try.results13 _ _ W.heap.size 28 #[.int .i64 0, .int .i64 0, .pointer none] (0, 0) _ rfl (cells_new W _ _) Try.underlying28 (by kernel_rfl) (by kernel_rfl)) rfl ?_
          exact .inr ⟨fun h => by unfold Right at h; omega, rfl, HNO.out W⟩
        · obtain ⟨L, rfl⟩ := Int.eq_ofNat_of_zero_le (show 0 ≤ l by omega)
          go_enter Try.func13, Try.ntmps13
          go_wp2
          refine bodyPost_ret (v := .tuple #[dv L f (W.heap.size + 1 + 1), .int .i64 0]) (results_cell_tmp Try.results13 _ _ W.heap.size 28 #[.int .i64 (L : Int), .int .i64 f, .pointer (some ⟨W.heap.size + 1 + 1, 0, none⟩)] (0, 0) _ rfl (old_block W _ _ _) Try.underlying28 (by kernel_rfl) (by kernel_rfl)) rfl ?_
          refine .inl ⟨⟨by omega, by omega, by omega, by omega⟩, W.heap.size + 1 + 1, rfl, ?_, new_below W _ _ _⟩
          rw [Int.toNat_natCast]
          refine ⟨W.heap.size + 1, ?_, by omega, by simp, ⟨by omega, by omega, by omega, by omega⟩, good_zero L, by rw [tot_zero]; omega, still_zero _ _⟩
          rw [tot_zero]
          exact new_tree W _

theorem count_no (W : World) : Calls Try.prog 28 #[.agg #[.int .i64 0, .int .i64 0, .pointer none]] W (fun e w' => e = .returned (.int .i64 0) ∧ Below W.heap.size W w') := by
  have hb : Below W.heap.size W (W.alloc (.cells #[.int .i64 0, .int .i64 0, .pointer none] 28)) := (Below.refl _ _).alloc (Nat.le_refl _) _
  have HB := Lib.hid hb
  clear hb
  go_enter Try.func28, Try.ntmps28
  go_wp2_with (go_at_call 35; refine (usable_no _).mono ?_; rintro e w1 ⟨rfl, hb1⟩; have HB1 := Lib.hid (below_then HB.out hb1); clear hb1)
  go_ret
  exact ⟨rfl, HB1.out⟩
set_option maxHeartbeats 1000000 in
theorem count_any (tb L : Nat) (F : Int) (c : Int → Int) (W : World) (h : DigM W tb L F c) : Calls Try.prog 28 #[.agg #[.int .i64 (L : Int), .int .i64 F, .pointer (some ⟨tb, 0, none⟩)]] W (fun e w' => e = .returned (.int .i64 (tot L c)) ∧ Below W.heap.size W w') := by
  obtain ⟨mb, h1, h2, h3, h4, h5⟩ := h
  have hb : Below W.heap.size W (W.alloc (.cells #[.int .i64 (L : Int), .int .i64 F, .pointer (some ⟨tb, 0, none⟩)] 28)) := (Below.refl _ _).alloc (Nat.le_refl _) _
  have HB := Lib.hid hb
  have HT := Lib.hid h1
  have hd := three_cells (cells_new W #[.int .i64 (L : Int), .int .i64 F, .pointer (some ⟨tb, 0, none⟩)] 28)
  have HD := Lib.hid hd
  have hl : (1 : Int) ≤ (L : Int) := by omega
  clear hb h1 hd h4 h5
  go_enter Try.func28, Try.ntmps28
  go_wp2_with (go_at_call 35; refine (usable_yes _ _ _ _ hl).mono ?_; rintro e w1 ⟨rfl, hb1⟩; have HB1 := Lib.hid (below_then HB.out hb1); have e2 := cell_later hb1 HD.out.2.2.1; have e1 : w1.cell? ⟨tb, 1, none⟩ = some (.int .i64 (tot L c)) := cell_later HB1.out HT.out.c1; clear hb1)
  go_ret
  exact ⟨rfl, HB1.out⟩
end Go.Proofs.Ythjmiimkplhffaa

/- slices.SortedFunc over the keys of a map, by cmp.Compare. -/
set_option linter.unusedVariables false
set_option linter.unusedSimpArgs false
namespace Go.Proofs.Ythjmiimkplhffaa
open Go.RowKit Go.Maps Go.Shelf Go.Sort

theorem lt_cmp (x y : Int) : ltOf Lib.compareInt x y = decide (x < y) := by
  unfold ltOf Lib.compareInt
  by_cases h1 : x < y
  · simp [h1]
  · by_cases h2 : y < x <;> simp [h1, h2]
theorem swo_cmp : SWO (ltOf Lib.compareInt) where
  irrefl x := by rw [lt_cmp]; simp
  trans x y z h1 h2 := by rw [lt_cmp] at *; simp at *; omega
  ntrans x y z h1 h2 := by rw [lt_cmp] at *; simp at *; omega
theorem cmp_reads (blk off size : Nat) (w : World) : CmpReads Try.prog 52 #[] encZ Lib.compareInt blk off size w :=
  fun _ _ _ _ x y => (Try.cmp_Compare_int x y _).mono fun _ _ ⟨he, hw⟩ => ⟨he, 0, hw⟩

/-- slices.SortFunc by cmp.Compare -/
theorem sortFunc_any (blk cap : Nat) (ss : List Int) (W : World) (hH : Sort.Holds encZ W blk 0 ss.toArray) (hb : blk < W.heap.size) (hs : ss.length < 4611686018427387904) :
    Calls Try.prog 68 #[.slice (some ⟨blk, 0, none⟩) ss.length cap, .func (.func 52) #[] #[]] W (fun e w' => e = .returned (.tuple #[]) ∧ ∃ n os, w' = grow (putRow encZ (Sort.ahead W n) blk 0 (ss.mergeSort fun x y => !(ltOf Lib.compareInt) y x).toArray) os) := by
  have eg : ∀ args w, (callFunc 52 args).run Try.prog w = .ok (.enter 52 args) w := enters_of Try.func52 (by kernel_rfl) rfl
  have h := Any.slices_SortFunc_total Try.laysSlF6_f68 encZ (fun _ => rfl) Lib.compareInt swo_cmp 52 #[] blk 0 cap ss.toArray W eg (cmp_reads blk 0 _ W).lays hH hb (by simpa using hs) (fun x y h1 h2 => by rw [lt_cmp] at *; simp at *; omega)
  change Calls Try.prog 68 _ _ _ at h
  simpa [sortWorld] using h
/-- what slices.SortFunc does to an own row, with the function value fv -/
def SortsBy (fv : Value) (P : List Int → Prop) (srt : List Int → List Int) : Prop :=
  (∀ (blk cap : Nat) (ss : List Int) (W : World), P ss → Sort.Holds encZ W blk 0 ss.toArray → blk < W.heap.size → ss.length < 4611686018427387904 →
    Calls Try.prog 68 #[.slice (some ⟨blk, 0, none⟩) ss.length cap, fv] W (fun e w' => e = .returned (.tuple #[]) ∧ ∃ n os, w' = grow (putRow encZ (Sort.ahead W n) blk 0 (srt ss).toArray) os)) ∧
  (∀ (p : Option Addr) (cap : Nat) (W : World), Calls Try.prog 68 #[.slice p 0 cap, fv] W (fun e w' => e = .returned (.tuple #[]) ∧ w' = W)) ∧ (∀ ss, (srt ss).length = ss.length)

def sortUp (ss : List Int) : List Int := ss.mergeSort fun x y => !(ltOf Lib.compareInt) y x

theorem sortsUp : SortsBy (.func (.func 52) #[] #[]) (fun _ => True) sortUp :=
  ⟨fun blk cap ss W _ hH hb hs => sortFunc_any blk cap ss W hH hb hs, fun p cap W => by
    have h := AnyF.slices_SortFunc_none (P := Try.prog) (ρ := Try.laysSlF6_f68_ren) { Try.laysSlF6_f68 with } p cap (.func (.func 52) #[] #[]) W
    exact h, fun ss => by unfold sortUp; simp⟩

set_option maxRecDepth 100000 in
set_option maxHeartbeats 2000000 in
/-- slices.SortedFunc over a map's keys -/
theorem sortedFunc_in {fv : Value} {P : List Int → Prop} {srt : List Int → List Int} (hsort : SortsBy fv P srt) (Bm b n L : Nat) (D : DataW Unit) (w : World) (hBm : Bm < w.heap.size) (hm : w.cell? ⟨Bm, 0, none⟩ = some (.map (some b)))
    (hown : w.ownsMap Try.prog 3 (plainElem Try.prog 3) b n D) (hsz : size D ≤ 4194304) (hP : ∀ ss : List Int, ss.Perm (intKeys D) → P ss) :
    CallsIn Fence.wide 5 Try.prog 54 #[.func (.func 69) #[] #[.pointer (some ⟨Bm, 0, none⟩)], fv] w (fun e w' => ∃ (v : Value) (ss : List Int), e = .returned v ∧ ss.Perm (intKeys D) ∧ OwnI w' w.heap.size 3 v (srt ss).length (srt ss) ∧ Below w.heap.size w w') := by
  have hseq : SeqGives Fence.wide 2 Try.prog 69 #[.pointer (some ⟨Bm, 0, none⟩)] encZ (fun ss => ss.Perm (intKeys D)) (size D) w :=
    AnyZI.keys_gives (ρ := Try.keysLay_ren) { Try.keysLay with } Fence.wide _ trivial rfl (by omega) Bm b n D w hBm hm hown
  have cC := AnyZI.collect_in Try.collectLay Fence.wide 4 trivial trivial rfl (by omega) 69 #[.pointer (some ⟨Bm, 0, none⟩)] trivial (enters_of Try.func69 (by kernel_rfl) rfl) _ (size D) (by unfold maxLen; omega) (by omega) w hseq.bounded
  change CallsIn _ _ Try.prog 67 _ _ _ at cC
  have HC := Lib.hid cC
  have HS := Lib.hid hsort
  have HP := Lib.hid hP
  clear hseq cC hown hm hsort hP
  refine callsIn_of_wp Try.func54 rfl trivial ?_ rfl
  simp only [Try.ntmps54, List.size_toArray, List.length_cons, List.length_nil, Nat.reduceAdd, Nat.reduceSub, Array.replicate_succ, Array.replicate_zero, List.push_toArray, List.append_toArray, List.nil_append, List.cons_append]
  gi_wp2_with (refine ⟨trivial, ?_⟩; gi_at_call 67; refine HC.out.mono ?_; rintro e W ⟨v, ss, rfl, ⟨hS, hlen⟩, hrow, hnil, hb⟩)
  rcases hrow.2 with ⟨rfl, hz⟩ | ⟨gb, cap, cur, rfl, hbase, hgb, r1, r2, r3, r4⟩
  · have hss : ss = [] := List.eq_nil_of_length_eq_zero hz
    subst hss
    have hl0 : srt [] = [] := List.eq_nil_of_length_eq_zero (by rw [HS.out.2.2]; rfl)
    gi_wp2_with (refine ⟨trivial, ?_⟩; gi_at_call 68; refine (callsIn_wide.2 (HS.out.2.1 none 0 W)).mono ?_; rintro e w' ⟨rfl, rfl⟩)
    go_ret
    refine ⟨.slice none 0 0, [], rfl, hS, ?_, hb⟩
    rw [hl0]
    exact OwnI.nil _ _ _
  · have hH : Sort.Holds encZ W gb 0 ss.toArray := holds_of_block_i hgb (by simpa using r4)
    have hgl : gb < W.heap.size := (Array.getElem?_eq_some_iff.1 hgb).1
    have hsz2 : ss.length < 4611686018427387904 := by unfold maxLen at r2; omega
    have cS := HS.out.1 gb cap ss W (HP.out ss hS) hH hgl hsz2
    gi_wp2_with (refine ⟨trivial, ?_⟩; gi_at_call 68; refine (callsIn_wide.2 cS).mono ?_; rintro e w' ⟨rfl, nn, os, rfl⟩)
    go_ret
    have hl := HS.out.2.2 ss
    refine ⟨_, ss, rfl, hS, ?_, hb.grown (grownBy_sorted_i _) hb.size (fun j hj => by cases hj; exact hbase)⟩
    have h5 := ownsRow_sorted_i (w := W) (n := nn) (os := os) hl hbase hgb r1 r2 r3
    rw [hl]
    exact h5
end Go.Proofs.Ythjmiimkplhffaa

/- The program's iterator over the nodes of a tree: what a round must keep; its contract. -/
set_option linter.unusedVariables false
set_option linter.unusedSimpArgs false
namespace Go.Proofs.Ythjmiimkplhffaa
open Go.RowKit Go.Maps Go.Shelf

attribute [local go_sem] Oper.semAt_some

/-- what a round of the caller may write: new things of the loop's, the blocks of Q, the row of the slice in the box Bs -/
def Tch (n₀ : Nat) (Q : Nat → Prop) (Bs : Nat) (A : World) (k : Nat) : Prop :=
  (n₀ ≤ k ∧ ∃ o : Obj, A.heap[k]? = some o ∧ o.isCells = false) ∨ Q k ∨ ∃ v, A.cell? ⟨Bs, 0, none⟩ = some v ∧ v.ownBlock = some k
structure KpT (n₀ : Nat) (Q : Nat → Prop) (Bs : Nat) (A B : World) : Prop where
  size : A.heap.size ≤ B.heap.size
  same : ∀ k, k < A.heap.size → ¬ Tch n₀ Q Bs A k → B.heap[k]? = A.heap[k]?
  tch : ∀ k, Tch n₀ Q Bs B k → Tch n₀ Q Bs A k ∨ A.heap.size ≤ k

section
variable {n₀ Bs : Nat} {Q : Nat → Prop} {A B C : World}
theorem KpT.trans (h : KpT n₀ Q Bs A B) (k : KpT n₀ Q Bs B C) : KpT n₀ Q Bs A C := by
  have hn : ∀ i, i < A.heap.size → ¬ Tch n₀ Q Bs A i → ¬ Tch n₀ Q Bs B i := fun i hi hA hB => by
    rcases h.tch i hB with g | g
    · exact hA g
    · omega
  refine ⟨Nat.le_trans h.size k.size, fun i hi hA => (k.same i (Nat.lt_of_lt_of_le hi h.size) (hn i hi hA)).trans (h.same i hi hA), fun i hC => ?_⟩
  rcases k.tch i hC with g | g
  · exact h.tch i g
  · exact .inr (Nat.le_trans h.size g)
theorem KpT.refl (A : World) : KpT n₀ Q Bs A A := ⟨Nat.le_refl _, fun _ _ _ => rfl, fun k h => .inl h⟩
/-- a round that writes as it may -/
theorem KpT.of (ho : Only (fun k => Q k ∨ ∃ v, A.cell? ⟨Bs, 0, none⟩ = some v ∧ v.ownBlock = some k) A B)
    (hr : ∀ v' k, B.cell? ⟨Bs, 0, none⟩ = some v' → v'.ownBlock = some k → (∃ v, A.cell? ⟨Bs, 0, none⟩ = some v ∧ v.ownBlock = some k) ∨ A.heap.size ≤ k) : KpT n₀ Q Bs A B := by
  have hs : ∀ k, k < A.heap.size → ¬ Tch n₀ Q Bs A k → B.heap[k]? = A.heap[k]? := fun k hk h => ho.block k hk (fun g => h (.inr g))
  refine ⟨ho.size, hs, fun k hk => ?_⟩
  by_cases hl : k < A.heap.size
  · left
    refine Classical.byContradiction fun hA => ?_
    have e := hs k hl hA
    rcases hk with ⟨h1, o, h2, h3⟩ | hq | ⟨v, h1, h2⟩
    · exact hA (.inl ⟨h1, o, e ▸ h2, h3⟩)
    · exact hA (.inr (.inl hq))
    · rcases hr v k h1 h2 with g | g
      · exact hA (.inr (.inr g))
      · omega
  · exact .inr (by omega)
theorem KpT.putObj {w : World} (hn : n₀ ≤ w.heap.size) (hB : Bs < w.heap.size) (W : World) (l : Nat) (o o' : Obj) (hl : w.heap.size ≤ l) (hh : W.heap[l]? = some o) (hc : o.isCells = false) (_ : o.isWalk = false) : KpT n₀ Q Bs W (W.putObj l o') := by
  have hne : ∀ k, k ≠ l → (W.putObj l o').heap[k]? = W.heap[k]? := fun k hk => World.putObj_heap_other hk
  have hT : Tch n₀ Q Bs W l := .inl ⟨by omega, o, hh, hc⟩
  refine ⟨by simp, fun k hk h => hne k (fun e => h (e ▸ hT)), fun k hk => .inl ?_⟩
  by_cases e : k = l
  · exact e ▸ hT
  · rcases hk with ⟨h1, o2, h2, h3⟩ | hq | ⟨v, h1, h2⟩
    · exact .inl ⟨h1, o2, (hne k e) ▸ h2, h3⟩
    · exact .inr (.inl hq)
    · refine .inr (.inr ⟨v, ?_, h2⟩)
      rw [← h1]
      exact (World.cell?_of_block (w := W) (a := ⟨Bs, 0, none⟩) (hne Bs (by omega))).symm
end

/-- maps.Keys -/
theorem keys_any (n : Nat) (mb : Nat) (w : World) : CallsIn Fence.wide n Try.prog 55 #[.map (some mb)] w (fun e w' => e = .returned (.func (.func 69) #[] #[.pointer (some ⟨w.heap.size, 0, none⟩)]) ∧ w' = w.alloc (.cells #[.map (some mb)] 67)) :=
  AnyZI.keys_in Try.keysLay Fence.wide n trivial rfl (some mb) w

/-- the iterator's maker -/
theorem nodes_any (n tb : Nat) (fv : Value) (w : World) (hf : fv.cells = #[fv]) (hz : ∃ fn fi ca, fv = .func fn fi ca) : CallsIn Fence.wide n Try.prog 36 #[.pointer (some ⟨tb, 0, none⟩), fv] w (fun e w' => e = .returned (.func (.func 53) #[] #[.pointer (some ⟨w.heap.size, 0, none⟩), .pointer (some ⟨w.heap.size + 1, 0, none⟩)]) ∧
    w' = (w.alloc (.cells #[.pointer (some ⟨tb, 0, none⟩)] 26)).alloc (.cells #[fv] 74)) := by
  obtain ⟨fn, fi, ca, rfl⟩ := hz
  refine callsIn_of_wp Try.func36 rfl trivial ?_ rfl
  simp only [Try.ntmps36, List.size_toArray, List.length_cons, List.length_nil, Nat.reduceAdd, Nat.reduceSub, Array.replicate_succ, Array.replicate_zero, List.push_toArray, List.append_toArray, List.nil_append, List.cons_append]
  gi_wp2
  go_ret
  exact ⟨rfl, rfl⟩

/-- a node as a value -/
abbrev encN (x : Int × Int) : Array Value := #[.agg #[.int .i64 x.1, .int .i64 x.2]]

/-- in the world w: the boxes of the tree and of the comparison, and what a round may not write -/
structure ItPre (n₀ : Nat) (Q : Nat → Prop) (Bs Bt Bc tb mb : Nat) (fv : Value) (n : Int) (c : Int → Int) (w : World) : Prop where
  n0 : n₀ ≤ w.heap.size
  bt : w.cell? ⟨Bt, 0, none⟩ = some (.pointer (some ⟨tb, 0, none⟩))
  bc : w.cell? ⟨Bc, 0, none⟩ = some fv
  tree : Tree w tb mb n c
  lt : Bt < n₀ ∧ tb < n₀ ∧ mb < n₀ ∧ Bs < n₀
  q : ∀ k, Q k → k < n₀ ∧ k ≠ Bt ∧ k ≠ tb ∧ k ≠ mb
  row : ∀ v k, w.cell? ⟨Bs, 0, none⟩ = some v → v.ownBlock = some k → k < n₀ ∧ k ≠ Bt ∧ k ≠ tb ∧ k ≠ mb

/-- in a round of the iterator -/
structure ItIn (n₀ : Nat) (Q : Nat → Prop) (Bs Bt tb mb : Nat) (n : Int) (c : Int → Int) (zs : List Int) (v : Value) (wr : World) : Prop where
  bt : wr.cell? ⟨Bt, 0, none⟩ = some (.pointer (some ⟨tb, 0, none⟩))
  tree : Tree wr tb mb n c
  own : OwnI wr 0 3 v zs.length zs
  nBt : ¬ Tch n₀ Q Bs wr Bt
  ntb : ¬ Tch n₀ Q Bs wr tb
  nmb : ¬ Tch n₀ Q Bs wr mb
  row : ∀ g, v.ownBlock = some g → ¬ Tch n₀ Q Bs wr g

theorem ItIn.start {n₀ : Nat} {Q : Nat → Prop} {Bs Bt Bc tb mb : Nat} {fv : Value} {n : Int} {c : Int → Int} {zs : List Int} {v : Value} {w W w5 : World} (h : ItPre n₀ Q Bs Bt Bc tb mb fv n c w) (hW : Below w.heap.size w W) (hb : Below W.heap.size W w5)
    (hown : OwnI w5 (W.heap.size + 1) 3 v zs.length zs) : ItIn n₀ Q Bs Bt tb mb n c zs v w5 := by
  have hbb : Below w.heap.size w w5 := hW.trans (hb.mono hW.size)
  have hn := h.n0
  have hl := h.lt
  have hs := hW.size
  have hbs : ∀ v', w5.cell? ⟨Bs, 0, none⟩ = some v' → w.cell? ⟨Bs, 0, none⟩ = some v' := fun v' hv => by
    rw [← hv]; exact (hbb.cell (p := ⟨Bs, 0, none⟩) (by show Bs < _; omega)).symm
  have nt : ∀ k, k < n₀ → (∀ v' k', w.cell? ⟨Bs, 0, none⟩ = some v' → v'.ownBlock = some k' → k' ≠ k) → ¬ Q k → ¬ Tch n₀ Q Bs w5 k := fun k hk h1 h2 h3 => by
    rcases h3 with ⟨g, _⟩ | g | ⟨v', g1, g2⟩
    · omega
    · exact h2 g
    · exact h1 v' k (hbs v' g1) g2 rfl
  refine ⟨cell_later hbb h.bt, ⟨cell_later hbb h.tree.c0, cell_later hbb h.tree.c1, h.tree.m.keep hbb⟩, hown.base (Nat.zero_le _), nt Bt hl.1 (fun v' k' a b => (h.row v' k' a b).2.1) (fun q => (h.q _ q).2.1 rfl), nt tb hl.2.1 (fun v' k' a b => (h.row v' k' a b).2.2.1) (fun q => (h.q _ q).2.2.1 rfl), nt mb hl.2.2.1 (fun v' k' a b => (h.row v' k' a b).2.2.2) (fun q => (h.q _ q).2.2.2 rfl), fun g hg h3 => ?_⟩
  have hge := hown.ge g hg
  rcases h3 with ⟨_, o, h1, h2⟩ | q | ⟨v', g1, g2⟩
  · rcases hown.2 with ⟨rfl, _⟩ | ⟨g', cap, cur, rfl, _, h5, _⟩
    · simp [Value.ownBlock] at hg
    · obtain rfl : g' = g := by simpa [Value.ownBlock] using hg
      rw [h5] at h1
      obtain rfl := Option.some.inj h1
      simp [Obj.isCells] at h2
  · have := (h.q g q).1; omega
  · have := (h.row v' g (hbs v' g1) g2).1; omega

theorem ItIn.step {n₀ : Nat} {Q : Nat → Prop} {Bs Bt tb mb : Nat} {n : Int} {c : Int → Int} {zs : List Int} {v : Value} {A B : World} (h : ItIn n₀ Q Bs Bt tb mb n c zs v A) (k : KpT n₀ Q Bs A B) : ItIn n₀ Q Bs Bt tb mb n c zs v B := by
  have no : ∀ i, i < A.heap.size → ¬ Tch n₀ Q Bs A i → ¬ Tch n₀ Q Bs B i := fun i hi hA hB => by
    rcases k.tch i hB with g | g
    · exact hA g
    · omega
  have lB := block_lt_of_cell h.bt
  have lt := block_lt_of_cell h.tree.c0
  have lm := h.tree.m.lt
  have cl : ∀ {a : Addr} {x : Value}, A.cell? a = some x → ¬ Tch n₀ Q Bs A a.block → B.cell? a = some x := fun {a x} hc hn => by
    rw [World.cell?_of_block (w := A) (k.same a.block (block_lt_of_cell hc) hn)]; exact hc
  exact ⟨cl h.bt h.nBt, ⟨cl h.tree.c0 h.ntb, cl h.tree.c1 h.ntb, h.tree.m.block (k.same mb lm h.nmb)⟩, h.own.block (fun g hg => k.same g (h.own.blt hg) (h.row g hg)), no Bt lB h.nBt, no tb lt h.ntb, no mb lm h.nmb, fun g hg => no g (h.own.blt hg) (h.row g hg)⟩

set_option maxRecDepth 100000 in
set_option maxHeartbeats 4000000 in
theorem nodes_stops {α : Type} (val : α → Int × Int) (ys : List α) {fv : Value} {P : List Int → Prop} {srt : List Int → List Int} (hsort : SortsBy fv P srt) (m : Nat) (n₀ : Nat) (Q : Nat → Prop) (Bs Bt Bc tb mb L : Nat) (n : Int) (c : Int → Int) (zs : List Int) (w : World) (h : ItPre n₀ Q Bs Bt Bc tb mb fv n c w)
    (hf : ∃ fn fi ca, fv = .func fn fi ca) (hg : Good L c) (hL : L ≤ 20) (hzl : zs.length ≤ 4194304) (hP : ∀ (D : DataW Unit) (ss : List Int) (W : World), W.ownsMap Try.prog 3 (plainElem Try.prog 3) mb (size D) D → Reads D c → ss.Perm (intKeys D) → P ss ∧ srt ss = zs) (hzw : ∀ z ∈ zs, InW z) (hys : ys.map val = zs.map (fun q => (q, c q))) :
    SeqStopsK Fence.wide (m + 6) Try.prog 53 #[.pointer (some ⟨Bt, 0, none⟩), .pointer (some ⟨Bc, 0, none⟩)] (fun x => encN (val x)) (KpT n₀ Q Bs) (fun xs => xs = ys) (fun pre => pre <+: ys) ys.length w := fun l J Jx W hW hJ hJx hY h0 => by
  have hn0 := h.n0
  have hlt := h.lt
  have e0 : W.cell? ⟨Bt, 0, none⟩ = some (.pointer (some ⟨tb, 0, none⟩)) := cell_later hW h.bt
  have e1 : W.cell? ⟨Bc, 0, none⟩ = some fv := cell_later hW h.bc
  have e2 : W.cell? ⟨tb, 0, none⟩ = some (.map (some mb)) := cell_later hW h.tree.c0
  obtain ⟨fn, fi, ca, rfl⟩ := hf
  have HW := Lib.hid hW
  have HH := Lib.hid h
  have HY := Lib.hid hY
  have HSO := Lib.hid hsort
  have HPP := Lib.hid hP
  have HZW := Lib.hid hzw
  have HG := Lib.hid hg
  have HJ := Lib.hid hJ
  have HYS := Lib.hid hys
  have HYL := Lib.hid (show ys.length = zs.length by have := congrArg List.length hys; simpa using this)
  have H0 := Lib.hid h0
  clear h hW hY hsort hP hzw hg hJ h0 hys
  refine callsIn_of_wp Try.func53 rfl trivial ?_ rfl
  simp only [Try.ntmps53, List.size_toArray, List.length_cons, List.length_nil, Nat.reduceAdd, Nat.reduceSub, Array.replicate_succ, Array.replicate_zero, List.push_toArray, List.append_toArray, List.nil_append, List.cons_append]
  have hSF : ∀ V, Drew (W.alloc (.cells #[.map (some mb)] 67)) V → CallsIn Fence.wide (m + 5) Try.prog 54 #[.func (.func 69) #[] #[.pointer (some ⟨W.heap.size, 0, none⟩)], .func fn fi ca] V (fun e w' => ∃ (ao : Option Addr) (cap : Nat), e = .returned (.slice ao zs.length cap) ∧ OwnI w' (W.heap.size + 1) 3 (.slice ao zs.length cap) zs.length zs ∧ Below W.heap.size W w') := by
    intro V hd
    have hba : Below W.heap.size W (W.alloc (.cells #[.map (some mb)] 67)) := (Below.refl _ _).alloc (Nat.le_refl _) _
    have hm : Cm V mb c := ((HH.out.tree.m.keep HW.out).keep hba).block (by obtain ⟨k, rfl⟩ := hd; rfl)
    obtain ⟨D, hown, hr⟩ := hm
    have hsz := own_size hown hr HG.out
    have hs2 := sz_le hL
    have hbx : V.cell? ⟨W.heap.size, 0, none⟩ = some (.map (some mb)) := by rw [hd.cell]; simp
    have hvs : V.heap.size = W.heap.size + 1 := by rw [hd.size]; simp
    refine callsIn_wide.2 ((callsIn_wide (n := 5)).1 ((sortedFunc_in HSO.out W.heap.size mb (size D) L D V (by omega) hbx hown (by omega) (fun ss hp => (HPP.out D ss V hown hr hp).1)).mono ?_))
    rintro e w' ⟨v, ss, rfl, hp, hown', hb⟩
    rw [(HPP.out D ss V hown hr hp).2, hvs] at hown'
    obtain ⟨ao, cap, rfl, _⟩ := hown'.il
    exact ⟨ao, cap, rfl, hown', (hba.trans hd.below).trans (hb.mono (by omega))⟩
  have HSF := Lib.hid hSF
  clear hSF
  gi_wp2
  have hba : Below W.heap.size W (W.alloc (.cells #[.map (some mb)] 67)) := (Below.refl _ _).alloc (Nat.le_refl _) _
  have f1 := cell_later hba e1
  gi_region_with (first | (refine ⟨trivial, ?_⟩; gi_at_call 55; refine (keys_any _ mb _).mono ?_; rintro e w4 ⟨rfl, rfl⟩) | (refine ⟨trivial, ?_⟩; gi_at_call 54; refine (HSF.out _ ⟨1, rfl⟩).mono ?_; rintro e w5 ⟨ao, cap, rfl, hown, hb⟩))
  all_goals
    have HI0 : Hid (ItIn n₀ Q Bs Bt tb mb n c zs (.slice ao zs.length cap) w5) := ItIn.start HH.out HW.out hb hown
    have HJ0 : Hid (J [] w5) := HJ.out [] W w5 none H0.out ⟨hb.os, hb.tape, hb.output, hb.size, fun k hk _ => hb.block k hk⟩ (fun r e => by cases e)
    clear hown hb f1 e0 e1 e2 hba
    gi_wp2
    gi_loopw [14] (fun t wr => ∃ k : Nat, k ≤ zs.length ∧ t = .int .i64 (k : Int) ∧ Hid (J (ys.take k) wr ∧ ItIn n₀ Q Bs Bt tb mb n c zs (.slice ao zs.length cap) wr)) (fun t _ => zs.length - (intOf t).toNat)
    case atStart => exact ⟨0, by omega, rfl, HJ0.out, HI0.out⟩
    case round =>
      obtain ⟨k, hk, rfl, HR⟩ := hrel
      clear HI0 HJ0
      by_cases hlt : k < zs.length
      · have u1 : (k : Int) < (zs.length : Int) := by omega
        have u0 : (0 : Int) ≤ (k : Int) := by omega
        obtain ⟨ao2, cap2, he, _, _, hil⟩ := HR.out.2.own.il
        obtain ⟨rfl, rfl⟩ : ao2 = ao ∧ cap2 = cap := by simpa using he.symm
        obtain ⟨b, off, rfl, hc⟩ := hil.at (by omega)
        have ck := hc k hlt
        rw [List.getElem?_eq_getElem hlt] at ck
        simp only [Option.getD_some] at ck
        have hzk := HZW.out _ (List.getElem_mem hlt)
        have hlook := Cm.look HR.out.2.tree.m _ hzk
        have g0 := HR.out.2.bt
        have g1 := HR.out.2.tree.c0
        have hky : k < ys.length := by rw [HYL.out]; exact hlt
        have hlen : (ys.take k).length < ys.length := by rw [List.length_take]; omega
        have hvk : val ys[k] = (zs[k], c zs[k]) := by
          have h8 := congrArg (fun l => l[k]?) HYS.out
          simpa [List.getElem?_eq_getElem hlt, List.getElem?_eq_getElem hky] using h8
        obtain ⟨fn', tmps, assign, body, hy, hR⟩ := HY.out _ (ys[k]) wr HR.out.1 hlen
        rw [hvk] at hy
        dsimp only [encN] at hy
        obtain ⟨z, hz⟩ : ∃ z, z = zs[k] := ⟨_, rfl⟩
        rw [← hz] at ck hlook hy
        obtain ⟨y, hyc⟩ : ∃ y, y = c z := ⟨_, rfl⟩
        rw [← hyc] at hlook hy
        have HZ := Lib.hid hz
        have HYC := Lib.hid hyc
        clear hlen he hil hc hzk hz hyc hvk
        have HTK : Hid (ys.take (k + 1) = ys.take k ++ [ys[k]]) := List.take_succ_eq_append_getElem hky
        gi_wp2
        refine hR.mono ?_
        rintro e W3 (⟨rfl, hJ3, hk3⟩ | ⟨rfl, hJx3⟩)
        · have HS3 := Lib.hid (HR.out.2.step hk3)
          have HJ3 := Lib.hid hJ3
          clear hJ3 hk3
          gi_wp2
          go_roundw
          case rel =>
            refine ⟨k + 1, by omega, by go_num, ?_, HS3.out⟩
            rw [HTK.out]
            exact HJ3.out
          case measure => simp only [intOf]; omega
        · have HJX := Lib.hid hJx3
          clear hJx3
          gi_wp2
          refine bodyPost_ret (results_none rfl _ _ _) rfl ?_
          refine ⟨⟨_, rfl⟩, .inr ⟨_, ?_, HJX.out⟩⟩
          rw [← HTK.out]
          exact List.take_prefix _ _
      · have u1 : ¬ (k : Int) < (zs.length : Int) := by omega
        gi_wp2
        go_end0
        have hj := HR.out.1
        rw [List.take_of_length_le (by rw [HYL.out]; omega)] at hj
        first | exact ⟨⟨_, rfl⟩, .inl hj⟩ | exact ⟨⟨_, rfl⟩, .inl ⟨_, rfl, hj⟩⟩
end Go.Proofs.Ythjmiimkplhffaa

/- slices.Collect over the nodes of a tree; the program's Nodes. -/
set_option linter.unusedVariables false
set_option linter.unusedSimpArgs false
namespace Go.Proofs.Ythjmiimkplhffaa
open Go.RowKit Go.Maps Go.Shelf

attribute [local go_sem] Oper.semAt_some

/-- 'append(s, xs...)' to an own row, inside a fence; where the new row lies -/
theorem wpListIn_app {F : Fence} {n : Nat} {P : Program} (w : World) {ops : Array Oper} {rest : List Oper} {o : Oper} {a : Act} {Q : Exit → Act → World → Prop}
    (hg : o.guard = none) (s x : Operand) (t : TypeId) (hop : o.op = Op.call { callee := Callee.builtin Builtin.append, args := #[s, x], argTypes := #[t, t] })
    (base : Nat) (e : TypeId) (i : TypeInfo) (z : Value) (size bytes : Nat) (h1 : P.underlying t = some (.slice e)) (h2 : P.info? e = some i) (h3 : i.zero = some z) (h4 : i.size = size) (h5 : i.bytes = bytes) (h6 : z.cells.size = size) (h7 : 0 < size)
    (v : Value) (k : Nat) (xs : List Value) (hs : a.eval s = v) (hown : w.ownsRow base e size v k xs) (ad : Addr) (m c : Nat) (news : List Value) (hx : a.eval x = .slice (some ad) m c) (hn : news.length = m * size)
    (hc : ∀ j u, news[j]? = some u → w.cell? (ad.add j) = some u) (h1c : ∀ u ∈ news, u.oneCell' = true) (hm : 0 < m) (b1 : k + m ≤ maxLen) (b2 : (k + m) * bytes ≤ 140737488355328) (b3 : base ≤ w.heap.size)
    (hK : ∀ g cap w', w'.ownsRow base e size (.slice (some ⟨g, 0, none⟩) (k + m) cap) (k + m) (xs ++ news) → w.grownBy w' v.ownBlock → (v.ownBlock = some g ∨ g = w.heap.size) → wpListIn F n P ops Q rest (a.put o.dst (.slice (some ⟨g, 0, none⟩) (k + m) cap)) w') :
    wpListIn F n P ops Q (o :: rest) a w := by
  refine wpListIn_plain hg fun K hK' => ?_
  obtain ⟨g, cap, w', hrun, r1, r2, r3, _⟩ := run_append_lies (P := P) w t o.type base e i z size bytes h1 h2 h3 h4 h5 h6 h7 v k xs hown ad m c news hn hc h1c hm b1 b2 b3 w.heap.size rfl
  unfold Oper.wpIn
  refine ⟨?_, ?_⟩
  · simp [Oper.about, hop, resolve, Target.leads, Sem.run_pure]
  · rw [Oper.semAt_plain F _ _ (by rw [hop]; intro c hc'; cases hc')]
    simp [execOp, hop, resolve, invoke, builtin, hs, hx, hrun, Result.andThen]
    exact hK' _ _ (hK g cap w' r1 r2 r3)

/-- nodes as cells -/
def ncells (xs : List (Int × Int)) : List Value := xs.flatMap (fun x => [.int .i64 x.1, .int .i64 x.2])
theorem ncells_snoc (xs : List (Int × Int)) (x : Int × Int) : ncells (xs ++ [x]) = ncells xs ++ [.int .i64 x.1, .int .i64 x.2] := by simp [ncells]
theorem ncells_len (xs : List (Int × Int)) : (ncells xs).length = xs.length * 2 := by
  unfold ncells
  induction xs with
  | nil => rfl
  | cons x xs ih => simp [ih]; omega

/-- the slice of nodes in the box -/
def RowN (n₀ Bs : Nat) (pre : List (Int × Int)) (W : World) : Prop := ∃ v, Boxed W Bs 61 v ∧ W.ownsRow n₀ 64 2 v pre.length (ncells pre) ∧ True

theorem two_boxed {W : World} {B : Nat} {x : Int × Int} {t : TypeId} (h : W.heap[B]? = some (.cells #[.int .i64 x.1, .int .i64 x.2] t (0, 0))) : W.cell? ⟨B, 0, none⟩ = some (.int .i64 x.1) ∧ W.cell? ⟨B, 1, none⟩ = some (.int .i64 x.2) := ⟨(two_cells h).1, (two_cells h).2.1⟩

theorem infoN : (Try.prog.info? 64).map (fun i => (i.zero, i.size, i.bytes)) = some (some (.agg #[.int .i64 0, .int .i64 0]), 2, 16) := by kernel_rfl
theorem two_new (W : World) (x y : Int) : ∀ (j : Nat) (u : Value), ([.int .i64 x, .int .i64 y] : List Value)[j]? = some u → (W.alloc (.cells #[.int .i64 x, .int .i64 y] 64)).cell? ((⟨W.heap.size, 0, none⟩ : Addr).add j) = some u := by
  intro j u hj
  have h := two_cells (cells_new W #[.int .i64 x, .int .i64 y] 64)
  match j, hj with
  | 0, hj => simp at hj; subst hj; simp [Addr.add]
  | 1, hj => simp at hj; subst hj; simp [Addr.add]

theorem kpt_alloc {n₀ Bs : Nat} {Q : Nat → Prop} (W : World) (o : Obj) (hB : Bs < W.heap.size) : KpT n₀ Q Bs W (W.alloc o) :=
  KpT.of (Only.of_below ((Below.refl _ _).alloc (Nat.le_refl _) _)) (fun v' k h1 h2 => .inl ⟨v', by rw [← h1]; exact (World.cell?_of_block (w := W) (a := ⟨Bs, 0, none⟩) (Below.heap_alloc W o Bs hB)).symm, h2⟩)

set_option maxRecDepth 100000 in
set_option maxHeartbeats 8000000 in
theorem appendNodes_in {fv : Value} {P : List Int → Prop} {srt : List Int → List Int} (hsort : SortsBy fv P srt) (m Bt Bc tb mb L : Nat) (n : Int) (c : Int → Int) (zs : List Int) (w : World)
    (bt : w.cell? ⟨Bt, 0, none⟩ = some (.pointer (some ⟨tb, 0, none⟩))) (bc : w.cell? ⟨Bc, 0, none⟩ = some fv) (ht : Tree w tb mb n c)
    (hf : ∃ fn fi ca, fv = .func fn fi ca) (hg : Good L c) (hL : L ≤ 20) (hzl : zs.length ≤ 4194304) (hP : ∀ (D : DataW Unit) (ss : List Int) (W : World), W.ownsMap Try.prog 3 (plainElem Try.prog 3) mb (size D) D → Reads D c → ss.Perm (intKeys D) → P ss ∧ srt ss = zs) (hzw : ∀ z ∈ zs, InW z) :
    CallsIn Fence.wide (m + 8) Try.prog 65 #[.slice none 0 0, .func (.func 53) #[] #[.pointer (some ⟨Bt, 0, none⟩), .pointer (some ⟨Bc, 0, none⟩)]] w
      (fun e w' => ∃ v, e = .returned v ∧ w'.ownsRow w.heap.size 64 2 v zs.length (ncells (zs.map (fun q => (q, c q)))) ∧ Below w.heap.size w w') := by
  have hbn := Boxed.new w 61 (.slice none 0 0)
  have hb1 : Below w.heap.size w (w.alloc (.cells #[.slice none 0 0] 61)) := (Below.refl _ w).alloc (Nat.le_refl _) _
  have lt := block_lt_of_cell bt
  have lt2 := block_lt_of_cell ht.c0
  have lm := ht.m.lt
  have hpre : ItPre (w.heap.size + 1) (fun k => k = w.heap.size) w.heap.size Bt Bc tb mb fv n c (w.alloc (.cells #[.slice none 0 0] 61)) :=
    ⟨by simp, cell_later hb1 bt, cell_later hb1 bc, ⟨cell_later hb1 ht.c0, cell_later hb1 ht.c1, ht.m.keep hb1⟩, ⟨by simp at lt; omega, by simp at lt2; omega, by omega, by omega⟩, fun k hk => by subst hk; simp at lt lt2; exact ⟨by omega, by omega, by omega, by omega⟩, fun v k h1 h2 => by rw [hbn.cell] at h1; obtain rfl := Option.some.inj h1; simp [Value.ownBlock] at h2⟩
  have hst := nodes_stops (fun x : Int × Int => x) (zs.map (fun q => (q, c q))) hsort (m + 1) (w.heap.size + 1) (fun k => k = w.heap.size) w.heap.size Bt Bc tb mb L n c zs _ hpre hf hg hL hzl hP hzw (by simp)
  have HST := Lib.hid hst
  have HBN := Lib.hid hbn
  have HB1 := Lib.hid hb1
  clear hst hbn hb1 hpre bt bc ht hP hzw hsort hg hf
  refine callsIn_of_wp_marks Try.func65 rfl trivial ?_ rfl
  simp only [Try.ntmps65, List.size_toArray, List.length_cons, List.length_nil, Nat.reduceAdd, Nat.reduceSub, Array.replicate_succ, Array.replicate_zero, List.push_toArray, List.append_toArray, List.nil_append, List.cons_append]
  obtain ⟨i0, hi, hz0, hz1, hz2⟩ := info_parts infoN
  gi_wp2
  refine wpIn_rangeFunc_ownH rfl (by omega) (gf := 53) (lb := #[.pointer (some ⟨Bt, 0, none⟩), .pointer (some ⟨Bc, 0, none⟩)]) rfl trivial (enters_of Try.func53 (by kernel_rfl) rfl)
    HST.out (fun h k => KpT.trans h k) (KpT.putObj (by simp) (by simp)) (Below.refl _ _) (fun _ => rfl)
    (fun pre W => RowN w.heap.size w.heap.size pre W ∧ Below w.heap.size w W) (fun _ _ _ => False)
    (OwnFrom.and (Own.from (holdsRow_own w.heap.size w.heap.size _ _ 2 (fun pre => pre.length) ncells (fun _ _ => True)) _) (ownFrom_below (Nat.le_refl _) (by simp)))
    (fun _ _ _ _ _ hs _ _ => hs)
    ⟨⟨_, HBN.out, ⟨rfl, .inl ⟨rfl, rfl⟩⟩, trivial⟩, HB1.out⟩
    (fun x a' W => ∃ Bx, w.heap.size < Bx ∧ W.heap[Bx]? = some (.cells #[.int .i64 x.1, .int .i64 x.2] 64 (0, 0)) ∧ a' = { tmps := #[.slice none 0 0, .func (.func 53) #[] #[.pointer (some ⟨Bt, 0, none⟩), .pointer (some ⟨Bc, 0, none⟩)], .pointer (some ⟨w.heap.size, 0, none⟩), undef, .slice none 0 0, .pointer (some ⟨Bx, 0, none⟩), .func (.func 53) #[] #[.pointer (some ⟨Bt, 0, none⟩), .pointer (some ⟨Bc, 0, none⟩)], .agg #[.int .i64 x.1, .int .i64 x.2], undef, undef, undef, undef, undef], defers := [] })
    (fun x a' _ X Y row hs hg hr => by
      obtain ⟨Bx, h1, h2, h3⟩ := hs
      exact ⟨Bx, h1, (hg.block Bx (Array.getElem?_eq_some_iff.1 h2).1 (fun e => by obtain ⟨_, o, ho, hc⟩ := hr Bx e.symm; rw [h2] at ho; obtain rfl := Option.some.inj ho; simp [Obj.isCells] at hc)).trans h2, h3⟩)
    ?assign ?body ?done ?stop
  case assign =>
    rintro l pre x W K ⟨⟨v, hv, hrow, _⟩, hB⟩ hK
    gi_wp2
    exact hK _ _ ((KeepsOthers.alloc _ _).from _) (kpt_alloc W _ hv.lt) ⟨⟨v, hv.alloc _, hrow.alloc _, trivial⟩, hB.alloc hB.size _⟩ ⟨W.heap.size, hv.lt, cells_new W _ _, rfl⟩
  case body =>
    rintro l pre x a' W hl ⟨r, hr⟩ ⟨⟨v, hv, hrow, _⟩, hB⟩ ⟨Bx, hBx, hbx, rfl⟩ hlen
    have hlen : pre.length < zs.length := by simpa using hlen
    have cv := hv.cell
    have fv := hv.frozen
    have cx := two_boxed hbx
    have cx0 := cx.1
    have cx1 := cx.2
    have hsz := hB.size
    have HROW := Lib.hid hrow
    have HV := Lib.hid hv
    have HBB := Lib.hid hB
    clear hrow hv hB hbx cx
    gi_wp2_with (gi_at_builtin; refine wpListIn_app _ rfl _ _ 61 rfl w.heap.size 64 i0 (.agg #[.int .i64 0, .int .i64 0]) 2 16 Try.underlying61 hi hz0 hz1 hz2 rfl (by decide) _ _ _ rfl (HROW.out.alloc _) ⟨W.heap.size, 0, none⟩ 1 1 [.int .i64 x.1, .int .i64 x.2] rfl rfl (two_new W x.1 x.2) (by simp [Value.oneCell']) (by omega) (by unfold maxLen; omega) (by omega) (by simp; omega) ?_; intro g' cap' w1 hown' hgrow hat; obtain ⟨hv1, hv2, hr2, hk2, hb2⟩ := HV.out.appended (by decide) HROW.out hsz (Nat.le_refl _) hown' hgrow; have hc1 := hv1.cell; have hf1 := hv1.frozen)
    refine ⟨hk2.from _, KpT.of ?_ ?_, ⟨⟨_, hv2, ?_, trivial⟩, HBB.out.trans hb2⟩⟩
    · have o1 : Only (fun k => k = w.heap.size ∨ ∃ v, W.cell? ⟨w.heap.size, 0, none⟩ = some v ∧ v.ownBlock = some k) W (W.alloc (.cells #[.int .i64 x.1, .int .i64 x.2] 64)) := Only.of_below ((Below.refl _ _).alloc (Nat.le_refl _) _)
      exact (o1.trans ((Only.of_grown hgrow).mono (fun i hi => .inr ⟨v, cv, hi⟩))).trans ((Only.setCell w1 ⟨w.heap.size, 0, none⟩ _).mono (fun i hi => .inl hi))
    · intro v' k h1 h2
      rw [hv2.cell] at h1
      obtain rfl := Option.some.inj h1
      obtain rfl : g' = k := by simpa [Value.ownBlock] using h2
      rcases hat with e | e
      · exact .inl ⟨v, cv, e⟩
      · right; rw [e]; simp
    · rw [List.length_append, ncells_snoc]
      exact hr2
  case done =>
    rintro D ys W hD rfl ⟨⟨v, hv, hrow, _⟩, hB⟩ hK
    have cv := hv.cell
    gi_wp2
    refine ⟨by simp, .inl ⟨_, _, rfl, run_takeDeferred hK, ?_⟩⟩
    have hl : (zs.map (fun q => (q, c q))).length = zs.length := by simp
    rw [hl] at hrow
    exact ⟨_, results_tmp rfl _ _ _, v, rfl, ownsRow_putObj hrow _ hK rfl, hB.trans (belowK_b (w := w) (Nat.le_refl _) W D _ _ (by simp at hD; omega) hK rfl rfl)⟩
  case stop =>
    rintro D c pre W _ _ h _
    exact h.elim
end Go.Proofs.Ythjmiimkplhffaa

/- slices.Collect over nodes, and the program's Nodes. -/
set_option linter.unusedVariables false
set_option linter.unusedSimpArgs false
namespace Go.Proofs.Ythjmiimkplhffaa
open Go.RowKit Go.Maps Go.Shelf

/-- The slice (ao, len) reads as the nodes xs. -/
def Nl (w : World) (ao : Option Addr) (len : Nat) (xs : List (Int × Int)) : Prop :=
  xs.length = len ∧ ∃ b, (0 < len → ao = some ⟨b, 0, none⟩) ∧ ∀ i, i < len → w.cell? ⟨b, i * 2, none⟩ = some (.int .i64 (xs[i]?.getD (0, 0)).1) ∧ w.cell? ⟨b, i * 2 + 1, none⟩ = some (.int .i64 (xs[i]?.getD (0, 0)).2)
theorem Nl.keep {w w' : World} {ao : Option Addr} {len : Nat} {xs : List (Int × Int)} (h : Nl w ao len xs) (hb : Below w.heap.size w w') : Nl w' ao len xs := by
  obtain ⟨h1, b, h2, h3⟩ := h
  exact ⟨h1, b, h2, fun i hi => ⟨cell_later hb (h3 i hi).1, cell_later hb (h3 i hi).2⟩⟩
theorem Nl.len {w : World} {ao : Option Addr} {len : Nat} {xs : List (Int × Int)} (h : Nl w ao len xs) : xs.length = len := h.1
theorem Nl.at {w : World} {ao : Option Addr} {len : Nat} {xs : List (Int × Int)} (h : Nl w ao len xs) (h0 : 0 < len) : ∃ b, ao = some ⟨b, 0, none⟩ ∧ ∀ i, i < len → w.cell? ⟨b, i * 2, none⟩ = some (.int .i64 (xs[i]?.getD (0, 0)).1) ∧ w.cell? ⟨b, i * 2 + 1, none⟩ = some (.int .i64 (xs[i]?.getD (0, 0)).2) := by
  obtain ⟨_, b, h2, h3⟩ := h
  exact ⟨b, h2 h0, h3⟩
theorem Nl.nil (w : World) (ao : Option Addr) : Nl w ao 0 [] := ⟨rfl, 0, fun h => by omega, fun i hi => by omega⟩

theorem ncells_get : ∀ (xs : List (Int × Int)) (i : Nat), i < xs.length → (ncells xs)[i * 2]? = some (.int .i64 (xs[i]?.getD (0, 0)).1) ∧ (ncells xs)[i * 2 + 1]? = some (.int .i64 (xs[i]?.getD (0, 0)).2)
  | [], i, h => absurd h (by simp)
  | x :: xs, 0, _ => by simp [ncells]
  | x :: xs, i + 1, h => by
    have ih := ncells_get xs i (by simpa using h)
    have e : ncells (x :: xs) = .int .i64 x.1 :: .int .i64 x.2 :: ncells xs := by simp [ncells]
    rw [e, show (i + 1) * 2 = i * 2 + 1 + 1 by omega, show i * 2 + 1 + 1 + 1 = (i * 2 + 1) + 1 + 1 by omega]
    simpa using ih

theorem nl_of_row {w : World} {base : Nat} {v : Value} {n : Nat} {xs : List (Int × Int)} (h : w.ownsRow base 64 2 v n (ncells xs)) : ∃ ao cap, v = .slice ao n cap ∧ cap ≤ maxLen ∧ Nl w ao n xs := by
  have hl : xs.length = n := by have := h.1; rw [ncells_len] at this; omega
  rcases h.2 with ⟨rfl, rfl⟩ | ⟨g, cap, cur, rfl, _, hg, h1, h2, h3, h4⟩
  · obtain rfl := List.eq_nil_of_length_eq_zero hl
    exact ⟨none, 0, rfl, Nat.zero_le _, Nl.nil _ _⟩
  · refine ⟨_, cap, rfl, h2, hl, g, fun _ => rfl, fun i hi => ?_⟩
    have hc := h.cells (g := g) rfl
    have hx := ncells_get xs i (by omega)
    have c0 := hc _ _ hx.1
    have c1 := hc _ _ hx.2
    have a0 : ((⟨g, 0, none⟩ : Addr).add (i * 2)) = ⟨g, i * 2, none⟩ := by unfold Addr.add; split <;> simp_all
    have a1 : ((⟨g, 0, none⟩ : Addr).add (i * 2 + 1)) = ⟨g, i * 2 + 1, none⟩ := by unfold Addr.add; split <;> simp_all
    rw [a0] at c0
    rw [a1] at c1
    exact ⟨c0, c1⟩

theorem up_ids {L : Nat} {c : Int → Int} (hg : Good L c) (hL : L ≤ 20) (mb : Nat) (D : DataW Unit) (ss : List Int) (W : World) (hown : W.ownsMap Try.prog 3 (plainElem Try.prog 3) mb (size D) D) (hr : Reads D c) (hp : ss.Perm (intKeys D)) : True ∧ sortUp ss = idsL L c :=
  ⟨trivial, sort_ids hown hr hg hL hp _ (fun x y => by rw [lt_cmp]; by_cases h : y < x <;> simp [h] <;> omega)⟩
theorem ids_word {L : Nat} {c : Int → Int} (hg : Good L c) (hL : L ≤ 20) : ∀ z ∈ idsL L c, InW z := fun z hz => by
  have h4 := hg.2 z ((mem_ids hg z).1 hz)
  have h5 := SZ_cast L
  have h6 := sz_le hL
  unfold InW
  omega

set_option maxHeartbeats 2000000 in
theorem collectNodes_in (m Bt Bc tb mb L : Nat) (n : Int) (c : Int → Int) (w : World)
    (bt : w.cell? ⟨Bt, 0, none⟩ = some (.pointer (some ⟨tb, 0, none⟩))) (bc : w.cell? ⟨Bc, 0, none⟩ = some (.func (.func 52) #[] #[])) (ht : Tree w tb mb n c) (hg : Good L c) (hL : L ≤ 20) :
    CallsIn Fence.wide (m + 9) Try.prog 51 #[.func (.func 53) #[] #[.pointer (some ⟨Bt, 0, none⟩), .pointer (some ⟨Bc, 0, none⟩)]] w
      (fun e w' => ∃ v, e = .returned v ∧ w'.ownsRow w.heap.size 64 2 v (idsL L c).length (ncells (nodesL L c)) ∧ Below w.heap.size w w') := by
  have h := appendNodes_in sortsUp m Bt Bc tb mb L n c (idsL L c) w bt bc ht ⟨_, _, _, rfl⟩ hg hL (Nat.le_trans (ids_len L c) (by have := sz_le hL; omega)) (fun D ss W h1 h2 h3 => up_ids hg hL mb D ss W h1 h2 h3) (ids_word hg hL)
  have H := Lib.hid h
  clear h bt bc ht hg
  refine callsIn_of_wp Try.func51 rfl trivial ?_ rfl
  simp only [Try.ntmps51, List.size_toArray, List.length_cons, List.length_nil, Nat.reduceAdd, Nat.reduceSub, Array.replicate_succ, Array.replicate_zero, List.push_toArray, List.append_toArray, List.nil_append, List.cons_append]
  gi_wp2_with (refine ⟨trivial, ?_⟩; gi_at_call 65; refine H.out.mono ?_; rintro e w' ⟨v, rfl, hrow, hb⟩)
  go_ret
  exact ⟨v, rfl, hrow, hb⟩

theorem nodes_no (W : World) : Calls Try.prog 29 #[.agg #[.int .i64 0, .int .i64 0, .pointer none]] W (fun e w' => e = .returned (.slice none 0 0) ∧ Below W.heap.size W w') := by
  have hb : Below W.heap.size W (W.alloc (.cells #[.int .i64 0, .int .i64 0, .pointer none] 28)) := (Below.refl _ _).alloc (Nat.le_refl _) _
  have HB := Lib.hid hb
  clear hb
  go_enter Try.func29, Try.ntmps29
  go_wp2_with (go_at_call 35; refine (usable_no _).mono ?_; rintro e w1 ⟨rfl, hb1⟩; have HB1 := Lib.hid (below_then HB.out hb1); clear hb1)
  go_ret
  exact ⟨rfl, HB1.out⟩

/-- a slice of nodes is returned -/
def OutN (W : World) (xs : List (Int × Int)) (e : Ending) (w' : World) : Prop := ∃ ao cap, e = .returned (.slice ao xs.length cap) ∧ cap ≤ maxLen ∧ Nl w' ao xs.length xs ∧ Below W.heap.size W w'

set_option maxHeartbeats 2000000 in
theorem nodesD_any (tb L : Nat) (F : Int) (c : Int → Int) (W : World) (h : DigM W tb L F c) : Calls Try.prog 29 #[.agg #[.int .i64 (L : Int), .int .i64 F, .pointer (some ⟨tb, 0, none⟩)]] W (OutN W (nodesL L c)) := by
  refine (callsIn_wide (n := 12)).1 ?_
  obtain ⟨mb, h1, h2, h3, h4, h5, h6, h7⟩ := h
  have hb : Below W.heap.size W (W.alloc (.cells #[.int .i64 (L : Int), .int .i64 F, .pointer (some ⟨tb, 0, none⟩)] 28)) := (Below.refl _ _).alloc (Nat.le_refl _) _
  have HB := Lib.hid hb
  have HT := Lib.hid h1
  have HG := Lib.hid h5
  have hd := three_cells (cells_new W #[.int .i64 (L : Int), .int .i64 F, .pointer (some ⟨tb, 0, none⟩)] 28)
  have HD := Lib.hid hd
  have hl : (1 : Int) ≤ (L : Int) := by omega
  have hL : L ≤ 20 := h4.2.1
  clear hb h1 hd h4 h5 h6 h7
  refine callsIn_of_wp Try.func29 rfl trivial ?_ rfl
  simp only [Try.ntmps29, List.size_toArray, List.length_cons, List.length_nil, Nat.reduceAdd, Nat.reduceSub, Array.replicate_succ, Array.replicate_zero, List.push_toArray, List.append_toArray, List.nil_append, List.cons_append]
  gi_wp2_with (first
    | (refine ⟨trivial, ?_⟩; gi_at_call 35; refine (callsIn_wide.2 (usable_yes _ _ _ _ hl)).mono ?_; rintro e w1 ⟨rfl, hb1⟩; have HB1 := Lib.hid (below_then HB.out hb1); have e2 := cell_later hb1 HD.out.2.2.1; clear hb1)
    | (refine ⟨trivial, ?_⟩; gi_at_call 36; refine (nodes_any _ tb _ _ rfl ⟨_, _, _, rfl⟩).mono ?_; rintro e w2 ⟨rfl, rfl⟩))
  have hbw : Below w1.heap.size w1 ((w1.alloc (.cells #[.pointer (some ⟨tb, 0, none⟩)] 26)).alloc (.cells #[.func (.func 52) #[] #[]] 74)) := ((Below.refl _ _).alloc (Nat.le_refl _) _).alloc (by simp) _
  have b1 := Boxed.new w1 26 (.pointer (some ⟨tb, 0, none⟩))
  have b2 := Boxed.new (w1.alloc (.cells #[.pointer (some ⟨tb, 0, none⟩)] 26)) 74 (.func (.func 52) #[] #[])
  rw [World.size_alloc] at b2
  have hbb := HB1.out.trans (hbw.mono HB1.out.size)
  have hcol := collectNodes_in 2 w1.heap.size (w1.heap.size + 1) tb mb L (tot L c) c _ (b1.alloc _).cell b2.cell ⟨cell_later hbb HT.out.c0, cell_later hbb HT.out.c1, HT.out.m.keep hbb⟩ HG.out hL
  refine ⟨trivial, ?_⟩
  refine hcol.mono ?_
  rintro e w3 ⟨v, rfl, hrow, hb3⟩
  obtain ⟨ao, cap, rfl, hcm, hnl⟩ := nl_of_row hrow
  have HN := Lib.hid hnl
  have HB3 := Lib.hid (hbb.trans (hb3.mono hbb.size))
  clear hcol hrow hnl hb3 b1 b2 hbw hbb
  gi_wp2
  go_ret
  have hle : (idsL L c).length = (nodesL L c).length := by unfold nodesL; simp
  rw [hle] at HN ⊢
  exact ⟨ao, cap, rfl, hcm, HN.out, HB3.out⟩
end Go.Proofs.Ythjmiimkplhffaa
