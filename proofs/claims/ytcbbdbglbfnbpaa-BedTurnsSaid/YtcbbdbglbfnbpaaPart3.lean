/- Part 3 of the contracts: PTickM, PTick, PTick2, PBed1, PBed2, PBed3. -/
import Derived.Deep.RegionWith
import Derived.Test.YtcbbdbglbfnbpaaPart2

/- A tick as the program does it: flows added up pair by pair. No function is walked here. -/
set_option linter.unusedVariables false
set_option linter.unusedSimpArgs false
namespace Go.Proofs.Ytcbbdbglbfnbpaa
open Go.RowKit

/-- what flows to the cell j from the one above it -/
def flowTo (n d : Int) (xs : List Int) (j : Nat) : Int := flow n d (xs[j - 1]?.getD 0) (xs[j]?.getD 0)
/-- the pair of the cell j and the one above it is done -/
def pairF (n d : Int) (xs acc : List Int) (j : Nat) : List Int := (acc.set (j - 1) (acc[j - 1]?.getD 0 - flowTo n d xs j)).set j (acc[j]?.getD 0 + flowTo n d xs j)

theorem pairF_len (n d : Int) (xs acc : List Int) (j : Nat) : (pairF n d xs acc j).length = acc.length := by simp [pairF]

theorem flowTo_bound {n d l : Int} {xs : List Int} (hb : Bedly xs) (hg : Grainy n d l) {j : Nat} (h1 : 1 ≤ j) (hj : j < xs.length) : -1048576 ≤ flowTo n d xs j ∧ flowTo n d xs j ≤ 1048576 := by
  obtain ⟨g1, g2, g3, g4, g5, g6, g7⟩ := hg
  have a := hb.2.2 (j - 1) (by omega)
  have b := hb.2.2 j hj
  have := half_part (p := xs[j - 1]?.getD 0 - xs[j]?.getD 0) (n := n) (d := d) g3 g1 (by omega)
  unfold flowTo flow
  omega

/-- no cell is farther from 0 than M -/
def Lim (M : Int) (acc : List Int) : Prop := ∀ i, i < acc.length → -M ≤ acc[i]?.getD 0 ∧ acc[i]?.getD 0 ≤ M
theorem Lim.get {M : Int} {acc : List Int} (h : Lim M acc) {i : Nat} (hi : i < acc.length) : -M ≤ acc[i]?.getD 0 ∧ acc[i]?.getD 0 ≤ M := h i hi
theorem Lim.mono {M M' : Int} {acc : List Int} (h : Lim M acc) (hM : M ≤ M') : Lim M' acc := fun i hi => by have := h i hi; omega
theorem Lim.set {M : Int} {acc : List Int} (h : Lim M acc) (i : Nat) {v : Int} (hv : -M ≤ v ∧ v ≤ M) : Lim M (acc.set i v) := fun k hk => by
  rw [List.length_set] at hk
  rw [List.getElem?_set]
  by_cases c : i = k
  · subst c
    rw [if_pos rfl, if_pos hk]
    exact hv
  · rw [if_neg c]
    exact h k hk
theorem Lim.pair {M : Int} {n d l : Int} {xs acc : List Int} (h : Lim M acc) (hb : Bedly xs) (hg : Grainy n d l) (hl : acc.length = xs.length) {j : Nat} (h1 : 1 ≤ j) (hj : j < xs.length) : Lim (M + 1048576) (pairF n d xs acc j) := by
  have f := flowTo_bound hb hg h1 hj
  have a := h.get (i := j - 1) (by omega)
  have b := h.get (i := j) (by omega)
  exact ((h.mono (by omega)).set _ (by omega)).set _ (by omega)
theorem Bedly.lim {xs : List Int} (h : Bedly xs) : Lim 1048576 xs := fun i hi => by have := h.2.2 i hi; omega

/-- the pairs of the cells 1 .. m are done -/
def Done (n d : Int) (xs : List Int) (m : Nat) (acc : List Int) : Prop :=
  acc.length = xs.length ∧ ∀ i, i < xs.length → acc[i]?.getD 0 = xs[i]?.getD 0 + (if 1 ≤ i ∧ i ≤ m then flowTo n d xs i else 0) - (if i < m then flowTo n d xs (i + 1) else 0)

theorem Done.zero (n d : Int) (xs : List Int) : Done n d xs 0 xs := ⟨rfl, fun i hi => by rw [if_neg (by omega), if_neg (by omega)]; omega⟩
theorem Done.step {n d : Int} {xs acc : List Int} {m : Nat} (h : Done n d xs m acc) (hm : m + 1 < xs.length) : Done n d xs (m + 1) (pairF n d xs acc (m + 1)) := by
  refine ⟨by rw [pairF_len, h.1], fun i hi => ?_⟩
  have hl := h.1
  have e0 := h.2 i hi
  have e1 := h.2 m (by omega)
  have e2 := h.2 (m + 1) hm
  unfold pairF
  rw [Nat.add_sub_cancel, List.getElem?_set]
  by_cases c1 : m + 1 = i
  · subst c1
    rw [if_pos rfl, if_pos (by rw [List.length_set]; omega), Option.getD_some, e2]
    rw [if_neg (show ¬ (1 ≤ m + 1 ∧ m + 1 ≤ m) by omega), if_neg (show ¬ (m + 1 < m) by omega), if_pos (show 1 ≤ m + 1 ∧ m + 1 ≤ m + 1 by omega), if_neg (show ¬ (m + 1 < m + 1) by omega)]
    omega
  · rw [if_neg c1, List.getElem?_set]
    by_cases c2 : m = i
    · subst c2
      rw [if_pos rfl, if_pos (by omega), Option.getD_some, e1, if_neg (show ¬ (m < m) by omega), if_pos (show m < m + 1 by omega)]
      by_cases c3 : 1 ≤ m
      · rw [if_pos (show 1 ≤ m ∧ m ≤ m by omega), if_pos (show 1 ≤ m ∧ m ≤ m + 1 by omega)]; omega
      · rw [if_neg (show ¬ (1 ≤ m ∧ m ≤ m) by omega), if_neg (show ¬ (1 ≤ m ∧ m ≤ m + 1) by omega)]; omega
    · rw [if_neg c2, e0]
      by_cases c3 : 1 ≤ i ∧ i ≤ m
      · rw [if_pos c3, if_pos (show 1 ≤ i ∧ i ≤ m + 1 by omega)]
        by_cases c4 : i < m
        · rw [if_pos c4, if_pos (show i < m + 1 by omega)]
        · exact absurd (show m = i by omega) c2
      · rw [if_neg c3, if_neg (show ¬ (1 ≤ i ∧ i ≤ m + 1) by omega)]
        by_cases c4 : i < m
        · rw [if_pos c4, if_pos (show i < m + 1 by omega)]
        · rw [if_neg c4, if_neg (show ¬ i < m + 1 by omega)]

theorem done_fold (n d : Int) (xs : List Int) : ∀ m, m + 1 ≤ xs.length → Done n d xs m ((List.range' 1 m).foldl (pairF n d xs) xs)
  | 0, _ => Done.zero n d xs
  | m + 1, h => by
    rw [List.range'_concat, List.foldl_append, Nat.one_mul, Nat.add_comm 1 m]
    exact (done_fold n d xs m (by omega)).step (by omega)

theorem tick_of_done {n d l : Int} {xs acc : List Int} (h0 : 1 ≤ xs.length) (h : Done n d xs (xs.length - 1) acc) (v : Int) (hv : v = acc[0]?.getD 0 - lostL d l xs) : acc.set 0 v = tickL n d l xs := by
  subst hv
  refine list_eq (by rw [List.length_set, tickL_len, h.1]) fun i hi => ?_
  rw [List.length_set, h.1] at hi
  rw [tickL_get n d l xs i hi, List.getElem?_set]
  have e := h.2 i hi
  have hl := h.1
  unfold cellT
  by_cases c : 0 = i
  · subst c
    rw [if_pos rfl, if_pos (by omega), Option.getD_some, e, if_neg (show ¬ (1 ≤ 0 ∧ 0 ≤ xs.length - 1) by omega), if_pos rfl]
    by_cases c2 : 0 + 1 < xs.length
    · rw [if_pos (show 0 < xs.length - 1 by omega), if_pos c2]; show _ = _ - _ - flowTo n d xs (0 + 1); omega
    · rw [if_neg (show ¬ 0 < xs.length - 1 by omega), if_neg c2]; omega
  · rw [if_neg c, e, if_pos (show 1 ≤ i ∧ i ≤ xs.length - 1 by omega), if_neg (show ¬ i = 0 by omega)]
    by_cases c2 : i + 1 < xs.length
    · rw [if_pos (show i < xs.length - 1 by omega), if_pos c2]; rfl
    · rw [if_neg (show ¬ i < xs.length - 1 by omega), if_neg c2]; rfl

/-- the numbers alone -/
def lows {la : Nat} (pre : List { j : Nat // 1 ≤ j ∧ j < la }) : List Nat := pre.map (·.1)
theorem lows_len {la : Nat} (pre : List { j : Nat // 1 ≤ j ∧ j < la }) : (lows pre).length = pre.length := by simp [lows]
theorem lows_snoc {la : Nat} (pre : List { j : Nat // 1 ≤ j ∧ j < la }) (x : { j : Nat // 1 ≤ j ∧ j < la }) : lows (pre ++ [x]) = lows pre ++ [x.1] := by simp [lows]
/-- what comes of the pairs in pre -/
def foldP {la : Nat} (n d : Int) (xs : List Int) (pre : List { j : Nat // 1 ≤ j ∧ j < la }) : List Int := (lows pre).foldl (pairF n d xs) xs
theorem foldP_nil {la : Nat} (n d : Int) (xs : List Int) : foldP (la := la) n d xs [] = xs := rfl
theorem foldP_snoc {la : Nat} (n d : Int) (xs : List Int) (pre : List { j : Nat // 1 ≤ j ∧ j < la }) (x : { j : Nat // 1 ≤ j ∧ j < la }) : foldP n d xs (pre ++ [x]) = pairF n d xs (foldP n d xs pre) x.1 := by
  unfold foldP
  rw [lows_snoc, List.foldl_append]; rfl
theorem foldP_all {la : Nat} (n d : Int) (xs : List Int) (pre : List { j : Nat // 1 ≤ j ∧ j < la }) (h : lows pre = List.range' 1 (la - 1)) (hl : xs.length = la) (h1 : 1 ≤ la) : Done n d xs (xs.length - 1) (foldP n d xs pre) := by
  subst hl
  unfold foldP
  rw [h]
  exact done_fold n d xs _ (by omega)
end Go.Proofs.Ytcbbdbglbfnbpaa

/- A tick of the program: the pairs of neighbors by a range over a function. -/
set_option linter.unusedVariables false
set_option linter.unusedSimpArgs false
namespace Go.Proofs.Ytcbbdbglbfnbpaa
open Go.RowKit Go.Shelf

attribute [local go_sem] Oper.semAt_some

/-- a cell that has one above it -/
abbrev Low (la : Nat) := { j : Nat // 1 ≤ j ∧ j < la }
abbrev encLow {la : Nat} (x : Low la) : Array Value := #[.int .i64 ((x.1 : Int) - 1), .int .i64 (x.1 : Int)]
/-- block Bn lies as it lay -/
def Same1 (Bn : Nat) (W W' : World) : Prop := W'.heap[Bn]? = W.heap[Bn]?

set_option maxHeartbeats 400000 in
theorem neighbors_in (n : Nat) (a : Option Addr) (la ca : Nat) (w : World) :
    CallsIn Fence.wide n Try.prog 42 #[.slice a la ca] w fun e w' => e = .returned (.func (.func 43) #[] #[.pointer (some ⟨w.heap.size, 0, none⟩)]) ∧ w' = w.alloc (.cells #[.slice a la ca] 24) := by
  refine callsIn_of_wp Try.func42 rfl trivial ?_ rfl
  simp only [Try.ntmps42, List.size_toArray, List.length_cons, List.length_nil, Nat.reduceAdd, Nat.reduceSub, Array.replicate_succ, Array.replicate_zero, List.push_toArray, List.append_toArray, List.nil_append, List.cons_append]
  gi_wp2
  go_ret
  exact ⟨rfl, rfl⟩

set_option maxRecDepth 100000 in
set_option maxHeartbeats 2000000 in
theorem pairs_stops (n : Nat) (hn : 1 ≤ n) (Bn : Nat) (a : Option Addr) (la ca : Nat) (h0 : 1 ≤ la) (hla : la ≤ 100000) (w : World) (hBn : Boxed w Bn 24 (.slice a la ca)) :
    SeqStopsK Fence.wide n Try.prog 43 #[.pointer (some ⟨Bn, 0, none⟩)] (encLow (la := la)) (Same1 Bn) (fun xs => lows xs = List.range' 1 (la - 1)) (fun _ => True) (la - 1) w := fun l J Jx W hW hJ hJx hY h0 => by
  refine callsIn_of_wp Try.func43 rfl trivial ?_ rfl
  simp only [Try.ntmps43, List.size_toArray, List.length_cons, List.length_nil, Nat.reduceAdd, Nat.reduceSub, Array.replicate_succ, Array.replicate_zero, List.push_toArray, List.append_toArray, List.nil_append, List.cons_append]
  have HB := Lib.hid ((hW.block Bn hBn.lt).trans hBn)
  have HY := Lib.hid hY
  clear hBn hW hY
  gi_wp2
  gi_loopw [3] (fun i wr => ∃ (j : Nat) (pre : List (Low la)), 1 ≤ j ∧ j ≤ la ∧ i = .int .i64 (j : Int) ∧ lows pre = List.range' 1 (j - 1) ∧ J pre wr ∧ Boxed wr Bn 24 (.slice a la ca))
    (fun i _ => la - (intOf i).toNat)
  case atStart => exact ⟨1, [], by omega, by omega, rfl, rfl, h0, HB.out⟩
  case round =>
    obtain ⟨j, pre, h1, h2, rfl, hpre, hJs, hbx⟩ := hrel
    have GP := Lib.hid hpre
    have GX := Lib.hid hbx
    have hc := hbx.cell
    have u0 : (1 : Int) ≤ (j : Int) := by omega
    clear hpre hbx
    by_cases hlt : j < la
    · have u1 : (j : Int) < (la : Int) := by omega
      have hlen : pre.length < la - 1 := by
        have := congrArg List.length GP.out
        rw [lows_len, List.length_range'] at this
        omega
      obtain ⟨fn, tmps, assign, body, hy, hR⟩ := HY.out pre ⟨j, h1, hlt⟩ wr hJs hlen
      dsimp only [encLow] at hy
      clear hlen
      gi_wp2
      refine hR.mono ?_
      rintro e W3 (⟨rfl, hJ3, hk3⟩ | ⟨rfl, hJx3⟩)
      · have GX3 := Lib.hid (show Boxed W3 Bn 24 (.slice a la ca) from Eq.trans hk3 GX.out)
        clear hk3
        gi_wp2
        go_roundw
        case rel =>
          refine ⟨j + 1, pre ++ [⟨j, h1, hlt⟩], by omega, by omega, by go_num, ?_, hJ3, GX3.out⟩
          rw [lows_snoc, GP.out, show j + 1 - 1 = (j - 1) + 1 by omega, List.range'_concat, Nat.one_mul, show 1 + (j - 1) = j by omega]
        case measure => simp only [intOf]; omega
      · gi_wp2
        refine bodyPost_ret (results_none rfl _ _ _) rfl ?_
        exact ⟨⟨_, rfl⟩, .inr ⟨_, trivial, hJx3⟩⟩
    · have u1 : ¬ (j : Int) < (la : Int) := by omega
      gi_wp2
      go_end0
      exact ⟨⟨_, rfl⟩, .inl ⟨pre, by rw [GP.out, show j = la by omega], hJs⟩⟩
end Go.Proofs.Ytcbbdbglbfnbpaa

/- A tick of the program: the walk. (By gen_ptick.py.) -/
set_option linter.unusedVariables false
set_option linter.unusedSimpArgs false
namespace Go.Proofs.Ytcbbdbglbfnbpaa
open Go.RowKit Go.Shelf

attribute [local go_sem] Oper.semAt_some

/-- the boxes of tick, and its own block -/
structure TW (n d l : Int) (ao : Option Addr) (la ca oc Bo : Nat) (W w : World) (acc : List Int) : Prop where
  blk : Blk w Bo acc
  gr : Gr w W.heap.size n d l
  b4 : Boxed w (W.heap.size + 1) 24 (.slice ao la ca)
  b5 : Boxed w (W.heap.size + 1 + 1) 24 (.slice (some ⟨Bo, 0, none⟩) la oc)
  grown : W.grownBy w (some Bo)
  size : W.heap.size + 3 ≤ w.heap.size

section
variable {n d l : Int} {ao : Option Addr} {la ca oc Bo : Nat} {W w w' : World} {acc xs : List Int}
theorem TW.kept {row : Option Nat} (h : TW n d l ao la ca oc Bo W w acc) (hb : Bo < W.heap.size) (hg : w.grownBy w' row) (hr : ∀ r, row = some r → W.heap.size + 3 ≤ r) : TW n d l ao la ca oc Bo W w' acc := by
  have ne : ∀ k, k < W.heap.size + 3 → some k ≠ row := fun k hk e => by have := hr k e.symm; omega
  have hs := h.size
  exact ⟨h.blk.grown hg (ne _ (by omega)), (hg.block _ h.gr.lt (ne _ (by omega))).trans h.gr, h.b4.kept hg (ne _ (by omega)), h.b5.kept hg (ne _ (by omega)),
    ⟨hg.os.trans h.grown.os, hg.tape.trans h.grown.tape, hg.output.trans h.grown.output, Nat.le_trans h.grown.size hg.size, fun k hk hne => (hg.block k (by omega) (ne _ (by omega))).trans (h.grown.block k hk hne)⟩, Nat.le_trans h.size hg.size⟩
theorem TW.own {acc' : List Int} (h : TW n d l ao la ca oc Bo W w acc) (hb : Bo < W.heap.size) (hg : w.grownBy w' (some Bo)) (hB : Blk w' Bo acc') : TW n d l ao la ca oc Bo W w' acc' := by
  have hs := h.size
  exact ⟨hB, (hg.block _ h.gr.lt (by simp; omega)).trans h.gr, h.b4.kept hg (by simp; omega), h.b5.kept hg (by simp; omega), grownBy_trans h.grown hg, Nat.le_trans h.size hg.size⟩
theorem TW.set (h : TW n d l ao la ca oc Bo W w acc) (hb : Bo < W.heap.size) (i : Nat) (v : Int) : TW n d l ao la ca oc Bo W (w.setCell ⟨Bo, i, none⟩ (.int .i64 v)) (acc.set i v) := h.own hb (grownBy_set _ _ _ _) (h.blk.set i v)
theorem TW.drewN (h : TW n d l ao la ca oc Bo W w acc) (k : Nat)  (hb : Bo < W.heap.size) : TW n d l ao la ca oc Bo W (w.drewN k) acc := h.kept hb (grownBy_drewN w k none) (fun r e => by cases e)
theorem TW.il (h : TW n d l ao la ca oc Bo W w acc) (hs : Il W ao la xs) (hne : ∀ a, ao = some a → a.block ≠ Bo) : Il w ao la xs := hs.grown h.grown hne
end

theorem foldP_len {la : Nat} (n d : Int) (xs : List Int) (pre : List (Low la)) : (foldP n d xs pre).length = xs.length := by
  unfold foldP
  generalize lows pre = js
  have : ∀ (js : List Nat) (acc : List Int), (js.foldl (pairF n d xs) acc).length = acc.length := by
    intro js
    induction js with
    | nil => intro acc; rfl
    | cons j js ih => intro acc; rw [List.foldl_cons, ih, pairF_len]
  exact this js xs
theorem foldP_lim {la : Nat} {n d l : Int} {xs : List Int} (hb : Bedly xs) (hg : Grainy n d l) (hl : xs.length = la) (pre : List (Low la)) : Lim (1048576 * ((pre.length : Int) + 1)) (foldP n d xs pre) := by
  have key : ∀ (k : Nat) (pre : List (Low la)), pre.length = k → Lim (1048576 * ((k : Int) + 1)) (foldP n d xs pre) := by
    intro k
    induction k with
    | zero =>
      intro pre h
      obtain rfl := List.eq_nil_of_length_eq_zero h
      rw [foldP_nil]
      exact hb.lim.mono (by omega)
    | succ k ih =>
      intro pre h
      obtain ⟨q, x, rfl⟩ : ∃ q x, pre = q ++ [x] := ⟨pre.dropLast, pre.getLast (by intro e; rw [e] at h; simp at h), (List.dropLast_concat_getLast _).symm⟩
      rw [List.length_append] at h
      simp only [List.length_cons, List.length_nil] at h
      rw [foldP_snoc]
      exact ((ih q (by omega)).pair hb hg (foldP_len n d xs q) x.2.1 (by rw [hl]; exact x.2.2)).mono (by omega)
  exact key _ pre rfl

theorem keeps_drewN (W : World) (k : Nat) : KeepsOthers W (W.drewN k) := ⟨Nat.le_refl _, fun _ _ h _ => h⟩

/-- the body of a round, at the cells of its pair -/
theorem pair_done {n d l : Int} {ao : Option Addr} {la ca oc Bo j k : Nat} {W w : World} {acc xs : List Int} (h : TW n d l ao la ca oc Bo W w acc) (hb : Bo < W.heap.size) (hl : acc.length = la) (hj : j < la) (h1 : k + 1 = j) {f a b : Int} (hf : f = flowTo n d xs j) (ha : a = acc[k]?.getD 0) (hbb : b = acc[j]?.getD 0) :
    TW n d l ao la ca oc Bo W ((w.setCell ⟨Bo, k, none⟩ (.int .i64 (a - f))).setCell ⟨Bo, j, none⟩ (.int .i64 (b + f))) (pairF n d xs acc j) := by
  subst hf ha hbb
  have := (h.set hb k (acc[k]?.getD 0 - flowTo n d xs j)).set hb j (acc[j]?.getD 0 + flowTo n d xs j)
  unfold pairF
  rw [show j - 1 = k by omega]
  exact this

set_option maxRecDepth 100000 in
set_option maxHeartbeats 8000000 in
theorem tickP_any (n d l : Int) (ao : Option Addr) (la ca oc : Nat) (xs zs : List Int) (Bo : Nat) (W : World) (hs : Il W ao la xs) (hne : ∀ a, ao = some a → a.block ≠ Bo) (hB : Blk W Bo zs) (hzl : zs.length = la) (hbed : Bedly xs) (hg : Grainy n d l) :
    Calls Try.prog 33 #[.agg #[.int .i64 n, .int .i64 d, .int .i64 l], .slice ao la ca, .slice (some ⟨Bo, 0, none⟩) la oc] W (fun e w' => e = .returned (.int .i64 (lostL d l xs)) ∧ Blk w' Bo (tickL n d l xs) ∧ W.grownBy w' (some Bo)) := by
  refine (callsIn_wide (n := 5)).1 ?_
  have HL := Lib.hid hs.len
  have hla : 1 ≤ la ∧ la ≤ 64 := by have := hbed.1; have := hbed.2.1; have := hs.len; omega
  have hbl := hB.lt
  have HS := Lib.hid hs
  have HB := Lib.hid hB
  have HZ := Lib.hid hzl
  have HD := Lib.hid hbed
  have HG := Lib.hid hg
  have HN := Lib.hid hne
  clear hs hB hzl hbed hg hne
  refine callsIn_of_wp_marks Try.func33 rfl trivial ?_ rfl
  simp only [Try.ntmps33, List.size_toArray, List.length_cons, List.length_nil, Nat.reduceAdd, Nat.reduceSub, Array.replicate_succ, Array.replicate_zero, List.push_toArray, List.append_toArray, List.nil_append, List.cons_append]
  have hb3 : Below W.heap.size W (((W.alloc (.cells #[.int .i64 n, .int .i64 d, .int .i64 l] 23)).alloc (.cells #[.slice ao la ca] 24)).alloc (.cells #[.slice (some ⟨Bo, 0, none⟩) la oc] 24)) :=
    (((Below.refl _ _).alloc (Nat.le_refl _) _).alloc (by simp) _).alloc (by simp; omega) _
  have HS3 := Lib.hid (HS.out.keep hb3)
  have HT3 : Hid (TW n d l ao la ca oc Bo W (((W.alloc (.cells #[.int .i64 n, .int .i64 d, .int .i64 l] 23)).alloc (.cells #[.slice ao la ca] 24)).alloc (.cells #[.slice (some ⟨Bo, 0, none⟩) la oc] 24)) zs) := Lib.hid (by
    have x4 := (Boxed.new (W.alloc (.cells #[.int .i64 n, .int .i64 d, .int .i64 l] 23)) 24 (.slice ao la ca)).alloc (.cells #[.slice (some ⟨Bo, 0, none⟩) la oc] 24)
    have x5 := Boxed.new ((W.alloc (.cells #[.int .i64 n, .int .i64 d, .int .i64 l] 23)).alloc (.cells #[.slice ao la ca] 24)) 24 (.slice (some ⟨Bo, 0, none⟩) la oc)
    simp only [World.size_alloc] at x4 x5
    exact ⟨HB.out.keep hb3, ((Gr.new W n d l).keep ((Below.refl _ _).alloc (Nat.le_refl _) (.cells #[.slice ao la ca] 24))).keep ((Below.refl _ _).alloc (Nat.le_refl _) (.cells #[.slice (some ⟨Bo, 0, none⟩) la oc] 24)), x4, x5, grownBy_of_below hb3, by simp⟩)
  have HSZ : Hid ((((W.alloc (.cells #[.int .i64 n, .int .i64 d, .int .i64 l] 23)).alloc (.cells #[.slice ao la ca] 24)).alloc (.cells #[.slice (some ⟨Bo, 0, none⟩) la oc] 24)).heap.size = W.heap.size + 3) := Lib.hid (by simp)
  have hd : (xs ++ zs.drop la) = xs := by rw [List.drop_of_length_le (by rw [HZ.out]; exact Nat.le_refl _), List.append_nil]
  have HDR := Lib.hid hd
  clear hb3 hd
  gi_wp2_with (first
    | (refine ⟨trivial, ?_⟩; gi_at_call 42; refine (neighbors_in _ _ _ _ _).mono ?_; rintro e w' ⟨rfl, rfl⟩)
    | ((with_reducible show wpListIn _ _ _ _ _ _ _ _); refine wpListIn_cp rfl (.tmp 11) (.tmp 12) 24 24 rfl Try.underlying24 (by kernel_rfl) Bo la oc ao la ca rfl rfl _ xs HT3.out.blk HS3.out (Nat.le_refl _) (by rw [HZ.out]; exact Nat.le_refl _) (by omega) ?_; intro w4 hB4 hg4 hz4; have HT4 : Hid (TW n d l ao la ca oc Bo W w4 xs) := Lib.hid (HT3.out.own hbl hg4 (by have h := HDR.out; rw [h] at hB4; exact hB4)); have HZ4 := Lib.hid (hz4.trans HSZ.out); have c4 := HT4.out.b4.cell; have c5 := HT4.out.b5.cell; clear hB4 hg4 hz4))
  rw [HZ4.out]
  have HT5 : Hid (TW n d l ao la ca oc Bo W (w4.alloc (.cells #[.slice ao la ca] 24)) xs) := Lib.hid (HT4.out.kept hbl (World.grownBy_alloc _ _ none) (fun r e => by cases e))
  have hn5 : Boxed (w4.alloc (.cells #[.slice ao la ca] 24)) (W.heap.size + 3) 24 (.slice ao la ca) := by have := Boxed.new w4 24 (.slice ao la ca); rwa [HZ4.out] at this
  have HN5 := Lib.hid hn5
  have HZ5 : Hid ((w4.alloc (.cells #[.slice ao la ca] 24)).heap.size = W.heap.size + 4) := Lib.hid (by rw [World.size_alloc, HZ4.out])
  clear hn5 c4 c5
  obtain ⟨w5, hw5⟩ : ∃ w, w = w4.alloc (.cells #[.slice ao la ca] 24) := ⟨_, rfl⟩
  rw [← hw5] at HT5 HN5 HZ5 ⊢
  clear hw5 HT4 HZ4 HT3 HSZ HS3 HDR
  have hK : ∀ (X : World) (r : Nat) (o o' : Obj), w5.heap.size ≤ r → X.heap[r]? = some o → o.isCells = false → o.isWalk = false → Same1 (W.heap.size + 3) X (X.putObj r o') := fun X r o o' hr _ _ _ => World.putObj_heap_other (by have := HZ5.out; omega)
  have hO : OwnFrom w5.heap.size (fun (pre : List (Low la)) X => TW n d l ao la ca oc Bo W X (foldP n d xs pre)) := fun pre X X' row hs hg hr => hs.kept hbl hg (fun r e => by have := (hr r e).1; rw [HZ5.out] at this; omega)
  have hX : ∀ c : Code, OwnFrom w5.heap.size (fun (_ : List (Low la)) (_ : World) => False) := fun c _ _ _ _ h _ _ => h
  have HK := Lib.hid hK
  have HO := Lib.hid hO
  have HX := Lib.hid hX
  clear hK hO hX
  refine wpIn_rangeFunc_ownG rfl (by omega) (gf := 43) (lb := #[.pointer (some ⟨W.heap.size + 3, 0, none⟩)]) rfl trivial (enters_of Try.func43 (by kernel_rfl) rfl)
    (pairs_stops 4 (by omega) (W.heap.size + 3) ao la ca hla.1 (by omega) w5 HN5.out) (fun h k => Eq.trans k h) HK.out (Below.refl _ _) (fun _ => rfl)
    (fun pre X => TW n d l ao la ca oc Bo W X (foldP n d xs pre)) (fun _ _ _ => False) HO.out HX.out HT5.out
    (fun x => { tmps := #[.agg #[.int .i64 n, .int .i64 d, .int .i64 l], .slice ao la ca, .slice (some ⟨Bo, 0, none⟩) la oc, .pointer (some ⟨W.heap.size, 0, none⟩), .pointer (some ⟨W.heap.size + 1, 0, none⟩), .pointer (some ⟨W.heap.size + 1 + 1, 0, none⟩), .int .i64 0, .int .i64 ((x.1 : Int) - 1), .int .i64 (x.1 : Int), undef, undef, .slice (some ⟨Bo, 0, none⟩) la oc, .slice ao la ca, .int .i64 (la : Int), .slice ao la ca, .func (.func 43) #[] #[.pointer (some ⟨W.heap.size + 3, 0, none⟩)], .int .i64 ((x.1 : Int) - 1), .int .i64 (x.1 : Int), undef, undef, undef, undef, undef, undef, undef, undef, undef, undef, undef, undef, undef, undef, undef, undef, undef, undef, undef, undef, undef, undef, undef, undef, undef, undef, undef, undef, undef, undef, undef, undef, undef, undef, undef, undef, undef, undef, undef, undef, undef, undef, undef, undef, undef], defers := [] }) ?assign ?body ?done ?stop
  case assign =>
    intro r x X K hK
    gi_wp2
    exact hK
  case body =>
    rintro r pre ⟨j, hj1, hj2⟩ X ht hlen
    have HT := Lib.hid ht
    have c4 := ht.b4.cell
    have c5 := ht.b5.cell
    have d0 := ht.gr.c0
    have d1 := ht.gr.c1
    have HLen := Lib.hid ((foldP_len n d xs pre).trans HL.out)
    have hlim := foldP_lim HD.out HG.out HL.out pre
    clear ht
    obtain ⟨k, hk⟩ : ∃ k, k + 1 = j := ⟨j - 1, by omega⟩
    have e1 : ((j : Int) - 1) = (k : Int) := by omega
    dsimp only
    rw [e1]
    clear e1
    have HK1 := Lib.hid hk
    have k1 : k + 1 ≤ j := by omega
    have k2 : j ≤ k + 1 := by omega
    clear hk
    have u0 : (0 : Int) ≤ (k : Int) := by omega
    have u1 : (k : Int) < (la : Int) := by omega
    have u2 : (0 : Int) ≤ (j : Int) := by omega
    have u3 : (j : Int) < (la : Int) := by omega
    obtain ⟨b, off, rfl, hc⟩ := (HT.out.il HS.out HN.out).at (by omega)
    have ck := hc k (by omega)
    have cj := hc j (by omega)
    clear hc
    have kk := HD.out.2.2 k (by rw [HL.out]; omega)
    have kj := HD.out.2.2 j (by rw [HL.out]; omega)
    have ff := flowTo_bound HD.out HG.out hj1 (show j < xs.length by rw [HL.out]; omega)
    obtain ⟨x, hx⟩ : ∃ x, x = xs[k]?.getD 0 := ⟨_, rfl⟩
    obtain ⟨y, hy⟩ : ∃ x, x = xs[j]?.getD 0 := ⟨_, rfl⟩
    rw [← hx] at ck kk
    rw [← hy] at cj kj
    have ak := HT.out.blk.cell k (by rw [HLen.out]; omega)
    have aj := HT.out.blk.cell j (by rw [HLen.out]; omega)
    have fk := HT.out.blk.frozen k
    have fj := HT.out.blk.frozen j
    have lk := hlim.get (i := k) (by rw [HLen.out]; omega)
    have lj := hlim.get (i := j) (by rw [HLen.out]; omega)
    clear hlim
    obtain ⟨p, hp⟩ : ∃ x, x = (foldP n d xs pre)[k]?.getD 0 := ⟨_, rfl⟩
    obtain ⟨q, hq⟩ : ∃ x, x = (foldP n d xs pre)[j]?.getD 0 := ⟨_, rfl⟩
    rw [← hp] at ak lk
    rw [← hq] at aj lj
    have lk' : -67108864 ≤ p ∧ p ≤ 67108864 := by omega
    have lj' : -67108864 ≤ q ∧ q ≤ 67108864 := by omega
    clear lk lj
    obtain ⟨dp, hdp⟩ : ∃ z, z = x - y := ⟨_, rfl⟩
    obtain ⟨m, hm⟩ : ∃ m, m = dp * n := ⟨_, rfl⟩
    obtain ⟨f, hf⟩ : ∃ f, f = m.tdiv d := ⟨_, rfl⟩
    have hgr := HG.out
    unfold Grainy at hgr
    have bm := mul_bound (p := dp) (n := n) (by omega) (by omega) (by omega) (by omega)
    rw [← hm] at bm
    have FF : f = flowTo n d xs j := by unfold flowTo flow; rw [hf, hm, hdp, hx, hy, show j - 1 = k by omega]
    rw [← FF] at ff
    have wp : IntKind.i64.wrap (x - y) = dp := (IntWalk.i64_in _ (by omega)).trans hdp.symm
    have wm : IntKind.i64.wrap (dp * n) = m := by rw [← hm]; exact IntWalk.i64_in _ (by omega)
    have wf : IntKind.i64.wrap f = f := IntWalk.i64_in _ (by omega)
    have tf : m.tdiv d = f := hf.symm
    have nd : ¬ d = 0 := by omega
    have HFF := Lib.hid FF
    have HX1 := Lib.hid hx
    have HY1 := Lib.hid hy
    have HP1 := Lib.hid hp
    have HQ1 := Lib.hid hq
    clear hf hm hdp hx hy hp hq FF bm hgr
    gi_wp2
    refine wpIn_region_round rfl (by kernel_rfl) (by kernel_rfl) (by kernel_rfl) ?_
    repeat (gi_big_quiet_step (fail))
    refine wpQuietIn_nil ?_
    intro _ hw'
    obtain ⟨nq, hw''⟩ := hw'
    subst hw''
    clear wp wm wf tf
    gi_wp2
    refine ⟨((keeps_drewN _ _).trans ((KeepsOthers.setCell _ _ _).trans (KeepsOthers.setCell _ _ _))).from _, ?_, ?_⟩
    · exact (Below.heap_setCell _ _ _ _ (show W.heap.size + 3 ≠ Bo by omega)).trans (Below.heap_setCell _ _ _ _ (show W.heap.size + 3 ≠ Bo by omega))
    · dsimp only
      rw [foldP_snoc]
      exact pair_done (HT.out.drewN _ hbl) hbl HLen.out hj2 HK1.out HFF.out HP1.out HQ1.out
  case done =>
    rintro D0 ys X hD hS hI hK
    have HT := Lib.hid hI
    have HKD := Lib.hid hK
    have hD3 : W.heap.size + 4 ≤ D0 := by have := HZ5.out; omega
    have c4 := hI.b4.cell
    have c5 := hI.b5.cell
    have d1 := hI.gr.c1
    have d2 := hI.gr.c2
    have HLen := Lib.hid ((foldP_len n d xs ys).trans HL.out)
    have hlim := foldP_lim HD.out HG.out HL.out ys
    have hyl : ys.length = la - 1 := by have := congrArg List.length hS; rw [lows_len, List.length_range'] at this; exact this
    have HDN := Lib.hid (foldP_all n d xs ys hS HL.out hla.1)
    obtain ⟨b, off, rfl, hc⟩ := (hI.il HS.out HN.out).at (by omega)
    have c0 := hc 0 (by omega)
    rw [Nat.add_zero] at c0
    have k0 := HD.out.2.2 0 (by rw [HL.out]; omega)
    obtain ⟨x, hx⟩ : ∃ x, x = xs[0]?.getD 0 := ⟨_, rfl⟩
    rw [← hx] at c0 k0
    have a0 := hI.blk.cell 0 (by rw [HLen.out]; omega)
    have f0 := hI.blk.frozen 0
    have l0 := hlim.get (i := 0) (by rw [HLen.out]; omega)
    obtain ⟨p, hp⟩ : ∃ x, x = (foldP n d xs ys)[0]?.getD 0 := ⟨_, rfl⟩
    rw [← hp] at a0 l0
    have l0' : -67108864 ≤ p ∧ p ≤ 67108864 := by omega
    clear hS hI hK hc hlim hyl l0
    have hgr := HG.out
    unfold Grainy at hgr
    obtain ⟨m, hm⟩ : ∃ m, m = x * l := ⟨_, rfl⟩
    obtain ⟨f, hf⟩ : ∃ f, f = m.tdiv d := ⟨_, rfl⟩
    have bm := mul_bound (p := x) (n := l) (by omega) (by omega) (by omega) (by omega)
    have bf := whole_part (p := x) (n := l) (d := d) (by omega) (by omega) (by omega) (by omega)
    rw [← hm] at bm
    rw [← hm, ← hf] at bf
    have bf' : 0 ≤ f ∧ f ≤ 1048576 := by omega
    have FF : f = lostL d l xs := by unfold lostL; rw [hf, hm, hx]
    have wm : IntKind.i64.wrap (x * l) = m := by rw [← hm]; exact IntWalk.i64_in _ (by omega)
    have wf : IntKind.i64.wrap f = f := IntWalk.i64_in _ (by omega)
    have tf : m.tdiv d = f := hf.symm
    have nd : ¬ d = 0 := by omega
    have u3 : (0 : Int) < (la : Int) := by omega
    have HFF := Lib.hid FF
    have HX1 := Lib.hid hx
    have HP1 := Lib.hid hp
    clear hf hm hx hp FF bm bf hgr
    gi_wp2
    gi_quiet (fail)
    clear wm wf tf
    gi_wp2
    have hK2 : (((X.drewN nq).setCell ⟨Bo, 0, none⟩ (.int .i64 (p - f))).heap[D0]? = some (.deferred (some []))) := (Below.heap_setCell _ _ _ _ (show D0 ≠ Bo by omega)).trans HKD.out
    have HT2 := ((HT.out.drewN nq hbl).set hbl 0 (p - f)).kept hbl (grownBy_putObj' _ D0 (.deferred none)) (fun r e => by cases e; omega)
    refine ⟨by simp, .inl ⟨_, _, rfl, run_takeDeferred hK2, ?_⟩⟩
    refine ⟨.int .i64 f, by simp [results, Try.results33, go_sem], ?_⟩
    exact ⟨retI HFF.out, by rw [← tick_of_done (by rw [HL.out]; omega) HDN.out (p - f) (by rw [← HP1.out, HFF.out])]; exact HT2.blk, HT2.grown⟩
  case stop =>
    rintro D0 c pre X _ _ h _
    exact h.elim
end Go.Proofs.Ytcbbdbglbfnbpaa

/- package bed as the document has it: Tick, Turn, Spread, Steep. -/
set_option linter.unusedVariables false
set_option linter.unusedSimpArgs false
namespace Go.Proofs.Ytcbbdbglbfnbpaa
open Go.RowKit

/-- a list that was there does not lie in a new block -/
theorem Il.ne {w : World} {ao : Option Addr} {la : Nat} {xs : List Int} (h : Il w ao la xs) (h0 : 0 < la) {B : Nat} (hB : w.heap.size ≤ B) : ∀ a, ao = some a → a.block ≠ B := by
  obtain ⟨b, off, rfl, hc⟩ := h.at h0
  intro a ha
  cases ha
  have := World.block_lt_of_cell? w _ (hc 0 h0)
  simp only at this ⊢
  omega

theorem rep_len (n : Nat) : (List.replicate n (0 : Int)).length = n := List.length_replicate

set_option maxHeartbeats 1000000 in
theorem tickOk : TickOk := by
  intro n d l ao la ca xs W hs hla
  have hl := hs.len
  subst hl
  have hbe : Below W.heap.size W (W.alloc (.cells #[.int .i64 n, .int .i64 d, .int .i64 l] 23)) := (Below.refl _ _).alloc (Nat.le_refl _) _
  have GB := Lib.hid hbe
  have GN := Lib.hid (Gr.new W n d l)
  have HS := Lib.hid (hs.keep hbe)
  clear hbe hs
  go_enter Try.func14, Try.ntmps14
  go_wp2_with fail
  refine (isBed_any _ _ _ xs _ HS.out hla).mono ?_
  rintro e w1 ⟨⟨hb, rfl⟩ | ⟨hb, rfl⟩, rfl⟩
  · have HB := Lib.hid hb
    have hb1 := hb.1
    have hb2 := hb.2.1
    clear hb
    have d0 := GN.out.c0
    have d1 := GN.out.c1
    have d2 := GN.out.c2
    go_wp2_with fail
    refine (isGrain_any n d l _).mono ?_
    rintro e w2 ⟨⟨hg, rfl⟩ | ⟨hg, rfl⟩, hb3⟩
    · have HG := Lib.hid hg
      have B2 := Lib.hid (below_then GB.out hb3)
      have N2 := Lib.hid (GN.out.keep hb3)
      have S2 := Lib.hid (HS.out.keep hb3)
      have RL := Lib.hid (rep_len xs.length)
      have TL := Lib.hid (tickL_len n d l xs)
      clear hg hb3 d0 d1 d2
      have d0 := N2.out.c0
      have d1 := N2.out.c1
      have d2 := N2.out.c2
      go_wp2_with (first
        | (at_make; refine wpList_mk rfl _ 24 rfl Try.underlying24 (by kernel_rfl) _ xs.length rfl rfl (by omega) ?_; intro w3 hB3 hb3 hz3; have K3 := Lib.hid hB3; have B3 := Lib.hid (below_then B2.out hb3); have Z3 := Lib.hid hz3; have N3 := Lib.hid (N2.out.keep hb3); have S3 := Lib.hid (S2.out.keep hb3); clear hB3 hb3 hz3 d0 d1 d2; have d0 := N3.out.c0; have d1 := N3.out.c1; have d2 := N3.out.c2)
        | (go_at_call 33; refine (tickP_any n d l ao xs.length ca xs.length xs _ w2.heap.size _ S3.out (S2.out.ne (by omega) (Nat.le_refl _)) K3.out RL.out HB.out HG.out).mono ?_; rintro e w4 ⟨rfl, hk4, hg4⟩; have K4 := Lib.hid hk4; have G4 := Lib.hid hg4; clear hk4 hg4))
      refine bodyPost_ret (v := .tuple #[.slice (some ⟨w2.heap.size, 0, none⟩) xs.length xs.length, .int .i64 (lostL d l xs), .int .i64 0]) (by simp [results, Try.results14, go_sem]) rfl (.inl ⟨HB.out, HG.out, _, _, by rw [TL.out], by rw [TL.out]; exact Nat.le_refl _, by unfold maxLen; omega, K4.out.il rfl, below_grown B3.out G4.out B3.out.size B2.out.size⟩)
    · have HG := Lib.hid hg
      have B2 := Lib.hid (below_then GB.out hb3)
      clear hg hb3 d0 d1 d2
      go_wp2
      refine bodyPost_ret (v := .tuple #[.slice none 0 0, .int .i64 0, .int .i64 2]) (by simp [results, Try.results14, go_sem]) rfl (.inr ⟨fun h => HG.out h.2, _, _, rfl, by unfold maxLen; omega, B2.out⟩)
  · have HB := Lib.hid hb
    clear hb
    go_wp2
    refine bodyPost_ret (v := .tuple #[.slice none 0 0, .int .i64 0, .int .i64 2]) (by simp [results, Try.results14, go_sem]) rfl (.inr ⟨fun h => HB.out h.1, _, _, rfl, by unfold maxLen; omega, GB.out⟩)

set_option maxHeartbeats 1000000 in
theorem turnOk : TurnOk := by
  intro ao la ca xs W hs hla
  have hl := hs.len
  subst hl
  have HS := Lib.hid hs
  clear hs
  go_enter Try.func24, Try.ntmps24
  go_wp2_with fail
  refine (isBed_any _ _ _ xs _ HS.out hla).mono ?_
  rintro e w1 ⟨⟨hb, rfl⟩ | ⟨hb, rfl⟩, rfl⟩
  · have HB := Lib.hid hb
    have hb1 := hb.1
    have hb2 := hb.2.1
    clear hb
    go_wp2_with (first
      | (go_at_call 35; refine (duplicate_any ao xs.length ca xs _ HS.out (by omega) (by omega)).mono ?_; rintro e w2 ⟨rfl, hk, hb3, hz⟩; have K2 := Lib.hid hk; have B2 := Lib.hid hb3; have Z2 := Lib.hid hz; clear hk hb3 hz)
      | (go_at_call 39; refine (reverse_any _ xs.length xs.length xs _ K2.out rfl (by omega) (by omega)).mono ?_; rintro e w3 ⟨rfl, hk, hg, hz⟩; have K3 := Lib.hid hk; have G3 := Lib.hid hg; clear hk hg hz))
    refine bodyPost_ret (v := .tuple #[.slice (some ⟨w1.heap.size, 0, none⟩) xs.length xs.length, .int .i64 0]) (by simp [results, Try.results24, go_sem]) rfl (.inl ⟨HB.out, _, _, by rw [List.length_reverse], by rw [List.length_reverse]; exact Nat.le_refl _, by unfold maxLen; omega, K3.out.il rfl, below_grown B2.out G3.out (by rw [Z2.out]; omega) (Nat.le_refl _)⟩)
  · have HB := Lib.hid hb
    clear hb
    go_wp2
    refine bodyPost_ret (v := .tuple #[.slice none 0 0, .int .i64 2]) (by simp [results, Try.results24, go_sem]) rfl (.inr ⟨HB.out, _, _, rfl, by unfold maxLen; omega, Below.refl _ _⟩)

theorem lowZ_tame {M : Int} {z : Int} (hz : 0 ≤ z ∧ z ≤ M) {xs : List Int} (h : ∀ i, i < xs.length → 0 ≤ xs[i]?.getD 0 ∧ xs[i]?.getD 0 ≤ M) : ∀ k, k ≤ xs.length → 0 ≤ lowZ z (xs.take k) ∧ lowZ z (xs.take k) ≤ M
  | 0, _ => by simpa [lowZ] using hz
  | k + 1, hk => by
    have ih := lowZ_tame hz h k (by omega)
    have := h k (by omega)
    rw [lowZ_step z (by omega)]
    omega
theorem highZ_tame {M : Int} {z : Int} (hz : 0 ≤ z ∧ z ≤ M) {xs : List Int} (h : ∀ i, i < xs.length → 0 ≤ xs[i]?.getD 0 ∧ xs[i]?.getD 0 ≤ M) : ∀ k, k ≤ xs.length → 0 ≤ highZ z (xs.take k) ∧ highZ z (xs.take k) ≤ M
  | 0, _ => by simpa [highZ] using hz
  | k + 1, hk => by
    have ih := highZ_tame hz h k (by omega)
    have := h k (by omega)
    rw [highZ_step z (by omega)]
    omega

set_option maxHeartbeats 1000000 in
theorem spreadOk : SpreadOk := by
  intro ao la ca xs W hs hla
  have hl := hs.len
  subst hl
  have HS := Lib.hid hs
  clear hs
  go_enter Try.func25, Try.ntmps25
  go_wp2_with fail
  refine (isBed_any _ _ _ xs _ HS.out hla).mono ?_
  rintro e w1 ⟨⟨hb, rfl⟩ | ⟨hb, rfl⟩, rfl⟩
  · have HB := Lib.hid hb
    have hb1 := hb.1
    have hb2 := hb.2.1
    have k0 := hb.2.2 0 (by omega)
    have kl := lowZ_tame k0 hb.2.2 xs.length (Nat.le_refl _)
    have kh := highZ_tame k0 hb.2.2 xs.length (Nat.le_refl _)
    rw [List.take_length] at kl kh
    have MN := Lib.hid (min_any ao xs.length ca xs w1 HS.out (by omega) (by omega))
    have MX := Lib.hid (max_any ao xs.length ca xs w1 HS.out (by omega) (by omega))
    have HV := Lib.hid (show highZ (xs[0]?.getD 0) xs - lowZ (xs[0]?.getD 0) xs = spreadL xs from rfl)
    obtain ⟨lo, hlo⟩ : ∃ z, z = lowZ (xs[0]?.getD 0) xs := ⟨_, rfl⟩
    obtain ⟨hi, hhi⟩ : ∃ z, z = highZ (xs[0]?.getD 0) xs := ⟨_, rfl⟩
    rw [← hlo] at kl HV MN
    rw [← hhi] at kh HV MX
    clear hb k0 hlo hhi
    go_wp2_with (first
      | (go_at_call 40; refine MX.out.mono ?_; rintro e w2 ⟨rfl, rfl⟩)
      | (go_at_call 41; refine MN.out.mono ?_; rintro e w2 ⟨rfl, rfl⟩))
    refine bodyPost_ret (v := .tuple #[.int .i64 (hi - lo), .int .i64 0]) (by simp [results, Try.results25, go_sem]) rfl (.inl ⟨HB.out, by rw [HV.out], Below.refl _ _⟩)
  · have HB := Lib.hid hb
    clear hb
    go_wp2
    refine bodyPost_ret (v := .tuple #[.int .i64 0, .int .i64 2]) (by simp [results, Try.results25, go_sem]) rfl (.inr ⟨HB.out, rfl, Below.refl _ _⟩)
end Go.Proofs.Ytcbbdbglbfnbpaa

/- package bed as the document has it: Steep. -/
set_option linter.unusedVariables false
set_option linter.unusedSimpArgs false
namespace Go.Proofs.Ytcbbdbglbfnbpaa
open Go.RowKit

/-- the first i cells have been steeped -/
def wetL (full water : Int) (xs : List Int) (i : Nat) : List Int := (steepL full (xs.take i) water).1 ++ xs.drop i

theorem wetL_len (full water : Int) (xs : List Int) (i : Nat) (hi : i ≤ xs.length) : (wetL full water xs i).length = xs.length := by
  unfold wetL
  rw [List.length_append, steepL_len, List.length_take, List.length_drop]
  omega
theorem wetL_zero (full water : Int) (xs : List Int) : wetL full water xs 0 = xs := by simp [wetL, steepL]
theorem wetL_all (full water : Int) (xs : List Int) : wetL full water xs xs.length = (steepL full xs water).1 := by simp [wetL]
theorem wetL_get (full water : Int) (xs : List Int) (i : Nat) (hi : i < xs.length) : (wetL full water xs i)[i]?.getD 0 = xs[i]?.getD 0 := by
  unfold wetL
  rw [List.getElem?_append_right (by rw [steepL_len, List.length_take]; omega), steepL_len, List.length_take, Nat.min_eq_left (by omega), Nat.sub_self, List.getElem?_drop, Nat.add_zero]
theorem wetL_set (full water : Int) (xs : List Int) (i : Nat) (hi : i < xs.length) (v : Int) (hv : v = xs[i]?.getD 0 + min (steepL full (xs.take i) water).2 (max 0 (full - xs[i]?.getD 0))) : (wetL full water xs i).set i v = wetL full water xs (i + 1) := by
  subst hv
  have hl : (steepL full (xs.take i) water).1.length = i := by rw [steepL_len, List.length_take]; omega
  unfold wetL
  rw [(steepL_take full xs water i hi).1, List.set_append_right _ _ (by omega), hl, Nat.sub_self, List.append_assoc]
  congr 1
  rw [List.drop_eq_getElem_cons hi]
  rfl

def SteepRel (full water : Int) (la B : Nat) (xs : List Int) (W : World) (wv iv : Value) (wr : World) : Prop :=
  ∃ i : Nat, i ≤ la ∧ iv = .int .i64 (i : Int) ∧ wv = .int .i64 (steepL full (xs.take i) water).2 ∧ Blk wr B (wetL full water xs i) ∧ Below W.heap.size W wr

def SteepPost (full water : Int) (xs : List Int) (W : World) (e : Ending) (w' : World) : Prop :=
  (Bedly xs ∧ 0 ≤ full ∧ full ≤ 1048576 ∧ 0 ≤ water ∧ OutLIE W (steepL full xs water).1 (steepL full xs water).2 e w') ∨ (¬ (Bedly xs ∧ 0 ≤ full ∧ full ≤ 1048576 ∧ 0 ≤ water) ∧ NoneLIE W 2 e w')

set_option maxHeartbeats 4000000 in
theorem steepP (full water : Int) (ao : Option Addr) (la ca : Nat) (xs : List Int) (W : World) (hs : Il W ao la xs) (hla : la ≤ 9223372036854775807) (hw1 : water ≤ 9223372036854775807) :
    Calls Try.prog 23 #[.slice ao la ca, .int .i64 full, .int .i64 water] W (SteepPost full water xs W) := by
  have hl := hs.len
  subst hl
  have HS := Lib.hid hs
  clear hs
  go_enter Try.func23, Try.ntmps23
  go_wp2_with fail
  refine (isBed_any _ _ _ xs _ HS.out hla).mono ?_
  rintro e w1 ⟨⟨hb, rfl⟩ | ⟨hb, rfl⟩, rfl⟩
  · have HB := Lib.hid hb
    have hb1 := hb.1
    have hb2 := hb.2.1
    clear hb
    go_wp2_with fail
    refine (isMoisture_any full _).mono ?_
    rintro e w2 ⟨⟨hf, rfl⟩ | ⟨hf, rfl⟩, rfl⟩
    · by_cases hw0 : 0 ≤ water
      · have hw2 : ¬ water < 0 := by omega
        have LS := Lib.hid (steepL_len full xs water)
        go_wp2_with (go_at_call 35; refine (duplicate_any ao xs.length ca xs _ HS.out (by omega) (by omega)).mono ?_; rintro e w3 ⟨rfl, hk, hb3, hz⟩; have K2 := Lib.hid hk; have B2 := Lib.hid hb3; have Z2 := Lib.hid hz; clear hk hb3 hz)
        go_loopw [2, 29] (fun wv iv wr => SteepRel full water xs.length w2.heap.size xs w2 wv iv wr) (fun wv iv _ => xs.length - (intOf iv).toNat)
        case atStart => exact ⟨0, by omega, rfl, by simp [steepL], by rw [wetL_zero]; exact K2.out, B2.out⟩
        case round =>
          obtain ⟨i, hi, rfl, rfl, hblk, hbel⟩ := hrel
          have GK := Lib.hid hblk
          have GB := Lib.hid hbel
          clear hblk hbel
          by_cases h1 : i < xs.length
          · have u1 : (i : Int) < (xs.length : Int) := by omega
            have u0 : (0 : Int) ≤ (i : Int) := by omega
            obtain ⟨b, off, rfl, hc⟩ := (HS.out.keep GB.out).at (by omega)
            have hci := hc i h1
            have kx := HB.out.2.2 i h1
            have st := steepL_take full xs water i h1
            have kw := steepL_left full (xs.take i) water hw0
            have WL := Lib.hid (wetL_len full water xs i (by omega))
            have ck := GK.out.cell i (by rw [WL.out]; omega)
            rw [wetL_get full water xs i h1] at ck
            have fk := GK.out.frozen i
            have WS := Lib.hid (wetL_set full water xs i h1)
            obtain ⟨x, hx⟩ : ∃ x, x = xs[i]?.getD 0 := ⟨_, rfl⟩
            obtain ⟨q, hq⟩ : ∃ x, x = (steepL full (xs.take i) water).2 := ⟨_, rfl⟩
            rw [← hx] at hci kx st ck WS
            rw [← hq] at st kw WS
            rw [← hq]
            have ST := Lib.hid st
            clear hc hx hq st
            obtain ⟨tk, htk⟩ : ∃ tk, tk = min q (max 0 (full - x)) := ⟨_, rfl⟩
            rw [← htk] at ST WS
            have btk : 0 ≤ tk ∧ tk ≤ 1048576 ∧ tk ≤ q := by omega
            have HTK := Lib.hid htk
            clear htk
            have key : ∀ t1 : Int, t1 = tk → ∀ wx, wx = (wr.setCell ⟨w2.heap.size, i, none⟩ (.int .i64 (x + t1))) → SteepRel full water xs.length w2.heap.size xs w2 (.int .i64 (q - t1)) (.int .i64 ((i : Int) + 1)) wx := by
              rintro t1 rfl wx rfl
              refine ⟨i + 1, by omega, by go_num, congrArg (Value.int .i64) ST.out.2.symm, ?_, GB.out.setCell (Nat.le_refl _) _⟩
              have := GK.out.set i (x + t1)
              rwa [WS.out _ rfl] at this
            have KEY := Lib.hid key
            clear key
            by_cases c2 : full - x ≤ 0
            · have c3 : ¬ 0 < full - x := by omega
              by_cases c5 : 0 < q
              · go_wp2
                go_roundw
                case rel => exact KEY.out _ (by rw [HTK.out]; omega) _ rfl
                case measure => simp only [intOf]; omega
              · have c6 : ¬ q < 0 := by omega
                go_wp2
                go_roundw
                case rel => exact KEY.out _ (by rw [HTK.out]; omega) _ rfl
                case measure => simp only [intOf]; omega
            · have c3 : 0 < full - x := by omega
              by_cases c5 : full - x < q
              · go_wp2
                go_roundw
                case rel => exact KEY.out _ (by rw [HTK.out]; omega) _ rfl
                case measure => simp only [intOf]; omega
              · go_wp2
                go_roundw
                case rel => exact KEY.out _ (by rw [HTK.out]; omega) _ rfl
                case measure => simp only [intOf]; omega
          · have u1 : ¬ (i : Int) < (xs.length : Int) := by omega
            obtain rfl : i = xs.length := by omega
            rw [List.take_length]
            have GK2 := Lib.hid (wetL_all full water xs ▸ GK.out)
            go_wp2
            refine bodyPost_ret (v := .tuple #[.slice (some ⟨w2.heap.size, 0, none⟩) xs.length xs.length, .int .i64 (steepL full xs water).2, .int .i64 0]) (by simp [results, Try.results23, go_sem]) rfl (.inl ⟨HB.out, hf.1, hf.2, hw0, _, _, by rw [LS.out], by rw [LS.out]; exact Nat.le_refl _, by unfold maxLen; omega, GK2.out.il rfl, GB.out⟩)
      · have hw2 : water < 0 := by omega
        go_wp2
        refine bodyPost_ret (v := .tuple #[.slice none 0 0, .int .i64 0, .int .i64 2]) (by simp [results, Try.results23, go_sem]) rfl (.inr ⟨fun h => by have := h.2.2.2; omega, _, _, rfl, by unfold maxLen; omega, Below.refl _ _⟩)
    · have HF := Lib.hid hf
      clear hf
      go_wp2
      refine bodyPost_ret (v := .tuple #[.slice none 0 0, .int .i64 0, .int .i64 2]) (by simp [results, Try.results23, go_sem]) rfl (.inr ⟨fun h => HF.out ⟨h.2.1, h.2.2.1⟩, _, _, rfl, by unfold maxLen; omega, Below.refl _ _⟩)
  · have HB := Lib.hid hb
    clear hb
    go_wp2
    refine bodyPost_ret (v := .tuple #[.slice none 0 0, .int .i64 0, .int .i64 2]) (by simp [results, Try.results23, go_sem]) rfl (.inr ⟨fun h => HB.out h.1, _, _, rfl, by unfold maxLen; omega, Below.refl _ _⟩)

theorem steepOk : SteepOk := fun full water ao la ca xs W hs hla hw => steepP full water ao la ca xs W hs hla hw
end Go.Proofs.Ytcbbdbglbfnbpaa

/- package bed: the two beds of Run and Until. -/
set_option linter.unusedVariables false
set_option linter.unusedSimpArgs false
namespace Go.Proofs.Ytcbbdbglbfnbpaa
open Go.RowKit

theorem run_mk (la : Nat) (hla : la ≤ 100000) (w : World) : (Instr.makeSlice 24 (.int .i64 (la : Int)) (.int .i64 (la : Int))).run Try.prog w = .ok (.slice (some ⟨w.heap.size, 0, none⟩) la la) (w.alloc (.cells (ics (List.replicate la 0)) 3)) := by
  obtain ⟨i0, hi, hz0, hz1, hz2⟩ := info_parts (show (Try.prog.info? 3).map (fun i => (i.zero, i.size, i.bytes)) = some (some (.int .i64 0), 1, 8) by kernel_rfl)
  have hb' : (i0.bytes : Int) * (la : Int) ≤ 281474976710656 := by
    have h : ((i0.bytes * la : Nat) : Int) ≤ 281474976710656 := by rw [hz2]; omega
    rwa [Int.natCast_mul] at h
  have hr := run_make (P := Try.prog) w 24 3 i0 _ Try.underlying24 hi hz0 .i64 .i64 la la (by omega) (Int.le_refl _) hb' (by omega)
  simp only [Int.toNat_natCast] at hr
  rw [hr, hz1]
  congr 3
  apply Array.toList_inj.1
  simp [Value.cells, toList_madeCells_one, ics]

/-- two own blocks: the bed now, and room for the next one -/
def Two (la : Nat) (xs : List Int) (W : World) (v10 v11 : Value) (wx : World) : Prop :=
  ∃ Bn Ba : Nat, v10 = .slice (some ⟨Bn, 0, none⟩) la la ∧ v11 = .slice (some ⟨Ba, 0, none⟩) la la ∧ Bn ≠ Ba ∧ W.heap.size ≤ Bn ∧ W.heap.size ≤ Ba ∧ Blk wx Bn xs ∧ Blk wx Ba (List.replicate la 0) ∧ Below W.heap.size W wx

theorem two_dm {la : Nat} {xs : List Int} {W w1 : World} (hB : Blk w1 W.drew.heap.size xs) (hb : Below W.drew.heap.size W.drew w1) (hz : w1.heap.size = W.drew.heap.size + 1) :
    Two la xs W (.slice (some ⟨W.heap.size, 0, none⟩) la la) (.slice (some ⟨W.heap.size + 1, 0, none⟩) la la) (w1.alloc (.cells (ics (List.replicate la 0)) 3)) := by
  have hz' : w1.heap.size = W.heap.size + 1 := hz
  have hb' : Below W.heap.size W w1 := (Below.refl _ _).drew.trans hb
  refine ⟨W.heap.size, W.heap.size + 1, rfl, rfl, by omega, Nat.le_refl _, by omega, hB.alloc _, ?_, hb'.alloc (by omega) _⟩
  rw [← hz']
  exact Blk.new _ _ _ rfl
theorem two_md {la : Nat} {xs : List Int} {W w1 : World} (hB : Blk w1 (W.alloc (.cells (ics (List.replicate la 0)) 3)).drew.heap.size xs) (hb : Below (W.alloc (.cells (ics (List.replicate la 0)) 3)).drew.heap.size (W.alloc (.cells (ics (List.replicate la 0)) 3)).drew w1) :
    Two la xs W (.slice (some ⟨W.heap.size + 1, 0, none⟩) la la) (.slice (some ⟨W.heap.size, 0, none⟩) la la) w1 := by
  have hs : (W.alloc (.cells (ics (List.replicate la 0)) 3)).drew.heap.size = W.heap.size + 1 := World.size_alloc _ _
  have h1 := ((Blk.new W (List.replicate la 0) _ rfl).drew).keep hb
  rw [hs] at hB hb
  exact ⟨W.heap.size + 1, W.heap.size, rfl, rfl, by omega, by omega, Nat.le_refl _, hB, h1, ((Below.refl _ W).alloc (Nat.le_refl _) _).drew.trans (hb.mono (by omega))⟩

/-- the loop of Run -/
def PRun (n d l : Int) (la T : Nat) (xs : List Int) (W : World) (nv av sv iv : Value) (wr : World) : Prop :=
  ∃ (k Bn Ba : Nat) (ys zs : List Int) (s : Int), nv = .slice (some ⟨Bn, 0, none⟩) la la ∧ av = .slice (some ⟨Ba, 0, none⟩) la la ∧ sv = .int .i64 s ∧ iv = .int .i64 (k : Int) ∧ k ≤ T ∧ 0 ≤ s ∧ s ≤ k * 1048576 ∧ Blk wr Bn ys ∧ Blk wr Ba zs ∧ ys.length = la ∧ zs.length = la ∧ Bn ≠ Ba ∧ W.heap.size < Bn ∧ W.heap.size < Ba ∧ Bedly ys ∧ Gr wr W.heap.size n d l ∧ Below W.heap.size W wr ∧
    runL n d l T xs = ((runL n d l (T - k) ys).1, s + (runL n d l (T - k) ys).2.1, k + (runL n d l (T - k) ys).2.2)

def RunPost (n d l t : Int) (xs : List Int) (W : World) (e : Ending) (w' : World) : Prop :=
  (Bedly xs ∧ Grainy n d l ∧ 0 ≤ t ∧ t ≤ 1048576 ∧ OutRunE W (runL n d l t.toNat xs) e w') ∨ (¬ (Bedly xs ∧ Grainy n d l ∧ 0 ≤ t ∧ t ≤ 1048576) ∧ NoneRunE W e w')

theorem run_out {n d l t s : Int} {T k la B : Nat} {xs ys : List Int} {W w : World} (hb : Bedly xs) (hg : Grainy n d l) (ht : 0 ≤ t ∧ t ≤ 1048576) (hT : t.toNat = T) (hr : runL n d l T xs = (ys, s, k)) (hk : Blk w B ys) (hl : ys.length = la) (hla : la ≤ 100000) (hbel : Below W.heap.size W w) :
    RunPost n d l t xs W (.returned (.tuple #[.slice (some ⟨B, 0, none⟩) la la, .int .i64 s, .int .i64 (k : Int), .int .i64 0])) w := by
  refine .inl ⟨hb, hg, ht.1, ht.2, ?_⟩
  rw [hT, hr]
  subst hl
  exact ⟨_, _, rfl, Nat.le_refl _, by unfold maxLen; omega, hk.il rfl, hbel⟩

set_option maxHeartbeats 8000000 in
theorem runP (n d l t : Int) (ao : Option Addr) (la ca : Nat) (xs : List Int) (W : World) (hs : Il W ao la xs) (hla : la ≤ 9223372036854775807) :
    Calls Try.prog 19 #[.agg #[.int .i64 n, .int .i64 d, .int .i64 l], .slice ao la ca, .int .i64 t] W (RunPost n d l t xs W) := by
  have hl := hs.len
  subst hl
  have hbe : Below W.heap.size W (W.alloc (.cells #[.int .i64 n, .int .i64 d, .int .i64 l] 23)) := (Below.refl _ _).alloc (Nat.le_refl _) _
  have GB := Lib.hid hbe
  have GN := Lib.hid (Gr.new W n d l)
  have HS := Lib.hid (hs.keep hbe)
  clear hbe hs
  go_enter Try.func19, Try.ntmps19
  go_wp2_with fail
  refine (isBed_any _ _ _ xs _ HS.out hla).mono ?_
  rintro e w1 ⟨⟨hb, rfl⟩ | ⟨hb, rfl⟩, rfl⟩
  · have HB := Lib.hid hb
    have hb1 := hb.1
    have hb2 := hb.2.1
    clear hb
    have d0 := GN.out.c0
    have d1 := GN.out.c1
    have d2 := GN.out.c2
    go_wp2_with fail
    refine (isGrain_any n d l _).mono ?_
    rintro e w2 ⟨⟨hg, rfl⟩ | ⟨hg, rfl⟩, hb3⟩
    · have HG := Lib.hid hg
      have B2 := Lib.hid (below_then GB.out hb3)
      have N2 := Lib.hid (GN.out.keep hb3)
      have S2 := Lib.hid (HS.out.keep hb3)
      clear hg hb3 d0 d1 d2
      go_wp2_with fail
      refine (isRun_any t _).mono ?_
      rintro e w3 ⟨⟨ht, rfl⟩ | ⟨ht, rfl⟩, rfl⟩
      · have HT := Lib.hid ht
        clear ht
        obtain ⟨T, hT⟩ : ∃ T : Nat, t = (T : Int) := ⟨t.toNat, by have := HT.out; omega⟩
        have t1 : t ≤ (T : Int) := by omega
        have t2 : (T : Int) ≤ t := by omega
        have hTM : T ≤ 1048576 := by have := HT.out; omega
        have HTT := Lib.hid (show t.toNat = T by omega)
        clear hT
        go_upto_region 3 with fail
        go_cut [10, 11] from 28 to 32 (fun v10 v11 wx => Two xs.length xs w3 v10 v11 wx)
        case first =>
          have hmk := run_mk xs.length (by omega)
          go_region_with (first
            | (go_at_call 35; refine (duplicate_any ao xs.length ca xs w3.drew S2.out.drew (by omega) (by omega)).mono ?_; rintro e w4 ⟨rfl, hk, hb4, hz⟩)
            | (go_at_call 35; refine (duplicate_any ao xs.length ca xs (w3.alloc (.cells (ics (List.replicate xs.length 0)) 3)).drew (S2.out.keep ((Below.refl _ _).alloc (Nat.le_refl _) _)).drew (by omega) (by omega)).mono ?_; rintro e w4 ⟨rfl, hk, hb4, hz⟩))
          · have TW2 := Lib.hid (two_dm (la := xs.length) hk hb4 hz)
            clear hk hb4 hz hmk
            go_wp2_with fail
            go_meet
            case rel => exact TW2.out
          · have TW2 := Lib.hid (two_md (la := xs.length) hk hb4)
            clear hk hb4 hz hmk
            go_wp2_with fail
            go_meet
            case rel => exact TW2.out
        case rest =>
          obtain ⟨Bn, Ba, rfl, rfl, hne, hn1, ha1, hbn, hba, hbel⟩ := hcut
          have C1 := Lib.hid hbn
          have C2 := Lib.hid hba
          have CB := Lib.hid (B2.out.trans (hbel.mono B2.out.size))
          have CG := Lib.hid (N2.out.keep hbel)
          have CN := Lib.hid hne
          have Cn := Lib.hid (show W.heap.size < Bn by have := N2.out.lt; omega)
          have Ca := Lib.hid (show W.heap.size < Ba by have := N2.out.lt; omega)
          clear hbn hba hbel hne hn1 ha1
          go_wp2_with fail
          go_loopw [10, 11, 12, 34] (fun nv av sv iv wr => PRun n d l xs.length T xs W nv av sv iv wr) (fun nv av sv iv _ => T - (intOf iv).toNat)
          case atStart => exact ⟨0, Bn, Ba, xs, _, 0, rfl, rfl, rfl, rfl, by omega, by omega, by omega, C1.out, C2.out, rfl, rep_len _, CN.out, Cn.out, Ca.out, HB.out, CG.out, CB.out, by simp⟩
          case round =>
            clear C1 C2 CB CG CN Cn Ca
            obtain ⟨k, B1, B2', ys, zs, s, rfl, rfl, rfl, rfl, hk, hs0, hs1, hy, hz, hyl, hzl, hne, hn1, hn2, hbd, hgr, hbel, hrun⟩ := hrel
            have GY := Lib.hid hy
            have GZ := Lib.hid hz
            have GL := Lib.hid hyl
            have GM := Lib.hid hzl
            have GN2 := Lib.hid hne
            have Gn1 := Lib.hid hn1
            have Gn2 := Lib.hid hn2
            have GD := Lib.hid hbd
            have GG := Lib.hid hgr
            have GW := Lib.hid hbel
            have GR := Lib.hid hrun
            have d0 := hgr.c0
            have d1 := hgr.c1
            have d2 := hgr.c2
            clear hy hz hyl hzl hne hn1 hn2 hbd hgr hbel hrun
            by_cases h1 : k < T
            · have u1 : (k : Int) < t := by omega
              go_wp2_with fail
              refine (tickP_any n d l _ xs.length xs.length xs.length ys zs B2' _ (GY.out.il GL.out) (fun a ha => by cases ha; exact GN2.out) GZ.out GM.out GD.out HG.out).mono ?_
              rintro e w5 ⟨rfl, hk5, hg5⟩
              have K5 := Lib.hid hk5
              have Y5 := Lib.hid (GY.out.grown hg5 (by have := GN2.out; simpa using this))
              have N5 := Lib.hid (GG.out.grown hg5 (by have := Gn2.out; omega))
              have B5 := Lib.hid (below_grown GW.out hg5 GW.out.size (by have := Gn2.out; omega))
              have TL := Lib.hid ((tickL_len n d l ys).trans GL.out)
              have hlb := lost_bound GD.out HG.out
              have GE := Lib.hid (fun h => run_step (s := s) GR.out h1 h)
              have GF := Lib.hid (fun h => run_end (s := s) GR.out (.inr h))
              obtain ⟨q, hq⟩ : ∃ q, q = lostL d l ys := ⟨_, rfl⟩
              rw [← hq] at hlb GE
              rw [← hq]
              clear hk5 hg5 d0 d1 d2 hq
              go_wp2_with fail
              refine (equal_any _ _ _ _ _ _ ys (tickL n d l ys) _ (Y5.out.il GL.out) (K5.out.il TL.out) hla hla).mono ?_
              rintro e w6 ⟨⟨heq, rfl⟩ | ⟨hne, rfl⟩, hd⟩
              · have HE := Lib.hid (GF.out heq.symm)
                have Y6 := Lib.hid (Y5.out.keep hd.below)
                have B6 := Lib.hid (B5.out.trans (hd.below (B := W.heap.size)))
                clear heq hd
                go_wp2
                exact bodyPost_ret (v := .tuple #[.slice (some ⟨B1, 0, none⟩) xs.length xs.length, .int .i64 s, .int .i64 (k : Int), .int .i64 0]) (by simp [results, Try.results19, go_sem]) rfl (run_out HB.out HG.out HT.out HTT.out HE.out Y6.out GL.out (by omega) B6.out)
              · have HE := Lib.hid (GE.out (fun h => hne h.symm))
                have Y6 := Lib.hid (Y5.out.keep hd.below)
                have K6 := Lib.hid (K5.out.keep hd.below)
                have N6 := Lib.hid (N5.out.keep hd.below)
                have B6 := Lib.hid (B5.out.trans (hd.below (B := W.heap.size)))
                have D6 := Lib.hid (tick_bed GD.out HG.out)
                clear hne hd
                go_wp2
                go_roundw
                case rel => exact ⟨k + 1, B2', B1, tickL n d l ys, ys, s + q, rfl, rfl, rfl, by go_num, by omega, by omega, by omega, K6.out, Y6.out, TL.out, GL.out, GN2.out.symm, Gn2.out, Gn1.out, D6.out, N6.out, B6.out, HE.out⟩
                case measure => simp only [intOf]; omega
            · have u1 : ¬ (k : Int) < t := by omega
              have HE := Lib.hid (run_end GR.out (.inl (by omega)))
              have HKT := Lib.hid (show (k : Int) = t by omega)
              go_wp2
              refine bodyPost_ret (v := .tuple #[.slice (some ⟨B1, 0, none⟩) xs.length xs.length, .int .i64 s, .int .i64 t, .int .i64 0]) (by simp [results, Try.results19, go_sem]) rfl ?_
              rw [← HKT.out]
              rw [← HKT.out] at HTT HT
              exact run_out HB.out HG.out HT.out HTT.out HE.out GY.out GL.out (by omega) GW.out
      · have HT := Lib.hid ht
        clear ht
        go_wp2
        refine bodyPost_ret (v := .tuple #[.slice none 0 0, .int .i64 0, .int .i64 0, .int .i64 2]) (by simp [results, Try.results19, go_sem]) rfl (.inr ⟨fun h => HT.out h.2.2, _, _, rfl, by unfold maxLen; omega, B2.out⟩)
    · have HG := Lib.hid hg
      have B2 := Lib.hid (below_then GB.out hb3)
      clear hg hb3 d0 d1 d2
      go_wp2
      refine bodyPost_ret (v := .tuple #[.slice none 0 0, .int .i64 0, .int .i64 0, .int .i64 2]) (by simp [results, Try.results19, go_sem]) rfl (.inr ⟨fun h => HG.out h.2.1, _, _, rfl, by unfold maxLen; omega, B2.out⟩)
  · have HB := Lib.hid hb
    clear hb
    go_wp2
    refine bodyPost_ret (v := .tuple #[.slice none 0 0, .int .i64 0, .int .i64 0, .int .i64 2]) (by simp [results, Try.results19, go_sem]) rfl (.inr ⟨fun h => HB.out h.1, _, _, rfl, by unfold maxLen; omega, GB.out⟩)

theorem runOk : RunOk := fun n d l t ao la ca xs W hs hla => runP n d l t ao la ca xs W hs hla

/-- the loop of Until -/
def PUntil (n d l low high : Int) (la M : Nat) (xs : List Int) (W : World) (nv av iv : Value) (wr : World) : Prop :=
  ∃ (k Bn Ba : Nat) (ys zs : List Int), nv = .slice (some ⟨Bn, 0, none⟩) la la ∧ av = .slice (some ⟨Ba, 0, none⟩) la la ∧ iv = .int .i64 (k : Int) ∧ k ≤ M + 1 ∧ ys = afterL n d l xs k ∧ (∀ j, j < k → ¬ In low high (afterL n d l xs j)) ∧ Blk wr Bn ys ∧ Blk wr Ba zs ∧ ys.length = la ∧ zs.length = la ∧ Bn ≠ Ba ∧ W.heap.size < Bn ∧ W.heap.size < Ba ∧ Bedly ys ∧ Gr wr W.heap.size n d l ∧ Below W.heap.size W wr

def UntilPost (n d l low high m : Int) (xs : List Int) (W : World) (e : Ending) (w' : World) : Prop :=
  (Bedly xs ∧ Grainy n d l ∧ 0 ≤ m ∧ m ≤ 1048576 ∧ OutUntil n d l low high m.toNat xs W e w') ∨ (¬ (Bedly xs ∧ Grainy n d l ∧ 0 ≤ m ∧ m ≤ 1048576) ∧ e = .returned (.tuple #[.int .i64 0, .int .i64 2]) ∧ Below W.heap.size W w')

theorem after_rest {n d l : Int} {xs : List Int} {k : Nat} (h : tickL n d l (afterL n d l xs k) = afterL n d l xs k) : ∀ j, afterL n d l xs (k + j) = afterL n d l xs k
  | 0 => rfl
  | j + 1 => by
    rw [← Nat.add_assoc]
    show tickL n d l (afterL n d l xs (k + j)) = _
    rw [after_rest h j, h]

set_option maxHeartbeats 8000000 in
theorem untilP (n d l low high t : Int) (ao : Option Addr) (la ca : Nat) (xs : List Int) (W : World) (hs : Il W ao la xs) (hla : la ≤ 9223372036854775807) :
    Calls Try.prog 21 #[.agg #[.int .i64 n, .int .i64 d, .int .i64 l], .slice ao la ca, .int .i64 low, .int .i64 high, .int .i64 t] W (UntilPost n d l low high t xs W) := by
  have hl := hs.len
  subst hl
  have hbe : Below W.heap.size W (W.alloc (.cells #[.int .i64 n, .int .i64 d, .int .i64 l] 23)) := (Below.refl _ _).alloc (Nat.le_refl _) _
  have GB := Lib.hid hbe
  have GN := Lib.hid (Gr.new W n d l)
  have HS := Lib.hid (hs.keep hbe)
  clear hbe hs
  go_enter Try.func21, Try.ntmps21
  go_wp2_with fail
  refine (isBed_any _ _ _ xs _ HS.out hla).mono ?_
  rintro e w1 ⟨⟨hb, rfl⟩ | ⟨hb, rfl⟩, rfl⟩
  · have HB := Lib.hid hb
    have hb1 := hb.1
    have hb2 := hb.2.1
    clear hb
    have d0 := GN.out.c0
    have d1 := GN.out.c1
    have d2 := GN.out.c2
    go_wp2_with fail
    refine (isGrain_any n d l _).mono ?_
    rintro e w2 ⟨⟨hg, rfl⟩ | ⟨hg, rfl⟩, hb3⟩
    · have HG := Lib.hid hg
      have B2 := Lib.hid (below_then GB.out hb3)
      have N2 := Lib.hid (GN.out.keep hb3)
      have S2 := Lib.hid (HS.out.keep hb3)
      clear hg hb3 d0 d1 d2
      go_wp2_with fail
      refine (isRun_any t _).mono ?_
      rintro e w3 ⟨⟨ht, rfl⟩ | ⟨ht, rfl⟩, rfl⟩
      · have HT := Lib.hid ht
        clear ht
        obtain ⟨T, hT⟩ : ∃ T : Nat, t = (T : Int) := ⟨t.toNat, by have := HT.out; omega⟩
        have t1 : t ≤ (T : Int) := by omega
        have t2 : (T : Int) ≤ t := by omega
        have hTM : T ≤ 1048576 := by have := HT.out; omega
        have HTT := Lib.hid (show t.toNat = T by omega)
        clear hT
        go_upto_region 3 with fail
        go_cut [12, 13] from 28 to 32 (fun v10 v11 wx => Two xs.length xs w3 v10 v11 wx)
        case first =>
          have hmk := run_mk xs.length (by omega)
          go_region_with (first
            | (go_at_call 35; refine (duplicate_any ao xs.length ca xs w3.drew S2.out.drew (by omega) (by omega)).mono ?_; rintro e w4 ⟨rfl, hk, hb4, hz⟩)
            | (go_at_call 35; refine (duplicate_any ao xs.length ca xs (w3.alloc (.cells (ics (List.replicate xs.length 0)) 3)).drew (S2.out.keep ((Below.refl _ _).alloc (Nat.le_refl _) _)).drew (by omega) (by omega)).mono ?_; rintro e w4 ⟨rfl, hk, hb4, hz⟩))
          · have TW2 := Lib.hid (two_dm (la := xs.length) hk hb4 hz)
            clear hk hb4 hz hmk
            go_wp2_with fail
            go_meet
            case rel => exact TW2.out
          · have TW2 := Lib.hid (two_md (la := xs.length) hk hb4)
            clear hk hb4 hz hmk
            go_wp2_with fail
            go_meet
            case rel => exact TW2.out
        case rest =>
          obtain ⟨Bn, Ba, rfl, rfl, hne, hn1, ha1, hbn, hba, hbel⟩ := hcut
          have C1 := Lib.hid hbn
          have C2 := Lib.hid hba
          have CB := Lib.hid (B2.out.trans (hbel.mono B2.out.size))
          have CG := Lib.hid (N2.out.keep hbel)
          have CN := Lib.hid hne
          have Cn := Lib.hid (show W.heap.size < Bn by have := N2.out.lt; omega)
          have Ca := Lib.hid (show W.heap.size < Ba by have := N2.out.lt; omega)
          clear hbn hba hbel hne hn1 ha1
          go_wp2_with fail
          go_loopw [12, 13, 35] (fun nv av iv wr => PUntil n d l low high xs.length T xs W nv av iv wr) (fun nv av iv _ => T + 1 - (intOf iv).toNat)
          case atStart => exact ⟨0, Bn, Ba, xs, _, rfl, rfl, rfl, by omega, rfl, fun j hj => absurd hj (by omega), C1.out, C2.out, rfl, rep_len _, CN.out, Cn.out, Ca.out, HB.out, CG.out, CB.out⟩
          case round =>
            clear C1 C2 CB CG CN Cn Ca
            obtain ⟨k, B1, B2', ys, zs, rfl, rfl, rfl, hk, hys, hall, hy, hz, hyl, hzl, hne, hn1, hn2, hbd, hgr, hbel⟩ := hrel
            have GYS := Lib.hid hys
            have GA := Lib.hid hall
            have GY := Lib.hid hy
            have GZ := Lib.hid hz
            have GL := Lib.hid hyl
            have GM := Lib.hid hzl
            have GN2 := Lib.hid hne
            have Gn1 := Lib.hid hn1
            have Gn2 := Lib.hid hn2
            have GD := Lib.hid hbd
            have GG := Lib.hid hgr
            have GW := Lib.hid hbel
            have d0 := hgr.c0
            have d1 := hgr.c1
            have d2 := hgr.c2
            clear hys hall hy hz hyl hzl hne hn1 hn2 hbd hgr hbel
            by_cases h1 : k < T + 1
            · have u1 : (k : Int) < t + 1 := by omega
              go_wp2_with fail
              refine (are_any _ _ _ low high ys _ (GY.out.il GL.out) hla).mono ?_
              rintro e w4 ⟨⟨hin, rfl⟩ | ⟨hin, rfl⟩, rfl⟩
              · have GIN := Lib.hid hin
                clear hin
                go_wp2
                exact bodyPost_ret (v := .tuple #[.int .i64 (k : Int), .int .i64 0]) (by simp [results, Try.results21, go_sem]) rfl (.inl ⟨HB.out, HG.out, HT.out.1, HT.out.2, .inl ⟨k, by rw [HTT.out]; omega, GYS.out ▸ GIN.out, GA.out, rfl⟩, GW.out⟩)
              · have GIN := Lib.hid hin
                clear hin
                go_wp2_with fail
                refine (tickP_any n d l _ xs.length xs.length xs.length ys zs B2' _ (GY.out.il GL.out) (fun a ha => by cases ha; exact GN2.out) GZ.out GM.out GD.out HG.out).mono ?_
                rintro e w5 ⟨rfl, hk5, hg5⟩
                have K5 := Lib.hid hk5
                have Y5 := Lib.hid (GY.out.grown hg5 (by have := GN2.out; simpa using this))
                have N5 := Lib.hid (GG.out.grown hg5 (by have := Gn2.out; omega))
                have B5 := Lib.hid (below_grown GW.out hg5 GW.out.size (by have := Gn2.out; omega))
                have TL := Lib.hid ((tickL_len n d l ys).trans GL.out)
                clear hk5 hg5 d0 d1 d2
                go_wp2_with fail
                refine (equal_any _ _ _ _ _ _ ys (tickL n d l ys) _ (Y5.out.il GL.out) (K5.out.il TL.out) hla hla).mono ?_
                rintro e w6 ⟨⟨heq, rfl⟩ | ⟨hne, rfl⟩, hd⟩
                · have HE := Lib.hid heq
                  have B6 := Lib.hid (B5.out.trans (hd.below (B := W.heap.size)))
                  clear heq hd
                  go_wp2
                  refine bodyPost_ret (v := .tuple #[.int .i64 0, .int .i64 6]) (by simp [results, Try.results21, go_sem]) rfl (.inl ⟨HB.out, HG.out, HT.out.1, HT.out.2, .inr ⟨fun j hj => ?_, rfl⟩, B6.out⟩)
                  by_cases hjk : j < k
                  · exact GA.out j hjk
                  · obtain ⟨i, rfl⟩ : ∃ i, j = k + i := ⟨j - k, by omega⟩
                    rw [after_rest (by rw [← GYS.out]; exact HE.out.symm) i, ← GYS.out]
                    exact GIN.out
                · have Y6 := Lib.hid (Y5.out.keep hd.below)
                  have K6 := Lib.hid (K5.out.keep hd.below)
                  have N6 := Lib.hid (N5.out.keep hd.below)
                  have B6 := Lib.hid (B5.out.trans (hd.below (B := W.heap.size)))
                  have D6 := Lib.hid (tick_bed GD.out HG.out)
                  clear hne hd
                  go_wp2
                  go_roundw
                  case rel =>
                    refine ⟨k + 1, B2', B1, tickL n d l ys, ys, rfl, rfl, by go_num, by omega, by rw [GYS.out]; rfl, fun j hj => ?_, K6.out, Y6.out, TL.out, GL.out, GN2.out.symm, Gn2.out, Gn1.out, D6.out, N6.out, B6.out⟩
                    rcases Nat.lt_succ_iff_lt_or_eq.1 hj with hj | rfl
                    · exact GA.out j hj
                    · exact fun h => GIN.out (GYS.out ▸ h)
                  case measure => simp only [intOf]; omega
            · have u1 : ¬ (k : Int) < t + 1 := by omega
              go_wp2
              exact bodyPost_ret (v := .tuple #[.int .i64 0, .int .i64 6]) (by simp [results, Try.results21, go_sem]) rfl (.inl ⟨HB.out, HG.out, HT.out.1, HT.out.2, .inr ⟨fun j hj => GA.out j (by rw [HTT.out] at hj; omega), rfl⟩, GW.out⟩)
      · have HT := Lib.hid ht
        clear ht
        go_wp2
        refine bodyPost_ret (v := .tuple #[.int .i64 0, .int .i64 2]) (by simp [results, Try.results21, go_sem]) rfl (.inr ⟨fun h => HT.out h.2.2, rfl, B2.out⟩)
    · have HG := Lib.hid hg
      have B2 := Lib.hid (below_then GB.out hb3)
      clear hg hb3 d0 d1 d2
      go_wp2
      refine bodyPost_ret (v := .tuple #[.int .i64 0, .int .i64 2]) (by simp [results, Try.results21, go_sem]) rfl (.inr ⟨fun h => HG.out h.2.1, rfl, B2.out⟩)
  · have HB := Lib.hid hb
    clear hb
    go_wp2
    refine bodyPost_ret (v := .tuple #[.int .i64 0, .int .i64 2]) (by simp [results, Try.results21, go_sem]) rfl (.inr ⟨fun h => HB.out h.1, rfl, GB.out⟩)

theorem untilOk : UntilOk := fun n d l low high m ao la ca xs W hs hla => untilP n d l low high m ao la ca xs W hs hla

/-- package bed is as the document has it -/
theorem bedOk : BedOk := ⟨tickOk, runOk, steepOk, untilOk, turnOk, spreadOk⟩
end Go.Proofs.Ytcbbdbglbfnbpaa
