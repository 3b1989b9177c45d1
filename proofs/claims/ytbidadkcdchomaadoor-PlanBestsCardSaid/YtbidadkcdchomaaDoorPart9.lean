/- Part 9 of the contracts: PFree0, PFree, PAssign. -/
import Derived.BigRegion
import Derived.Test.YtbidadkcdchomaaDoorPart8

/- package plan: words for firstFree: stays in memory, make of any kind; the closures of firstFree; slices.IndexFunc. -/
set_option linter.unusedVariables false
set_option linter.unusedSimpArgs false
namespace Go.Proofs.YtbidadkcdchomaaDoor
open Go.RowKit

theorem wpList_mkG {P : Program} {w : World} {ops : Array Oper} {rest : List Oper} {o : Oper} {a : Act} {Q : Exit → Act → World → Prop}
    (hg : o.guard = none) (l : Operand) (t e : TypeId) (hop : o.op = Op.makeSlice t l l) (z : Value) (size bytes : Nat)
    (h1 : P.underlying t = some (.slice e)) (h2 : (P.info? e).map (fun i => (i.zero, i.size, i.bytes)) = some (some z, size, bytes))
    (L : Int) (n : Nat) (hl : a.eval l = .int .i64 L) (hL : L = (n : Int)) (b2 : n ≤ 1000000) (b3 : bytes ≤ 1000)
    (hK : ∀ w1, Box w1 w.heap.size e (madeCells z.cells (n * size)) → Below w.heap.size w w1 → w1.heap.size = w.heap.size + 1 → wpList P ops Q rest (a.put o.dst (.slice (some ⟨w.heap.size, 0, none⟩) n n)) w1) :
    wpList P ops Q (o :: rest) a w := by
  obtain ⟨i0, hi, hz0, hz1, hz2⟩ := info_parts h2
  refine wpList_plain hg fun K hK' => ?_
  subst hL
  have hb' : (i0.bytes : Int) * (n : Int) ≤ 281474976710656 := by
    have h : i0.bytes * n ≤ 1000 * 1000000 := Nat.mul_le_mul (by omega) b2
    rw [← Int.natCast_mul]
    omega
  have hr := run_make (P := P) w t e i0 _ h1 hi hz0 .i64 .i64 n n (by omega) (Int.le_refl _) hb' (by omega)
  simp only [Int.toNat_natCast] at hr
  unfold Oper.wp
  simp [execOp, hop, hl, hr, Result.andThen]
  refine hK' _ _ (hK _ ?_ ((Below.refl _ _).alloc (Nat.le_refl _) _) (by simp))
  rw [hz1]
  exact Box.new w e _
theorem made_ints (z : Array Value) (hz : ∀ i, i < z.size → z[i]! = .int .i64 0) (h0 : 0 < z.size) (m : Nat) : madeCells z m = ics (List.replicate m 0) := by
  apply Array.toList_inj.1
  refine List.ext_getElem (by simp [madeCells, ics]) fun i h1 h2 => ?_
  simp only [madeCells, ics, Array.toList_map, Array.toList_range, List.getElem_map, List.getElem_range, List.getElem_replicate, List.map_replicate]
  exact hz _ (Nat.mod_lt _ h0)
/-- stays as integers -/
def flatP (l : List (Nat × Nat)) : List Int := l.flatMap fun x => [(x.1 : Int), (x.2 : Int)]
theorem flatP_len : ∀ l : List (Nat × Nat), (flatP l).length = l.length * 2
  | [] => rfl
  | x :: l => by
    have := flatP_len l
    unfold flatP at *
    rw [List.flatMap_cons, List.length_append, this, List.length_cons]
    simp
    omega
theorem flatP_get : ∀ (l : List (Nat × Nat)) (i c : Nat), c < 2 → i < l.length → (flatP l)[i * 2 + c]? = some (if c = 0 then ((l[i]!).1 : Int) else ((l[i]!).2 : Int))
  | [], i, c, _, h => absurd h (Nat.not_lt_zero _)
  | x :: l, 0, c, hc, _ => by
    unfold flatP
    rw [List.flatMap_cons, Nat.zero_mul, Nat.zero_add, List.getElem?_append_left (by exact hc)]
    have : c = 0 ∨ c = 1 := by omega
    rcases this with rfl | rfl <;> rfl
  | x :: l, i + 1, c, hc, h => by
    have := flatP_get l i c hc (by simpa using h)
    unfold flatP at *
    rw [List.flatMap_cons, List.getElem?_append_right (by show 2 ≤ _; omega), show (i + 1) * 2 + c - [(x.1 : Int), (x.2 : Int)].length = i * 2 + c by show (i + 1) * 2 + c - 2 = _; omega, this]
    rfl
/-- stays in a block -/
def Sty (w : World) (g : Nat) (l : List (Nat × Nat)) : Prop := Box w g 72 (ics (flatP l))
theorem Sty.fst {w : World} {g : Nat} {l : List (Nat × Nat)} (h : Sty w g l) {i : Nat} (hi : i < l.length) : w.cell? ⟨g, i * 2, none⟩ = some (.int .i64 ((l[i]!).1 : Int)) := by
  have e := flatP_get l i 0 (by omega) hi
  rw [Nat.add_zero] at e
  rw [Box.cell h, ics_get _ _ (by rw [flatP_len]; omega), e]
  rfl
theorem Sty.snd {w : World} {g : Nat} {l : List (Nat × Nat)} (h : Sty w g l) {i : Nat} (hi : i < l.length) : w.cell? ⟨g, i * 2 + 1, none⟩ = some (.int .i64 ((l[i]!).2 : Int)) := by
  have e := flatP_get l i 1 (by omega) hi
  rw [Box.cell h, ics_get _ _ (by rw [flatP_len]; omega), e]
  rfl
theorem Sty.lt {w : World} {g : Nat} {l : List (Nat × Nat)} (h : Sty w g l) : g < w.heap.size := Box.lt h
theorem Sty.keep {w w' : World} {g : Nat} {l : List (Nat × Nat)} (h : Sty w g l) (hb : Below w.heap.size w w') : Sty w' g l := Box.below h hb h.lt

set_option maxRecDepth 100000 in
set_option maxHeartbeats 1000000 in
/-- when a stay begins -/
theorem begin_any {p gv n c : Nat} {vis : List (Nat × Nat)} (W : World) (i : Nat) (hc : W.cell? ⟨p, 0, none⟩ = some (.slice (some ⟨gv, 0, none⟩) n c)) (hv : Sty W gv vis) (hn : vis.length = n) (hi : i < n) :
    Calls Tryd.prog 52 #[.int .i64 (i : Int), .pointer (some ⟨p, 0, none⟩)] W fun e w' => e = .returned (.int .i64 ((vis[i]!).1 : Int)) ∧ Below W.heap.size W w' := by
  have c0 := hv.fst (i := i) (by omega)
  have u0 : (0 : Int) ≤ (i : Int) := by omega
  have u1 : (i : Int) < (n : Int) := by omega
  generalize (vis[i]!).1 = b at c0
  clear hv hn
  go_enter Tryd.func52, Tryd.ntmps52
  go_wp2
  go_ret
  exact ⟨rfl, Below.refl _ _⟩
set_option maxRecDepth 100000 in
set_option maxHeartbeats 1000000 in
/-- whether a vessel is free then -/
theorem isFree_any {p q gv n c : Nat} {vis : List (Nat × Nat)} (W : World) (i t : Nat) (hc : W.cell? ⟨p, 0, none⟩ = some (.slice (some ⟨gv, 0, none⟩) n c)) (hq : W.cell? ⟨q, 0, none⟩ = some (.int .i64 (i : Int))) (hv : Sty W gv vis) (hn : vis.length = n) (hi : i < n) :
    Calls Tryd.prog 54 #[.int .i64 (t : Int), .pointer (some ⟨p, 0, none⟩), .pointer (some ⟨q, 0, none⟩)] W fun e w' => e = .returned (.bool (decide (t ≤ (vis[i]!).1))) ∧ Below W.heap.size W w' := by
  have c0 := hv.fst (i := i) (by omega)
  have u0 : (0 : Int) ≤ (i : Int) := by omega
  have u1 : (i : Int) < (n : Int) := by omega
  generalize (vis[i]!).1 = b at c0
  clear hv hn
  by_cases h : t ≤ b
  · have u2 : (t : Int) ≤ (b : Int) := by omega
    rw [decide_eq_true h]
    clear h
    go_enter Tryd.func54, Tryd.ntmps54
    go_wp2
    go_ret
    exact ⟨rfl, Below.refl _ _⟩
  · have u2 : ¬ (t : Int) ≤ (b : Int) := by omega
    rw [decide_eq_false h]
    clear h
    go_enter Tryd.func54, Tryd.ntmps54
    go_wp2
    go_ret
    exact ⟨rfl, Below.refl _ _⟩
/-- the first of the numbers that are at most b, or -1 -/
def OutIx (fr : List Nat) (b : Nat) (W : World) (e : Ending) (w' : World) : Prop :=
  Below W.heap.size W w' ∧ ((∃ v, v < fr.length ∧ fr[v]! ≤ b ∧ (∀ j, j < v → b < fr[j]!) ∧ e = .returned (.int .i64 (v : Int))) ∨ ((∀ j, j < fr.length → b < fr[j]!) ∧ e = .returned (.int .i64 (-1))))
set_option maxRecDepth 100000 in
set_option maxHeartbeats 2000000 in
theorem index_any {p q gv n c gf m fc : Nat} {vis : List (Nat × Nat)} {fr : List Nat} (W : World) (i : Nat) (hc : W.cell? ⟨p, 0, none⟩ = some (.slice (some ⟨gv, 0, none⟩) n c)) (hq : W.cell? ⟨q, 0, none⟩ = some (.int .i64 (i : Int))) (hv : Sty W gv vis) (hn : vis.length = n) (hi : i < n)
    (hf : Blk W gf (vI fr)) (hm : fr.length = m) (hm8 : m ≤ 1000) :
    Calls Tryd.prog 53 #[.slice (some ⟨gf, 0, none⟩) m fc, .func (.func 54) #[] #[.pointer (some ⟨p, 0, none⟩), .pointer (some ⟨q, 0, none⟩)]] W (OutIx fr (vis[i]!).1 W) := by
  obtain ⟨b, hbe⟩ : ∃ b, b = (vis[i]!).1 := ⟨_, rfl⟩
  rw [← hbe]
  have HBE := Lib.hid hbe
  clear hbe
  have HC := Lib.hid hc
  have HQ := Lib.hid hq
  have HV := Lib.hid hv
  have HN := Lib.hid hn
  have HF := Lib.hid hf
  have HM := Lib.hid hm
  clear hc hq hv hn hf hm
  go_enter Tryd.func53, Tryd.ntmps53
  go_wp2
  go_loopg [8] m (fun gg s8 wr => ∃ k : Nat, s8 = .int .i64 (k : Int) ∧ k ≤ m ∧ m - k ≤ gg ∧ Hid (∀ j, j < k → b < fr[j]!) ∧ Hid (Below W.heap.size W wr))
  case atStart => exact ⟨0, rfl, Nat.zero_le _, by omega, Lib.hid (fun j hj => absurd hj (Nat.not_lt_zero _)), Lib.hid (Below.refl _ _)⟩
  case round =>
    obtain ⟨k, rfl, hk, hgg, HJ, HW⟩ := hrel
    by_cases h1 : k < m
    · have u0 : (0 : Int) ≤ (k : Int) := by omega
      have u1 : (k : Int) < (m : Int) := by omega
      have c0 := (HF.out.keep HW.out).cell k (by rw [vI_len, HM.out]; exact h1)
      rw [vI_get] at c0
      have P := isFree_any wr i fr[k]! (cell_later HW.out HC.out) (cell_later HW.out HQ.out) (HV.out.keep HW.out) HN.out hi
      rw [← HBE.out] at P
      have P := Lib.hid P
      by_cases h2 : fr[k]! ≤ b
      · have H2 := Lib.hid h2
        rw [decide_eq_true h2] at P
        generalize fr[k]! = t at c0 P
        clear h2
        go_wp2_with (go_at_call 54; refine P.out.mono ?_; rintro e w1 ⟨rfl, hb1⟩; have HB1 := Lib.hid (HW.out.trans (hb1.mono HW.out.size)); clear hb1)
        go_ret
        exact ⟨HB1.out, .inl ⟨k, by rw [HM.out]; exact h1, H2.out, HJ.out, rfl⟩⟩
      · have H2 := Lib.hid (show b < fr[k]! from by omega)
        rw [decide_eq_false h2] at P
        generalize hft : fr[k]! = t at c0 P
        clear h2 hft
        go_wp2_with (go_at_call 54; refine P.out.mono ?_; rintro e w1 ⟨rfl, hb1⟩; have HB1 := Lib.hid (HW.out.trans (hb1.mono HW.out.size)); clear hb1)
        go_roundg (m - (k + 1))
        case measure => omega
        case rel => exact ⟨k + 1, by go_num, by omega, Nat.le_refl _, Lib.hid (fun j hj => by
            rcases Nat.lt_succ_iff_lt_or_eq.1 hj with hj | rfl
            · exact HJ.out j hj
            · exact H2.out), HB1⟩
    · obtain rfl : k = m := by omega
      have u1 : ¬ (k : Int) < (k : Int) := by omega
      have HR := Lib.hid (show OutIx fr b W (.returned (.int .i64 (-1))) wr from ⟨HW.out, .inr ⟨fun j hj => HJ.out j (by rw [HM.out] at hj; exact hj), rfl⟩⟩)
      go_wp2
      go_ret
      exact HR.out
end Go.Proofs.YtbidadkcdchomaaDoor

/- package plan: firstFree. -/
set_option linter.unusedVariables false
set_option linter.unusedSimpArgs false
namespace Go.Proofs.YtbidadkcdchomaaDoor
open Go.RowKit

/-- the vessels that are chosen, one behind the other; none if no vessel is free -/
def ffN (vis : List (Nat × Nat)) : List Nat → List Nat → List Nat → Option (List Nat)
  | [], _, ch => some ch
  | i :: os, fr, ch => match fr.findIdx? (fun x => decide (x ≤ (vis[i]!).1)) with
    | none => none
    | some v => ffN vis os (fr.set v (vis[i]!).2) (ch.set i v)
def begK (vis : List (Nat × Nat)) (i : Nat) : Int := ((vis[i]!).1 : Int)
theorem ffN_len (vis : List (Nat × Nat)) : ∀ (os fr ch r : List Nat), ffN vis os fr ch = some r → r.length = ch.length
  | [], _, ch, r, h => by unfold ffN at h; cases h; rfl
  | i :: os, fr, ch, r, h => by
    unfold ffN at h
    split at h
    · cases h
    · rw [ffN_len vis os _ _ _ h, List.length_set]
/-- what firstFree holds: the order, the vessels that are chosen, when each vessel is free -/
structure FrS (W wr : World) (go gc gf gv n c : Nat) (os fr ch : List Nat) : Prop where
  ch : Blk wr gc (vI ch)
  fr : Blk wr gf (vI fr)
  od : Blk wr go (vI os)
  pv : wr.cell? ⟨W.heap.size, 0, none⟩ = some (.slice (some ⟨gv, 0, none⟩) n c)
  bel : Below W.heap.size W wr
  l1 : W.heap.size < go
  l2 : go < gc
  l3 : gc < gf
section
variable {W wr w' : World} {go gc gf gv n c : Nat} {os fr ch : List Nat}
theorem FrS.keep (h : FrS W wr go gc gf gv n c os fr ch) (hb : Below wr.heap.size wr w') : FrS W w' go gc gf gv n c os fr ch :=
  ⟨h.ch.keep hb, h.fr.keep hb, h.od.keep hb, cell_later hb h.pv, h.bel.trans (hb.mono h.bel.size), h.l1, h.l2, h.l3⟩
theorem set_far (w : World) (g i b o : Nat) (v u : Value) (h : w.cell? ⟨b, o, none⟩ = some u) (hn : b ≠ g) : (w.setCell ⟨g, i, none⟩ v).cell? ⟨b, o, none⟩ = some u :=
  (World.cell?_of_block (a := ⟨b, o, none⟩) (Below.heap_setCell _ _ _ b hn)).trans h
theorem FrS.putC (h : FrS W wr go gc gf gv n c os fr ch) (i x : Nat) : FrS W (wr.setCell ⟨gc, i, none⟩ (.int .i64 (x : Int))) go gc gf gv n c os fr (ch.set i x) := by
  have := h.l1; have := h.l2; have := h.l3
  exact ⟨by rw [← vI_set]; exact h.ch.set i _, h.fr.other _ (by show gf ≠ gc; omega) _, h.od.other _ (by show go ≠ gc; omega) _, set_far _ _ _ _ _ _ _ h.pv (by omega), h.bel.grown (grownBy_set _ _ _ _) h.bel.size (fun k e => by cases e; omega), h.l1, h.l2, h.l3⟩
theorem FrS.putF (h : FrS W wr go gc gf gv n c os fr ch) (i x : Nat) : FrS W (wr.setCell ⟨gf, i, none⟩ (.int .i64 (x : Int))) go gc gf gv n c os (fr.set i x) ch := by
  have := h.l1; have := h.l2; have := h.l3
  exact ⟨h.ch.other _ (by show gc ≠ gf; omega) _, by rw [← vI_set]; exact h.fr.set i _, h.od.other _ (by show go ≠ gf; omega) _, set_far _ _ _ _ _ _ _ h.pv (by omega), h.bel.grown (grownBy_set _ _ _ _) h.bel.size (fun k e => by cases e; omega), h.l1, h.l2, h.l3⟩
end
def OutIf (vis : List (Nat × Nat)) (i : Nat) (os fr ch r : List Nat) (W : World) (e : Ending) (w' : World) : Prop :=
  ∃ v, e = .returned (.int .i64 ((v : Nat) : Int)) ∧ v < fr.length ∧ ffN vis os (fr.set v (vis[i]!).2) (ch.set i v) = some r ∧ Below W.heap.size W w'
theorem index_ff {p q gv n c gf m fc : Nat} {vis : List (Nat × Nat)} {fr os ch r : List Nat} (W : World) (i : Nat) (hc : W.cell? ⟨p, 0, none⟩ = some (.slice (some ⟨gv, 0, none⟩) n c)) (hq : W.cell? ⟨q, 0, none⟩ = some (.int .i64 (i : Int))) (hv : Sty W gv vis) (hn : vis.length = n) (hi : i < n)
    (hf : Blk W gf (vI fr)) (hm : fr.length = m) (hm8 : m ≤ 1000) (hff : ffN vis (i :: os) fr ch = some r) :
    Calls Tryd.prog 53 #[.slice (some ⟨gf, 0, none⟩) m fc, .func (.func 54) #[] #[.pointer (some ⟨p, 0, none⟩), .pointer (some ⟨q, 0, none⟩)]] W (OutIf vis i os fr ch r W) := by
  refine (index_any W i hc hq hv hn hi hf hm hm8).mono ?_
  rintro e w' ⟨hb, ⟨v, h1, h2, h3, rfl⟩ | ⟨h1, rfl⟩⟩
  · have hx : fr.findIdx? (fun x => decide (x ≤ (vis[i]!).1)) = some v := by
      rw [List.findIdx?_eq_some_iff_getElem]
      refine ⟨h1, ?_, fun j hj => ?_⟩
      · rw [getElem!_pos fr v h1] at h2
        simpa using h2
      · have hjl : j < fr.length := by omega
        have := h3 j hj
        rw [getElem!_pos fr j hjl] at this
        simpa using this
    unfold ffN at hff
    rw [hx] at hff
    exact ⟨v, rfl, h1, hff, hb⟩
  · have hx : fr.findIdx? (fun x => decide (x ≤ (vis[i]!).1)) = none := by
      rw [List.findIdx?_eq_none_iff]
      intro x hx
      obtain ⟨j, hj, rfl⟩ := List.mem_iff_getElem.1 hx
      have := h1 j hj
      rw [getElem!_pos fr j hj] at this
      simpa using this
    unfold ffN at hff
    rw [hx] at hff
    cases hff
def OutFr (r : List Nat) (n : Nat) (W : World) (e : Ending) (w' : World) : Prop := ∃ g, e = .returned (.slice (some ⟨g, 0, none⟩) n n) ∧ Blk w' g (vI r) ∧ W.heap.size ≤ g ∧ Below W.heap.size W w'
theorem vI_rep (n : Nat) : List.replicate n (0 : Int) = vI (List.replicate n 0) := by unfold vI; simp

set_option maxRecDepth 100000 in
set_option maxHeartbeats 4000000 in
theorem free_any (gv n c m : Nat) (vis : List (Nat × Nat)) (r : List Nat) (W : World) (hv : Sty W gv vis) (hn : vis.length = n) (hn5 : n ≤ 5) (hm8 : m ≤ 8) (hff : ffN vis (sortR (begK vis) n) (List.replicate m 0) (List.replicate n 0) = some r) :
    Calls Tryd.prog 41 #[.slice (some ⟨gv, 0, none⟩) n c, .int .i64 (m : Int)] W (OutFr r n W) := by
  obtain ⟨V, hV⟩ : ∃ V, V = W.alloc (.cells #[.slice (some ⟨gv, 0, none⟩) n c] 78) := ⟨_, rfl⟩
  have HB : Hid (Below W.heap.size W V) := Lib.hid (by rw [hV]; exact box_below W _)
  have HZ : Hid (V.heap.size = W.heap.size + 1) := Lib.hid (by rw [hV, size_alloc])
  have R2 : V.heap[W.heap.size]? = some (.cells #[.slice (some ⟨gv, 0, none⟩) n c] 78 (0, 0)) := by rw [hV]; exact new_row W _
  have c0 : V.cell? ⟨W.heap.size, 0, none⟩ = some (.slice (some ⟨gv, 0, none⟩) n c) := by rw [cell_row R2]; rfl
  have HS := Lib.hid (hv.keep HB.out)
  have HV := Lib.hid hV
  have HN := Lib.hid hn
  have HF := Lib.hid hff
  have HSV := Lib.hid hv
  obtain ⟨os, hos⟩ : ∃ os, os = sortR (begK vis) n := ⟨_, rfl⟩
  have HOS := Lib.hid hos
  clear hV R2 hv hn hff hos
  go_enter Tryd.func41, Tryd.ntmps41
  go_upto_region 1 with fail
  rw [← HV.out]
  have P1 := Lib.hid (indices_any n (by omega) V)
  go_upto_region 3 with (first | (go_at_call 27; refine P1.out.mono ?_; rintro e w1 ⟨rfl, hi1, hb1, hz1⟩; have HI1 := Lib.hid hi1; have HB1 := Lib.hid hb1; have c1 := cell_later hb1 c0; have HC1 := Lib.hid c1; clear hi1 hb1 hz1; have P2 := Lib.hid (orderBy_any (fk := 52) (lb := #[.pointer (some ⟨W.heap.size, 0, none⟩)]) (K := begK vis) (m := n) (g := V.heap.size) (W := w1) (fun args w => rfl) n n (List.range n) List.length_range (range_lt n) (by omega) HI1.out (fun w i hi hg => begin_any w i (hg.cell HC1.out (by have := HZ.out; simp; omega)) (HS.out.keep (below_grown HB1.out hg HB1.out.size (Nat.le_refl _))) HN.out hi))) | (go_at_call 39; refine P2.out.mono ?_; rintro e w2 ⟨rfl, hk2, hg2⟩; have HK2 := Lib.hid hk2; have HB2 := Lib.hid (below_grown HB1.out hg2 HB1.out.size (Nat.le_refl _)); have c2 := cell_later HB2.out c0; clear hk2 hg2))
  go_upto_region 4 with (at_make; refine wpList_mk rfl _ 22 rfl Tryd.underlying22 (by kernel_rfl) _ n rfl rfl (by omega) ?_; intro w3 hB3 hb3 hz3; have K3 := Lib.hid hB3; have B3 := Lib.hid hb3; have Z3 := Lib.hid hz3; clear hB3 hb3 hz3)
  go_wp2_with (at_make; refine wpList_mk rfl _ 22 rfl Tryd.underlying22 (by kernel_rfl) _ m rfl rfl (by omega) ?_; intro w4 hB4 hb4 hz4; have K4 := Lib.hid hB4; have B4 := Lib.hid hb4; have Z4 := Lib.hid hz4; clear hB4 hb4 hz4)
  obtain ⟨go, hgo⟩ : ∃ go, go = V.heap.size := ⟨_, rfl⟩
  obtain ⟨gc, hgc⟩ : ∃ gc, gc = w2.heap.size := ⟨_, rfl⟩
  obtain ⟨gf, hgf⟩ : ∃ gf, gf = w3.heap.size := ⟨_, rfl⟩
  have HB4 : Hid (Below V.heap.size V w4) := Lib.hid (HB2.out.trans ((below_then B3.out B4.out).mono HB2.out.size))
  have HX4 : Hid (FrS W w4 go gc gf gv n c os (List.replicate m 0) (List.replicate n 0)) := Lib.hid ⟨by rw [hgc, ← vI_rep]; exact K3.out.keep B4.out, by rw [hgf, ← vI_rep]; exact K4.out, by rw [hgo, HOS.out]; exact HK2.out.keep (below_then B3.out B4.out), cell_later HB4.out c0, HB.out.trans (HB4.out.mono HB.out.size), by rw [hgo, HZ.out]; exact Nat.lt_succ_self _, by rw [hgo, hgc]; exact HK2.out.lt, by rw [hgc, hgf, Z3.out]; exact Nat.lt_succ_self _⟩
  have hol : os.length = n := by rw [HOS.out]; exact sortR_len _ _
  have HOL : Hid (∀ i, i < n → os[i]! < n) := Lib.hid (fun i hi => by rw [HOS.out] at hol ⊢; exact sortR_lt _ _ i (by rw [hol]; exact hi))
  have HOL2 := Lib.hid hol
  have HF4 : Hid (ffN vis (os.drop 0) (List.replicate m 0) (List.replicate n 0) = some r) := Lib.hid (by rw [List.drop_zero, HOS.out]; exact HF.out)
  rw [← hgo, ← hgc, ← hgf]
  clear hgo hgc hgf c0 c2 hol
  go_loopg [24] n (fun gg s24 wr => ∃ (k : Nat) (fr ch : List Nat), s24 = .int .i64 (k : Int) ∧ k ≤ n ∧ n - k ≤ gg ∧ fr.length = m ∧ ch.length = n ∧ Hid (FrS W wr go gc gf gv n c os fr ch) ∧ Hid (ffN vis (os.drop k) fr ch = some r))
  case atStart => exact ⟨0, _, _, rfl, Nat.zero_le _, by omega, List.length_replicate, List.length_replicate, HX4, HF4⟩
  case round =>
    obtain ⟨k, fr, ch, rfl, hk, hgg, hfl, hcl, HX, HK⟩ := hrel
    by_cases h1 : k < n
    · have u0 : (0 : Int) ≤ (k : Int) := by omega
      have u1 : (k : Int) < (n : Int) := by omega
      have c1 := HX.out.od.cell k (by rw [vI_len, HOL2.out]; exact h1)
      rw [vI_get] at c1
      have hi : os[k]! < n := HOL.out k h1
      have hff : ffN vis (os[k]! :: os.drop (k + 1)) fr ch = some r := by
        have := HK.out
        rw [List.drop_eq_getElem_cons (by rw [HOL2.out]; exact h1)] at this
        rw [getElem!_pos os k (by rw [HOL2.out]; exact h1)]
        exact this
      generalize os[k]! = i at c1 hi hff
      have HFF := Lib.hid hff
      clear hff
      have v0 : (0 : Int) ≤ (i : Int) := by omega
      have v1 : (i : Int) < (n : Int) := by omega
      go_upto_region 8 with fail
      obtain ⟨w5, hw5⟩ : ∃ w5, w5 = wr.alloc (.cells #[.int .i64 (i : Int)] 3) := ⟨_, rfl⟩
      have HB5 : Hid (Below wr.heap.size wr w5) := Lib.hid (by rw [hw5]; exact box_below wr _)
      have R5 : w5.heap[wr.heap.size]? = some (.cells #[.int .i64 (i : Int)] 3 (0, 0)) := by rw [hw5]; exact new_row wr _
      have d5 : w5.cell? ⟨wr.heap.size, 0, none⟩ = some (.int .i64 (i : Int)) := by rw [cell_row R5]; rfl
      have HX5 := Lib.hid (HX.out.keep HB5.out)
      have HS5 := Lib.hid (HSV.out.keep HX5.out.bel)
      have P5 := Lib.hid (index_ff (fc := m) w5 i HX5.out.pv d5 HS5.out HN.out hi HX5.out.fr hfl (by omega) HFF.out)
      rw [← hw5]
      have D5 := Lib.hid d5
      clear hw5 R5 d5 c1
      go_upto_region 9 with (go_at_call 53; refine P5.out.mono ?_; rintro e w6 ⟨v, rfl, hvl, hff, hb6⟩; have HF6 := Lib.hid hff; have HX6 := Lib.hid (HX5.out.keep hb6); have HS6 := Lib.hid (HS5.out.keep hb6); have d6 := cell_later hb6 D5.out; clear hff hb6)
      have s0 := HX6.out.ch.cell i (by rw [vI_len, hcl]; exact hi)
      have s1 := HX6.out.ch.frozen i
      go_upto_region 10 with fail
      obtain ⟨w7, hw7⟩ : ∃ w7, w7 = w6.setCell ⟨gc, i, none⟩ (.int .i64 (v : Int)) := ⟨_, rfl⟩
      have HX7 := HX6.out.putC i v
      have d7 := set_far w6 gc i wr.heap.size 0 (.int .i64 (v : Int)) _ d6 (by have := HX.out.ch.lt; omega)
      rw [← hw7] at HX7 d7
      rw [← hw7]
      have HX7 := Lib.hid HX7
      have HS7 := Lib.hid (HSV.out.keep HX7.out.bel)
      have e0 := HS7.out.snd (i := i) (by rw [HN.out]; exact hi)
      have e1 := HX7.out.pv
      have w0 : (0 : Int) ≤ (v : Int) := by omega
      have w1 : (v : Int) < (m : Int) := by omega
      have f0 := HX7.out.fr.cell v (by rw [vI_len, hfl]; omega)
      have f1 := HX7.out.fr.frozen v
      have HG7 := HF6.out
      obtain ⟨en, hen⟩ : ∃ en, en = (vis[i]!).2 := ⟨_, rfl⟩
      rw [← hen] at e0 HG7
      have HG7 := Lib.hid HG7
      have HX8 := Lib.hid (HX7.out.putF v en)
      clear hw7 s0 s1 d6 hen
      go_wp2
      go_roundg (n - (k + 1))
      case measure => omega
      case rel => exact ⟨k + 1, _, _, by go_num, by omega, Nat.le_refl _, by rw [List.length_set]; exact hfl, by rw [List.length_set]; exact hcl, HX8, HG7⟩
    · obtain rfl : k = n := by omega
      have u1 : ¬ (k : Int) < (k : Int) := by omega
      have hr : ch = r := by
        have := HK.out
        rw [List.drop_of_length_le (by rw [HOL2.out]; exact Nat.le_refl _)] at this
        exact Option.some.inj this
      have HR := Lib.hid (show OutFr r k W (.returned (.slice (some ⟨gc, 0, none⟩) k k)) wr from ⟨gc, rfl, by rw [← hr]; exact HX.out.ch, by have := HX.out.l1; have := HX.out.l2; omega, HX.out.bel⟩)
      clear hr
      go_wp2
      go_ret
      exact HR.out
end Go.Proofs.YtbidadkcdchomaaDoor

/- package plan: assign. (By gen_passign.py.) -/
set_option linter.unusedVariables false
set_option linter.unusedSimpArgs false
namespace Go.Proofs.YtbidadkcdchomaaDoor
open Go.RowKit

/-! ### the rows of vessels in memory -/
def rowsC (G n vl k : Nat) : Array Value := ((List.range n).map fun i => if i < k then Value.slice (some ⟨G + 1 + i, 0, none⟩) vl vl else .slice none 0 0).toArray
theorem rowsC_zero (G n vl : Nat) : rowsC G n vl 0 = (List.replicate n (Value.slice none 0 0)).toArray := by
  unfold rowsC
  congr 1
  refine List.ext_getElem (by simp) fun i h1 h2 => by simp
theorem rowsC_set (G n vl k : Nat) (hk : k < n) : (rowsC G n vl k).setIfInBounds k (.slice (some ⟨G + 1 + k, 0, none⟩) vl vl) = rowsC G n vl (k + 1) := by
  unfold rowsC
  rw [List.setIfInBounds_toArray]
  congr 1
  refine List.ext_getElem (by simp) fun i h1 h2 => ?_
  rw [List.getElem_set]
  simp only [List.getElem_map, List.getElem_range]
  by_cases h : k = i
  · subst h; simp
  · rw [if_neg h]
    by_cases h3 : i < k
    · rw [if_pos h3, if_pos (by omega)]
    · rw [if_neg h3, if_neg (by omega)]
theorem rowsC_get (G n vl k i : Nat) (hi : i < n) : (rowsC G n vl k)[i]? = some (if i < k then Value.slice (some ⟨G + 1 + i, 0, none⟩) vl vl else .slice none 0 0) := by
  unfold rowsC
  simp [hi]
structure AsS (W wr : World) (n vl k : Nat) (rows : Nat → List Nat) : Prop where
  hd : Box wr W.heap.size 22 (rowsC W.heap.size n vl k)
  row : ∀ i, i < k → Blk wr (W.heap.size + 1 + i) (vI (rows i))
  bel : Below W.heap.size W wr
section
variable {W wr w' : World} {n vl k : Nat} {rows : Nat → List Nat}
theorem AsS.keep (h : AsS W wr n vl k rows) (hb : Below wr.heap.size wr w') : AsS W w' n vl k rows := ⟨h.hd.below hb h.hd.lt, fun i hi => (h.row i hi).keep hb, h.bel.trans (hb.mono h.bel.size)⟩
theorem AsS.congr (h : AsS W wr n vl k rows) {rows' : Nat → List Nat} (he : ∀ i, i < k → rows i = rows' i) : AsS W wr n vl k rows' := ⟨h.hd, fun i hi => by rw [← he i hi]; exact h.row i hi, h.bel⟩
theorem AsS.put (h : AsS W wr n vl k rows) (i s x : Nat) : AsS W (wr.setCell ⟨W.heap.size + 1 + i, s, none⟩ (.int .i64 (x : Int))) n vl k (fun j => if j = i then (rows j).set s x else rows j) := by
  refine ⟨(Below.heap_setCell _ _ _ _ (by show W.heap.size ≠ W.heap.size + 1 + i; omega)).trans h.hd, fun j hj => ?_, h.bel.grown (grownBy_set _ _ _ _) h.bel.size (fun k e => by cases e; omega)⟩
  by_cases e : j = i
  · subst e
    rw [if_pos rfl, ← vI_set]
    exact (h.row j hj).set s _
  · rw [if_neg e]
    exact (h.row j hj).other _ (by show W.heap.size + 1 + j ≠ W.heap.size + 1 + i; omega) _
/-- one row more -/
theorem AsS.more (h : AsS W wr n vl k rows) (hk : k < n) (hz : wr.heap.size = W.heap.size + 1 + k) {w1 : World} (hB : Blk w1 wr.heap.size (vI (rows k))) (hb : Below wr.heap.size wr w1) :
    AsS W (w1.setCell ⟨W.heap.size, k, none⟩ (.slice (some ⟨wr.heap.size, 0, none⟩) vl vl)) n vl (k + 1) rows := by
  refine ⟨?_, fun j hj => ?_, (h.bel.trans (hb.mono h.bel.size)).grown (grownBy_set _ _ _ _) (Nat.le_trans h.bel.size hb.size) (fun k e => by cases e; exact Nat.le_refl _)⟩
  · rw [hz, ← rowsC_set _ _ _ _ hk]
    exact (h.hd.below hb h.hd.lt).set k _
  · rcases Nat.lt_succ_iff_lt_or_eq.1 hj with hj | rfl
    · exact ((h.row j hj).keep hb).other _ (by show W.heap.size + 1 + j ≠ W.heap.size; omega) _
    · rw [← hz]
      exact hB.other _ (by show wr.heap.size ≠ W.heap.size; omega) _
end
/-! ### the stays of all batches in a stage -/
def visA (bn : List BN) (ss : List Nat) (k i : Nat) : Nat × Nat := (ss[i]! + begN bn[i]! k, ss[i]! + begN bn[i]! (k + 1))
def visP (bn : List BN) (ss : List Nat) (n k i : Nat) : List (Nat × Nat) := (List.range n).map fun j => if j < i then visA bn ss k j else (0, 0)
def visN (bn : List BN) (ss : List Nat) (n k : Nat) : List (Nat × Nat) := (List.range n).map (visA bn ss k)
theorem visP_len (bn : List BN) (ss : List Nat) (n k i : Nat) : (visP bn ss n k i).length = n := by simp [visP]
theorem visN_len (bn : List BN) (ss : List Nat) (n k : Nat) : (visN bn ss n k).length = n := by simp [visN]
theorem visP_zero (bn : List BN) (ss : List Nat) (n k : Nat) : visP bn ss n k 0 = List.replicate n (0, 0) := by
  refine List.ext_getElem (by simp [visP]) fun i h1 h2 => by simp [visP]
theorem visP_all (bn : List BN) (ss : List Nat) (n k : Nat) : visP bn ss n k n = visN bn ss n k := by
  refine List.ext_getElem (by simp [visP, visN]) fun i h1 h2 => ?_
  have : i < n := by simpa [visP] using h1
  simp [visP, visN, this]
theorem visP_set (bn : List BN) (ss : List Nat) (n k i : Nat) (hi : i < n) : (visP bn ss n k i).set i (visA bn ss k i) = visP bn ss n k (i + 1) := by
  refine List.ext_getElem (by simp [visP]) fun j h1 h2 => ?_
  rw [List.getElem_set]
  simp only [visP, List.getElem_map, List.getElem_range]
  by_cases h : i = j
  · subst h; simp
  · rw [if_neg h]
    by_cases h3 : j < i
    · rw [if_pos h3, if_pos (by omega)]
    · rw [if_neg h3, if_neg (by omega)]
theorem flatP_set : ∀ (l : List (Nat × Nat)) (i x y : Nat), ((flatP l).set (i * 2) (x : Int)).set (i * 2 + 1) (y : Int) = flatP (l.set i (x, y))
  | [], i, x, y => by simp [flatP]
  | a :: l, 0, x, y => rfl
  | a :: l, i + 1, x, y => by
    have := flatP_set l i x y
    unfold flatP at *
    rw [List.set_cons_succ, List.flatMap_cons, List.flatMap_cons, ← this]
    show (((a.1 : Int) :: (a.2 : Int) :: _).set ((i + 1) * 2) _).set ((i + 1) * 2 + 1) _ = _
    rw [show (i + 1) * 2 = i * 2 + 1 + 1 by omega, show i * 2 + 1 + 1 + 1 = i * 2 + 1 + 1 + 1 from rfl, List.set_cons_succ, List.set_cons_succ, List.set_cons_succ, List.set_cons_succ]
    rfl
theorem flatP_rep (n : Nat) : flatP (List.replicate n (0, 0)) = List.replicate (n * 2) 0 := by
  induction n with
  | zero => rfl
  | succ n ih =>
    unfold flatP at *
    rw [List.replicate_succ, List.flatMap_cons, ih, show (n + 1) * 2 = n * 2 + 1 + 1 by omega, List.replicate_succ, List.replicate_succ]
    rfl
theorem Sty.put {w : World} {g : Nat} {l : List (Nat × Nat)} (h : Sty w g l) (i x y : Nat) : Sty ((w.setCell ⟨g, i * 2, none⟩ (.int .i64 (x : Int))).setCell ⟨g, i * 2 + 1, none⟩ (.int .i64 (y : Int))) g (l.set i (x, y)) := by
  have := (Box.set h (i * 2) (.int .i64 (x : Int))).set (i * 2 + 1) (.int .i64 (y : Int))
  rw [ics_set, ics_set, flatP_set] at this
  exact this
theorem Sty.frozen {w : World} {g : Nat} {l : List (Nat × Nat)} (h : Sty w g l) (i : Nat) : w.frozen? ⟨g, i, none⟩ = false := Box.frozen h i
theorem ix0 (z0 z1 z2 z3 z4 z5 : Int) (w : World) : (Instr.index 73 (.agg #[.int .i64 z0, .int .i64 z1, .int .i64 z2, .int .i64 z3, .int .i64 z4, .int .i64 z5]) (.int .i64 0)).run Tryd.prog w = .ok (.agg #[.int .i64 z0, .int .i64 z1]) w := by kernel_rfl
theorem ix1 (z0 z1 z2 z3 z4 z5 : Int) (w : World) : (Instr.index 73 (.agg #[.int .i64 z0, .int .i64 z1, .int .i64 z2, .int .i64 z3, .int .i64 z4, .int .i64 z5]) (.int .i64 1)).run Tryd.prog w = .ok (.agg #[.int .i64 z2, .int .i64 z3]) w := by kernel_rfl
theorem ix2 (z0 z1 z2 z3 z4 z5 : Int) (w : World) : (Instr.index 73 (.agg #[.int .i64 z0, .int .i64 z1, .int .i64 z2, .int .i64 z3, .int .i64 z4, .int .i64 z5]) (.int .i64 2)).run Tryd.prog w = .ok (.agg #[.int .i64 z4, .int .i64 z5]) w := by kernel_rfl
theorem stay_ix (s : Nat) (b : BN) (k : Nat) (hk : k < 3) (hl : k < b.tm.length) (w : World) : (Instr.index 73 (.agg (stayV (s : Int) b.tm)) (.int .i64 (k : Int))).run Tryd.prog w = .ok (.agg #[.int .i64 ((s + begN b k : Nat) : Int), .int .i64 ((s + begN b (k + 1) : Nat) : Int)]) w := by
  have e0 : stayZ (s : Int) b.tm (k * 2) = ((s + begN b k : Nat) : Int) := by
    unfold stayZ begN
    rw [show k * 2 / 2 = k by omega, show k * 2 % 2 = 0 by omega, if_pos hl]
    simp
  have e1 : stayZ (s : Int) b.tm (k * 2 + 1) = ((s + begN b (k + 1) : Nat) : Int) := by
    unfold stayZ begN
    rw [show (k * 2 + 1) / 2 = k by omega, show (k * 2 + 1) % 2 = 1 by omega, if_pos hl]
    simp
  rw [← e0, ← e1]
  have : k = 0 ∨ k = 1 ∨ k = 2 := by omega
  rcases this with rfl | rfl | rfl
  · exact ix0 _ _ _ _ _ _ w
  · exact ix1 _ _ _ _ _ _ w
  · exact ix2 _ _ _ _ _ _ w
/-- the vessels of a stage -/
def stageN (vn : List Nat) (bn : List BN) (ss : List Nat) (n k : Nat) : Option (List Nat) := ffN (visN bn ss n k) (sortR (begK (visN bn ss n k)) n) (List.replicate vn[k]! 0) (List.replicate n 0)
/-- a row whose first k stages are filled, and the next one too for the batches below i -/
def rowG (col : Nat → List Nat) (vl k i j : Nat) : List Nat := (List.range vl).map fun s => if s < k ∨ (s = k ∧ j < i) then (col s)[j]! else 0
theorem rowG_len (col : Nat → List Nat) (vl k i j : Nat) : (rowG col vl k i j).length = vl := by simp [rowG]
theorem rowG_zero (col : Nat → List Nat) (vl i : Nat) : rowG col vl 0 0 i = List.replicate vl 0 := by
  refine List.ext_getElem (by simp [rowG]) fun i h1 h2 => by simp [rowG]
theorem rowG_next (col : Nat → List Nat) (vl k n j : Nat) (hj : j < n) : rowG col vl k n j = rowG col vl (k + 1) 0 j := by
  unfold rowG
  refine List.map_congr_left fun s _ => ?_
  by_cases h : s < k + 1
  · rw [if_pos (by omega), if_pos (by omega)]
  · rw [if_neg (by omega), if_neg (by omega)]
theorem rowG_put (col : Nat → List Nat) (vl k i j : Nat) (hk : k < vl) : (if j = i then (rowG col vl k i j).set k ((col k)[i]!) else rowG col vl k i j) = rowG col vl k (i + 1) j := by
  by_cases e : j = i
  · subst e
    rw [if_pos rfl]
    refine List.ext_getElem (by simp [rowG]) fun s h1 h2 => ?_
    rw [List.getElem_set]
    simp only [rowG, List.getElem_map, List.getElem_range]
    by_cases h : k = s
    · subst h
      rw [if_pos rfl, if_pos (by omega)]
    · rw [if_neg h]
      by_cases h3 : s < k
      · rw [if_pos (by omega), if_pos (by omega)]
      · rw [if_neg (by omega), if_neg (by omega)]
  · rw [if_neg e]
    unfold rowG
    refine List.map_congr_left fun s _ => ?_
    by_cases h : s < k ∨ (s = k ∧ j < i)
    · rw [if_pos h, if_pos (by omega)]
    · rw [if_neg h, if_neg (by omega)]
/-- the rows that assign returns -/
def OutAs (col : Nat → List Nat) (n vl : Nat) (W : World) (e : Ending) (w' : World) : Prop := e = .returned (.slice (some ⟨W.heap.size, 0, none⟩) n n) ∧ AsS W w' n vl n (rowG col vl vl 0)

set_option maxRecDepth 100000 in
set_option maxHeartbeats 16000000 in
theorem assign_any (va : Option Addr) (vl vc : Nat) (ba : Option Addr) (bl bc : Nat) (sa : Option Addr) (sc : Nat) (vn ss : List Nat) (bn : List BN) (col : Nat → List Nat) (W : World) (hv : Il W va vl (vI vn)) (hb : Bats W ba bl (bn.map bI)) (hT : TaskN vn bn) (hs : Il W sa bl (vI ss)) (hss : ∀ i, i < bl → ss[i]! ≤ 30)
    (hcol : ∀ k, k < vl → stageN vn bn ss bl k = some (col k)) :
    Calls Tryd.prog 29 #[.slice va vl vc, .slice ba bl bc, .slice sa bl sc] W (OutAs col bl vl W) := by
  have hlb : bn.length = bl := by have := hb.1; simpa using this
  have hlv : vn.length = vl := by have := hv.len; rwa [vI_len] at this
  have hls : ss.length = bl := by have := hs.len; rwa [vI_len] at this
  have hv3 : vl ≤ 3 := by have := hT.house.few; omega
  have hb5 : bl ≤ 5 := by have := hT.few; omega
  have HLB := Lib.hid hlb
  have HLV := Lib.hid hlv
  have HLS := Lib.hid hls
  have HVV := Lib.hid hv
  have HBB := Lib.hid hb
  have HTT := Lib.hid hT
  have HSS := Lib.hid hs
  have HS3 := Lib.hid hss
  have HCO := Lib.hid hcol
  clear hv hb hT hs hss hcol hlb hlv hls
  go_enter Tryd.func29, Tryd.ntmps29
  go_wp2_with (at_make; refine wpList_mkG rfl _ 26 22 rfl (.slice none 0 0) 1 24 Tryd.underlying26 (by kernel_rfl) _ bl rfl rfl (by omega) (by omega) ?_; intro w1 hB1 hb1 hz1; have K1 := Lib.hid hB1; have B1 := Lib.hid hb1; have Z1 := Lib.hid hz1; clear hB1 hb1 hz1)
  have HX1 : Hid (AsS W w1 bl vl 0 (rowG col vl 0 0)) := Lib.hid ⟨by
      have e : madeCells (Value.slice none 0 0).cells (bl * 1) = rowsC W.heap.size bl vl 0 := by
        rw [rowsC_zero, Nat.mul_one]
        exact Array.toList_inj.1 (toList_madeCells_one _ _)
      rw [← e]
      exact K1.out, fun i hi => absurd hi (Nat.not_lt_zero _), B1.out⟩
  go_loopg [21] bl (fun gg s21 wr => ∃ k : Nat, s21 = .int .i64 (k : Int) ∧ k ≤ bl ∧ bl - k ≤ gg ∧ Hid (AsS W wr bl vl k (rowG col vl 0 0)) ∧ Hid (wr.heap.size = W.heap.size + 1 + k))
  case atStart => exact ⟨0, rfl, Nat.zero_le _, by omega, HX1, Z1⟩
  case round =>
    obtain ⟨k, rfl, hk, hgg, HX, HZ⟩ := hrel
    by_cases h1 : k < bl
    · have u0 : (0 : Int) ≤ (k : Int) := by omega
      have u1 : (k : Int) < (bl : Int) := by omega
      go_wp2_with (at_make; refine wpList_mk rfl _ 22 rfl Tryd.underlying22 (by kernel_rfl) _ vl rfl rfl (by omega) ?_; intro w3 hB3 hb3 hz3; have s0 := ((HX.out.keep hb3).hd.cell k).trans (rowsC_get _ _ _ _ _ h1); have s1 := (HX.out.keep hb3).hd.frozen k; rw [if_neg (Nat.lt_irrefl _)] at s0; have K3 := Lib.hid hB3; have B3 := Lib.hid hb3; have Z3 := Lib.hid hz3; clear hB3 hb3 hz3)
      go_roundg (bl - (k + 1))
      case measure => omega
      case rel => exact ⟨k + 1, by go_num, by omega, Nat.le_refl _, Lib.hid (HX.out.more h1 HZ.out (by rw [rowG_zero, ← vI_rep]; exact K3.out) B3.out), Lib.hid (by show (w3.setCell _ _).heap.size = _; rw [show (w3.setCell ⟨W.heap.size, k, none⟩ (.slice (some ⟨wr.heap.size, 0, none⟩) vl vl)).heap.size = w3.heap.size by simp [World.setCell], Z3.out, HZ.out]; omega)⟩
    · obtain rfl : k = bl := by omega
      have u1 : ¬ (k : Int) < (k : Int) := by omega
      go_wp2
      go_loopg [33] vl (fun gg s33 wq => ∃ t : Nat, s33 = .int .i64 (t : Int) ∧ t ≤ vl ∧ vl - t ≤ gg ∧ Hid (AsS W wq k vl k (rowG col vl t 0)))
      case atStart => exact ⟨0, rfl, Nat.zero_le _, by omega, HX⟩
      case round =>
        obtain ⟨t, rfl, ht, hgg2, HXq⟩ := hrel
        by_cases h2 : t < vl
        · have hvt : t < vn.length := by rw [HLV.out]; exact h2
          have x0 : (0 : Int) ≤ (t : Int) := by omega
          have x1 : (t : Int) < (vl : Int) := by omega
          obtain ⟨bv, ov, rfl, hcv⟩ := (HVV.out.keep HXq.out.bel).at (by omega)
          have cv := hcv t h2
          rw [vI_get] at cv
          have hm8 : vn[t]! ≤ 8 := (HTT.out.house.one t hvt).2
          obtain ⟨m, hm⟩ : ∃ m, m = vn[t]! := ⟨_, rfl⟩
          rw [← hm] at cv hm8
          have HM := Lib.hid hm
          have HFF : Hid (ffN (visN bn ss k t) (sortR (begK (visN bn ss k t)) k) (List.replicate m 0) (List.replicate k 0) = some (col t)) := Lib.hid (by have := HCO.out t h2; unfold stageN at this; rw [HM.out]; exact this)
          clear hcv hm
          go_wp2_with (at_make; refine wpList_mkG rfl _ 78 72 rfl (.agg #[.int .i64 0, .int .i64 0]) 2 16 Tryd.underlying78 (by kernel_rfl) _ k rfl rfl (by omega) (by omega) ?_; intro w4 hB4 hb4 hz4; have K4 := Lib.hid hB4; have B4 := Lib.hid hb4; have Z4 := Lib.hid hz4; clear hB4 hb4 hz4)
          obtain ⟨gv, hgv⟩ : ∃ g, g = wr.heap.size := ⟨_, rfl⟩
          have HSt : Hid (Sty w4 gv (visP bn ss k t 0)) := Lib.hid (by
            have e : madeCells (Value.agg #[.int .i64 0, .int .i64 0]).cells (k * 2) = ics (flatP (visP bn ss k t 0)) := by
              rw [visP_zero, flatP_rep]
              exact made_ints _ (fun i hi => by
                have : i = 0 ∨ i = 1 := by
                  have : i < 2 := hi
                  omega
                rcases this with rfl | rfl <;> rfl) (by decide) _
            show Box _ _ _ _
            rw [← e, hgv]
            exact K4.out)
          have HGV := Lib.hid hgv
          rw [← hgv]
          clear hgv cv
          obtain ⟨wo, hwo⟩ : ∃ w, w = wr := ⟨_, rfl⟩
          have HWO := Lib.hid hwo
          have HXo : Hid (AsS W wo k vl k (rowG col vl t 0)) := Lib.hid (by rw [HWO.out]; exact HXq.out)
          have HB4 : Hid (Below wo.heap.size wo w4) := Lib.hid (by rw [HWO.out]; exact B4.out)
          have HGW : Hid (gv = wo.heap.size) := Lib.hid (by rw [HWO.out]; exact HGV.out)
          clear hwo HWO
          go_loopg [43] k (fun gg s43 wz => ∃ i : Nat, s43 = .int .i64 (i : Int) ∧ i ≤ k ∧ k - i ≤ gg ∧ Hid (Sty wz gv (visP bn ss k t i)) ∧ Hid (Below wo.heap.size wo wz))
          case atStart => exact ⟨0, rfl, Nat.zero_le _, by omega, HSt, HB4⟩
          case round =>
            obtain ⟨i, rfl, hi, hgg3, HSi, HWi⟩ := hrel
            by_cases h3 : i < k
            · have y0 : (0 : Int) ≤ (i : Int) := by omega
              have y1 : (i : Int) < (k : Int) := by omega
              have hib : i < bn.length := by rw [HLB.out]; exact h3
              have HXw := Lib.hid (HXo.out.keep HWi.out)
              obtain ⟨gB, ob, ta, tl, tc, hgB, hx⟩ := (HBB.out.keep HXw.out.bel).at h3
              rw [bI_at hib] at hx
              obtain ⟨b, hbe⟩ : ∃ b, b = bn[i]! := ⟨_, rfl⟩
              rw [← hbe] at hx
              have c0 : wr.cell? ⟨gB, ob + i * 2, none⟩ = some (.int .i64 (b.rdy : Int)) := hx.c0
              have c1 := hx.c1
              have hlt : b.tm.length = vn.length := by rw [hbe]; exact HTT.out.len i hib
              have hl3 : b.tm.length ≤ 3 := by have := HTT.out.house.few; omega
              have HMt : Hid (∀ q, q < b.tm.length → b.tm[q]! ≤ 30) := Lib.hid (fun q hq => by rw [hbe] at hq ⊢; exact (HTT.out.tm i hib q (by rw [← HTT.out.len i hib]; exact hq)).2)
              have hdur : durN b ≤ 90 := by rw [hbe]; exact HTT.out.dur hib
              have HBE := Lib.hid hbe
              have hs30 := HS3.out i h3
              obtain ⟨gs, os, rfl, hcs⟩ := (HSS.out.keep HXw.out.bel).at (by omega)
              have cs := hcs i h3
              rw [vI_get] at cs
              obtain ⟨s, hse⟩ : ∃ s, s = ss[i]! := ⟨_, rfl⟩
              rw [← hse] at cs hs30
              have HSE := Lib.hid hse
              have HIX : Hid (∀ w, (Instr.index 73 (.agg (stayV (s : Int) b.tm)) (.int .i64 (t : Int))).run Tryd.prog w = .ok (.agg #[.int .i64 ((s + begN b t : Nat) : Int), .int .i64 ((s + begN b (t + 1) : Nat) : Int)]) w) := Lib.hid (stay_ix s b t (by omega) (by rw [hlt]; exact hvt))
              obtain ⟨wx, hwx⟩ : ∃ wx, wx = wr.alloc (.cells #[.int .i64 (b.rdy : Int), .slice ta tl tc] 43) := ⟨_, rfl⟩
              have HBx : Hid (Below wr.heap.size wr wx) := Lib.hid (by rw [hwx]; exact box_below wr _)
              have RX : Hid (wx.heap[wr.heap.size]? = some (.cells #[.int .i64 (b.rdy : Int), .slice ta tl tc] 43 (0, 0))) := Lib.hid (by rw [hwx]; exact new_row wr _)
              have HWX := Lib.hid hwx
              have IL := Lib.hid (hx.il.keep HBx.out)
              have PST := Lib.hid (stays_any (b.rdy : Int) (s : Int) ta tl tc b.tm wx.drew IL.out.drew HMt.out hl3 (by omega) (by have : b.tm.sum = durN b := rfl; omega))
              have HSx := Lib.hid (HSi.out.keep HBx.out)
              subst hgB
              clear hwx hx hbe hlt hse hcs
              go_upto_region 14 with fail
              rw [← HWX.out]
              have cs := cell_later HBx.out cs
              clear c0 c1
              have pb0 := cell_row RX.out 0
              have pb1 := cell_row RX.out 1
              simp only [List.getElem?_toArray, List.getElem?_cons_zero, List.getElem?_cons_succ] at pb0 pb1
              have v0 := HSx.out.fst (i := i) (by rw [visP_len]; exact h3)
              have v1 := HSx.out.snd (i := i) (by rw [visP_len]; exact h3)
              generalize ((visP bn ss k t i)[i]!).1 = a0 at v0
              generalize ((visP bn ss k t i)[i]!).2 = a1 at v1
              have f0 := HSx.out.frozen (i * 2)
              have f1 := HSx.out.frozen (i * 2 + 1)
              have ix := HIX.out
              refine wp_region_late (S := fun w' => w'.cell? ⟨wr.heap.size, 0, none⟩ = some (.int .i64 (b.rdy : Int)) ∧ w'.cell? ⟨wr.heap.size, 1, none⟩ = some (.slice ta tl tc) ∧ w'.cell? ⟨gs, os + i, none⟩ = some (.int .i64 (s : Int)) ∧ w'.cell? ⟨gv, i * 2, none⟩ = some (.int .i64 (a0 : Int)) ∧ w'.cell? ⟨gv, i * 2 + 1, none⟩ = some (.int .i64 (a1 : Int)) ∧ w'.frozen? ⟨gv, i * 2, none⟩ = false ∧ w'.frozen? ⟨gv, i * 2 + 1, none⟩ = false) 11 (by kernel_rfl) ⟨pb0, pb1, cs, v0, v1, f0, f1⟩ (fun hS => ?_)
              refine wpAnyT_take (i := 0) (v := ?vs0) rfl (by kernel_rfl) (by kernel_rfl) (by kernel_rfl) (by kernel_rfl) (fun _ _ _ h => h) (Or.inl ⟨by rfl, ?hys0⟩) hS ?rests0
              case hys0 => (intro w hSw; (try dsimp only at hSw); (first | (go_simp; done) | (go_simp; with_reducible rfl)))
              try simp only [Act.put, List.getElem_toArray, List.getElem_cons_succ, List.getElem_cons_zero, List.setIfInBounds_toArray, List.set_cons_zero, List.set_cons_succ]
              refine wpAnyT_take (i := 1) (v := ?vs1) rfl (by kernel_rfl) (by kernel_rfl) (by kernel_rfl) (by kernel_rfl) (fun _ _ _ h => h) (Or.inl ⟨by rfl, ?hys1⟩) hS ?rests1
              case hys1 => (intro w hSw; (try dsimp only at hSw); (first | (go_simp; done) | (go_simp; with_reducible rfl)))
              try simp only [Act.put, List.getElem_toArray, List.getElem_cons_succ, List.getElem_cons_zero, List.setIfInBounds_toArray, List.set_cons_zero, List.set_cons_succ]
              refine wpAnyT_take (i := 2) (v := ?vs2) rfl (by kernel_rfl) (by kernel_rfl) (by kernel_rfl) (by kernel_rfl) (fun _ _ _ h => h) (Or.inl ⟨by rfl, ?hys2⟩) hS ?rests2
              case hys2 => (intro w hSw; (try dsimp only at hSw); (first | (go_simp; done) | (go_simp; with_reducible rfl)))
              try simp only [Act.put, List.getElem_toArray, List.getElem_cons_succ, List.getElem_cons_zero, List.setIfInBounds_toArray, List.set_cons_zero, List.set_cons_succ]
              refine wpAnyT_take (i := 3) (v := ?vs3) rfl (by kernel_rfl) (by kernel_rfl) (by kernel_rfl) (by kernel_rfl) (fun _ _ _ h => h) (Or.inl ⟨by rfl, ?hys3⟩) hS ?rests3
              case hys3 => (intro w hSw; (try dsimp only at hSw); (first | (go_simp; done) | (go_simp; with_reducible rfl)))
              try simp only [Act.put, List.getElem_toArray, List.getElem_cons_succ, List.getElem_cons_zero, List.setIfInBounds_toArray, List.set_cons_zero, List.set_cons_succ]
              refine wpAnyT_take (i := 4) (v := ?vs4) rfl (by kernel_rfl) (by kernel_rfl) (by kernel_rfl) (by kernel_rfl) (fun _ _ _ h => h) (Or.inl ⟨by rfl, ?hys4⟩) hS ?rests4
              case hys4 => (intro w hSw; (try dsimp only at hSw); (first | (go_simp; done) | (go_simp; with_reducible rfl)))
              try simp only [Act.put, List.getElem_toArray, List.getElem_cons_succ, List.getElem_cons_zero, List.setIfInBounds_toArray, List.set_cons_zero, List.set_cons_succ]
              refine wpAnyT_take (i := 5) (v := ?vs5) rfl (by kernel_rfl) (by kernel_rfl) (by kernel_rfl) (by kernel_rfl) (fun _ _ _ h => h) (Or.inl ⟨by rfl, ?hys5⟩) hS ?rests5
              case hys5 => (intro w hSw; (try dsimp only at hSw); (first | (go_simp; done) | (go_simp; with_reducible rfl)))
              try simp only [Act.put, List.getElem_toArray, List.getElem_cons_succ, List.getElem_cons_zero, List.setIfInBounds_toArray, List.set_cons_zero, List.set_cons_succ]
              refine wpAnyT_take (i := 6) (v := ?vs6) rfl (by kernel_rfl) (by kernel_rfl) (by kernel_rfl) (by kernel_rfl) (fun _ _ _ h => h) (Or.inl ⟨by rfl, ?hys6⟩) hS ?rests6
              case hys6 => (intro w hSw; (try dsimp only at hSw); (first | (go_simp; done) | (go_simp; with_reducible rfl)))
              try simp only [Act.put, List.getElem_toArray, List.getElem_cons_succ, List.getElem_cons_zero, List.setIfInBounds_toArray, List.set_cons_zero, List.set_cons_succ]
              refine wpAnyT_take (i := 8) (v := ?vs8) rfl (by kernel_rfl) (by kernel_rfl) (by kernel_rfl) (by kernel_rfl) (fun _ _ _ h => h) (Or.inl ⟨by rfl, ?hys8⟩) hS ?rests8
              case hys8 => (intro w hSw; (try dsimp only at hSw); (first | (go_simp; done) | (go_simp; with_reducible rfl)))
              try simp only [Act.put, List.getElem_toArray, List.getElem_cons_succ, List.getElem_cons_zero, List.setIfInBounds_toArray, List.set_cons_zero, List.set_cons_succ]
              refine wpAnyT_step 7 rfl (by kernel_rfl) (by decide) (fun K hK => ?_)
              try go_simp
              go_at_call 37
              refine PST.out.mono ?_
              rintro e w7 ⟨rfl, hb7⟩
              have B7 := Lib.hid ((drew_below wx).trans hb7)
              clear hb7
              refine hK.out _ _ ⟨cell_later B7.out pb0, cell_later B7.out pb1, cell_later B7.out cs, cell_later B7.out v0, cell_later B7.out v1, (B7.out.frozen (block_lt_of_cell v0)).trans f0, (B7.out.frozen (block_lt_of_cell v1)).trans f1⟩ (fun hS => ?_)
              clear hK K
              try simp only [Act.put, List.setIfInBounds_toArray, List.set_cons_zero, List.set_cons_succ]
              refine wpAnyT_step 9 rfl (by kernel_rfl) (by decide) (fun K hK => ?_)
              try go_simp
              refine hK.out _ _ hS (fun hS => ?_)
              clear hK K
              try simp only [Act.put, List.setIfInBounds_toArray, List.set_cons_zero, List.set_cons_succ]
              refine wpAnyT_step 10 rfl (by kernel_rfl) (by decide) (fun K hK => ?_)
              try go_simp
              refine hK.out _ _ hS (fun hS => ?_)
              clear hK K
              try simp only [Act.put, List.setIfInBounds_toArray, List.set_cons_zero, List.set_cons_succ]
              refine wpAnyT_last rfl (by kernel_rfl) (by kernel_rfl) (fun K hK => ?_)
              go_simp
              refine hK.out _ _ ?_
              clear hK K
              have HSt1 : Hid (Sty ((w7.setCell ⟨gv, i * 2, none⟩ (.int .i64 ((s + begN b t : Nat) : Int))).setCell ⟨gv, i * 2 + 1, none⟩ (.int .i64 ((s + begN b (t + 1) : Nat) : Int))) gv (visP bn ss k t (i + 1))) := Lib.hid (by
                rw [← visP_set bn ss k t i h3]
                have e : visA bn ss t i = (s + begN b t, s + begN b (t + 1)) := by rw [HSE.out, HBE.out]; rfl
                rw [e]
                exact (HSx.out.keep B7.out).put i _ _)
              have HWt : Hid (Below wo.heap.size wo ((w7.setCell ⟨gv, i * 2, none⟩ (.int .i64 ((s + begN b t : Nat) : Int))).setCell ⟨gv, i * 2 + 1, none⟩ (.int .i64 ((s + begN b (t + 1) : Nat) : Int)))) := Lib.hid (by
                have hz := HWi.out.size
                have hz2 := HBx.out.size
                have hz3 := B7.out.size
                have h7 := (HWi.out.trans ((below_then HBx.out B7.out).mono HWi.out.size))
                exact (h7.grown (grownBy_trans (grownBy_set w7 gv (i * 2) _) (grownBy_set _ gv (i * 2 + 1) _)) (by omega) (fun q e => by cases e; rw [HGW.out]; exact Nat.le_refl _)))
              go_wp2
              go_roundg (k - (i + 1))
              case measure => omega
              case rel => exact ⟨i + 1, by go_num, by omega, Nat.le_refl _, HSt1, HWt⟩
            · obtain rfl : i = k := by omega
              have y1 : ¬ (i : Int) < (i : Int) := by omega
              have HSn : Hid (Sty wr gv (visN bn ss i t)) := Lib.hid (by rw [← visP_all]; exact HSi.out)
              have PFF := Lib.hid (free_any gv i i m (visN bn ss i t) (col t) wr HSn.out (visN_len _ _ _ _) hb5 hm8 HFF.out)
              have hcl : (col t).length = i := by have := ffN_len _ _ _ _ _ HFF.out; rwa [List.length_replicate] at this
              have HCL := Lib.hid hcl
              clear hcl
              go_wp2_with (go_at_call 41; refine PFF.out.mono ?_; rintro e w8 ⟨gr, rfl, hB8, hg8, hb8⟩; have K8 := Lib.hid hB8; have G8 := Lib.hid hg8; have B8 := Lib.hid hb8; clear hB8 hg8 hb8)
              have HX8 := Lib.hid ((HXo.out.keep HWi.out).keep B8.out)
              have HG8 : Hid (∀ j, j < i → gr ≠ W.heap.size + 1 + j) := Lib.hid (fun j hj e => by
                have := ((HXo.out.keep HWi.out).row j hj).lt
                have := G8.out
                omega)
              go_loopg [64] i (fun gg s64 wz => ∃ j : Nat, s64 = .int .i64 (j : Int) ∧ j ≤ i ∧ i - j ≤ gg ∧ Hid (AsS W wz i vl i (rowG col vl t j)) ∧ Hid (Blk wz gr (vI (col t))))
              case atStart => exact ⟨0, rfl, Nat.zero_le _, by omega, HX8, K8⟩
              case round =>
                obtain ⟨j, rfl, hj, hgg4, HXj, HKj⟩ := hrel
                by_cases h4 : j < i
                · have z0 : (0 : Int) ≤ (j : Int) := by omega
                  have z1 : (j : Int) < (i : Int) := by omega
                  have d0 := HKj.out.cell j (by rw [vI_len, HCL.out]; exact h4)
                  rw [vI_get] at d0
                  have d1 := (HXj.out.hd.cell j).trans (rowsC_get _ _ _ _ _ h4)
                  rw [if_pos h4] at d1
                  have d2 := (HXj.out.row j h4).cell t (by rw [vI_len, rowG_len]; exact h2)
                  have d3 := (HXj.out.row j h4).frozen t
                  obtain ⟨x, hx⟩ : ∃ x, x = (col t)[j]! := ⟨_, rfl⟩
                  rw [← hx] at d0
                  have HXn : Hid (AsS W (wr.setCell ⟨W.heap.size + 1 + j, t, none⟩ (.int .i64 (x : Int))) i vl i (rowG col vl t (j + 1))) := Lib.hid ((HXj.out.put j t x).congr (fun q _ => by rw [hx]; exact rowG_put col vl t j q h2))
                  have HKn : Hid (Blk (wr.setCell ⟨W.heap.size + 1 + j, t, none⟩ (.int .i64 (x : Int))) gr (vI (col t))) := Lib.hid (HKj.out.other _ (HG8.out j h4) _)
                  clear hx
                  go_wp2
                  go_roundg (i - (j + 1))
                  case measure => omega
                  case rel => exact ⟨j + 1, by go_num, by omega, Nat.le_refl _, HXn, HKn⟩
                · obtain rfl : j = i := by omega
                  have z1 : ¬ (j : Int) < (j : Int) := by omega
                  have HXe : Hid (AsS W wr j vl j (rowG col vl (t + 1) 0)) := Lib.hid (HXj.out.congr (fun q hq => rowG_next col vl t j q hq))
                  go_wp2
                  go_roundg (vl - (t + 1))
                  case measure => omega
                  case rel => exact ⟨t + 1, by go_num, by omega, Nat.le_refl _, HXe⟩
        · obtain rfl : t = vl := by omega
          have u2 : ¬ (t : Int) < (t : Int) := by omega
          have HR := Lib.hid (show OutAs col k t W (.returned (.slice (some ⟨W.heap.size, 0, none⟩) k k)) wr from ⟨rfl, HXq.out⟩)
          go_wp2
          go_ret
          exact HR.out
end Go.Proofs.YtbidadkcdchomaaDoor
