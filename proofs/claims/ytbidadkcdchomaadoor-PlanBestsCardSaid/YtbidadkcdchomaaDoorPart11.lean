/- Part 11 of the contracts: PBest, RSame, RTask, RMeet. -/
import Derived.BigQuiet
import Derived.Deep.RegionHeld3
import Derived.OrdersHeld
import Derived.Test.YtbidadkcdchomaaDoorPart10

/- package plan: Best. -/
set_option linter.unusedVariables false
set_option linter.unusedSimpArgs false
namespace Go.Proofs.YtbidadkcdchomaaDoor
open Go.RowKit

theorem results_row_tmp {P : Program} {fn : Func} {p r : Tmp} {ty : TypeId} (h : fn.results = #[.cell p ty, .tmp r]) (tmps : Array Value) (w : World) (g : Nat) (t : TypeId) (cs : Array Value) (fr : Nat × Nat) (d : TypeDesc)
    (hp : tmps.getD p undef = .pointer (some ⟨g, 0, none⟩)) (hg : w.heap[g]? = some (.cells cs t fr))
    (hu : P.underlying ty = some d) (hd : (match d with | .struct _ | .array _ _ => true | _ => false) = true) (hi : (P.info? ty).map (·.size) = some cs.size) :
    (results fn tmps).run P w = .ok (.tuple #[.agg cs, tmps.getD r undef]) w := by
  have hp' : tmps[p]?.getD undef = .pointer (some ⟨g, 0, none⟩) := by simpa using hp
  simp [results, h, hp', asAddr, run_loadVar_row w g t ty cs fr d hg hu hd hi, Result.andThen]
theorem set_three {w : World} {T : Nat} {a0 a1 a2 x0 x1 x2 : Value} {ty : TypeId} (h : w.heap[T]? = some (.cells #[a0, a1, a2] ty (0, 0))) :
    (((w.setCell ⟨T, 0, none⟩ x0).setCell ⟨T, 1, none⟩ x1).setCell ⟨T, 2, none⟩ x2).heap[T]? = some (.cells #[x0, x1, x2] ty (0, 0)) := by
  simp only [World.setCell, Array.getElem?_modify]
  rw [h]
  simp
theorem below_set3 {B : Nat} {W w : World} {T : Nat} (x0 x1 x2 : Value) (hb : Below B W w) (hT : B ≤ T) : Below B W (((w.setCell ⟨T, 0, none⟩ x0).setCell ⟨T, 1, none⟩ x1).setCell ⟨T, 2, none⟩ x2) :=
  ((hb.setCell (p := ⟨T, 0, none⟩) hT _).setCell (p := ⟨T, 1, none⟩) hT _).setCell (p := ⟨T, 2, none⟩) hT _
theorem cells3 {w : World} {T : Nat} {a0 a1 a2 : Value} {ty : TypeId} (h : w.heap[T]? = some (.cells #[a0, a1, a2] ty (0, 0))) : w.cell? ⟨T, 0, none⟩ = some a0 ∧ w.cell? ⟨T, 1, none⟩ = some a1 ∧ w.cell? ⟨T, 2, none⟩ = some a2 := by
  refine ⟨?_, ?_, ?_⟩ <;> (simp only [World.cell?]; rw [h]; rfl)

/-- the rows of the best schedule -/
def rowsB (col : Nat → List Nat) (n vl : Nat) : List (List Int) := (List.range n).map fun i => vI (rowG col vl vl 0 i)
theorem AsS.rows2 {W w : World} {n vl : Nat} {col : Nat → List Nat} (h : AsS W w n vl n (rowG col vl vl 0)) (hvl : vl ≤ 1000) : Rows2 w (some ⟨W.heap.size, 0, none⟩) n (rowsB col n vl) := by
  refine ⟨by simp [rowsB], W.heap.size, 0, fun _ => rfl, fun i hi => ⟨some ⟨W.heap.size + 1 + i, 0, none⟩, vl, vl, ?_, ?_, by omega⟩⟩
  · have := (h.hd.cell i).trans (rowsC_get W.heap.size n vl n i hi)
    rw [if_pos hi] at this
    rw [Nat.zero_add]
    exact this
  · have e : (rowsB col n vl)[i]! = vI (rowG col vl vl 0 i) := by
      rw [getElem!_pos _ i (by simpa [rowsB] using hi)]
      simp [rowsB]
    rw [e]
    exact (h.row i hi).il (by rw [vI_len, rowG_len])
theorem AsS.rows2_far {W w w' : World} {n vl g : Nat} {col : Nat → List Nat} (h : AsS W w n vl n (rowG col vl vl 0)) (hvl : vl ≤ 1000) (hg : w.grownBy w' (some g)) (hlt : g < W.heap.size) : Rows2 w' (some ⟨W.heap.size, 0, none⟩) n (rowsB col n vl) := by
  refine ⟨by simp [rowsB], W.heap.size, 0, fun _ => rfl, fun i hi => ⟨some ⟨W.heap.size + 1 + i, 0, none⟩, vl, vl, ?_, ?_, by omega⟩⟩
  · have := (h.hd.cell i).trans (rowsC_get W.heap.size n vl n i hi)
    rw [if_pos hi] at this
    rw [Nat.zero_add]
    exact hg.cell this (by show some W.heap.size ≠ some g; simp; omega)
  · have e : (rowsB col n vl)[i]! = vI (rowG col vl vl 0 i) := by
      rw [getElem!_pos _ i (by simpa [rowsB] using hi)]
      simp [rowsB]
    rw [e]
    exact ((h.row i hi).grown hg (by simp; omega)).il (by rw [vI_len, rowG_len])
/-- the best schedule -/
structure BestN (vn : List Nat) (bn : List BN) (bl en : Nat) (ss : List Nat) (col : Nat → List Nat) : Prop where
  le : en ≤ 30
  no : ∀ j, j < en → startsN vn bn j (osN bn bl) = none
  yes : startsN vn bn en (osN bn bl) ≠ none
  st : startsN vn bn en (List.range bl) = some ss
  s30 : ∀ i, i < bl → ss[i]! ≤ 30
  col : ∀ k, k < vn.length → stageN vn bn ss bl k = some (col k)
def NoneN (vn : List Nat) (bn : List BN) (bl : Nat) : Prop := ∀ j, j ≤ 30 → startsN vn bn j (osN bn bl) = none
/-- where there is an end, there is a best schedule -/
def HasBest (vn : List Nat) (bn : List BN) (bl : Nat) : Prop := ∀ en, en ≤ 30 → (∀ j, j < en → startsN vn bn j (osN bn bl) = none) → startsN vn bn en (osN bn bl) ≠ none → ∃ ss col, BestN vn bn bl en ss col
def OutB (vs : List Int) (bs : List Bt) (bl : Nat) (W : World) (e : Ending) (w' : World) : Prop :=
  Below W.heap.size W w' ∧ ((¬ TaskP vs bs ∧ e = .returned (.tuple #[.agg #[.int .i64 0, .slice none 0 0, .slice none 0 0], .int .i64 2])) ∨
    (TaskP vs bs ∧ ∃ vn bn, vs = vI vn ∧ bs = bn.map bI ∧ TaskN vn bn ∧ ((NoneN vn bn bl ∧ e = .returned (.tuple #[.agg #[.int .i64 0, .slice none 0 0, .slice none 0 0], .int .i64 40])) ∨
      ∃ en ss col sa sc ya, BestN vn bn bl en ss col ∧ e = .returned (.tuple #[.agg #[.int .i64 ((en : Nat) : Int), .slice sa bl sc, .slice ya bl bl], .int .i64 0]) ∧ Il w' sa bl (vI ss) ∧ Rows2 w' ya bl (rowsB col bl vn.length))))

theorem range_at (n q : Nat) (h : q < n) : (List.range n)[q]! = q := by
  rw [getElem!_pos _ q (by simpa using h), List.getElem_range]
theorem starts_il {w : World} {g bl : Nat} {y0 y1 y2 y3 y4 : Int} {ss : List Nat} {ty : TypeId} (R : w.heap[g]? = some (.cells #[.int .i64 y0, .int .i64 y1, .int .i64 y2, .int .i64 y3, .int .i64 y4] ty (0, 0))) (h : SetAt (List.range bl) ss [y0, y1, y2, y3, y4]) (hl : ss.length = bl) (h5 : bl ≤ 5) : Il w (some ⟨g, 0, none⟩) bl (vI ss) := by
  refine ⟨by rw [vI_len, hl], g, 0, fun _ => rfl, fun i hi => ?_⟩
  have h1 := h i (by omega)
  rw [range_at bl i hi] at h1
  rw [Nat.zero_add, cell_row R, vI_get, ← h1]
  have : i = 0 ∨ i = 1 ∨ i = 2 ∨ i = 3 ∨ i = 4 := by omega
  rcases this with rfl | rfl | rfl | rfl | rfl <;> rfl
theorem clone_st (g o n c : Nat) (ss : List Nat) (W : World) (h : Il W (some ⟨g, o, none⟩) n (vI ss)) (hn : n ≤ 1000) :
    Calls Tryd.prog 28 #[.slice (some ⟨g, o, none⟩) n c] W fun e w' => ∃ ao cap, e = .returned (.slice ao n cap) ∧ Il w' ao n (vI ss) ∧ Below W.heap.size W w' ∧ ∀ a, ao = some a → W.heap.size ≤ a.block := by
  have hl := h.len
  refine (cloneI_any g o n c (vI ss) W h hn).mono ?_
  rintro e w' ⟨ao, cap, he, hi, hb, hf⟩
  rw [hl] at he hi
  exact ⟨ao, cap, he, hi, hb, hf⟩
theorem startsN_len {vn : List Nat} {bn : List BN} {en : Nat} {os ss : List Nat} (h : startsN vn bn en os = some ss) : ss.length = os.length := placeN_len _ _ _ _ _ h

set_option maxRecDepth 100000 in
set_option maxHeartbeats 8000000 in
theorem best_any (vs : List Int) (bs : List Bt) (va : Option Addr) (vl vc : Nat) (ba : Option Addr) (bl bc : Nat) (W : World)
    (hv : Il W va vl vs) (hb : Bats W ba bl bs) (hN : NowM W) (hvl : vl ≤ 9223372036854775807) (hbl : bl ≤ 9223372036854775807) (hok : ∀ vn bn, vs = vI vn → bs = bn.map bI → TaskN vn bn → HasBest vn bn bl) :
    Calls Tryd.prog 11 #[.slice va vl vc, .slice ba bl bc] W (OutB vs bs bl W) := by
  obtain ⟨V, hV⟩ : ∃ V, V = ((W.alloc (.cells #[.slice va vl vc] 22)).alloc (.cells #[.slice ba bl bc] 23)).alloc (.cells #[.int .i64 0, .slice none 0 0, .slice none 0 0] 28) := ⟨_, rfl⟩
  have hb1 := box_below W (.cells #[.slice va vl vc] 22)
  have hb2 := box_below (W.alloc (.cells #[.slice va vl vc] 22)) (.cells #[.slice ba bl bc] 23)
  have hb3 := box_below ((W.alloc (.cells #[.slice va vl vc] 22)).alloc (.cells #[.slice ba bl bc] 23)) (.cells #[.int .i64 0, .slice none 0 0, .slice none 0 0] 28)
  have s1 : (W.alloc (.cells #[.slice va vl vc] 22)).heap.size = W.heap.size + 1 := size_alloc _ _
  have s2 : ((W.alloc (.cells #[.slice va vl vc] 22)).alloc (.cells #[.slice ba bl bc] 23)).heap.size = W.heap.size + 1 + 1 := by rw [size_alloc, s1]
  have HB : Hid (Below W.heap.size W V) := Lib.hid (by rw [hV]; exact below_then hb1 (below_then hb2 hb3))
  have R4 : Hid (V.heap[W.heap.size + 1 + 1]? = some (.cells #[.int .i64 0, .slice none 0 0, .slice none 0 0] 28 (0, 0))) := Lib.hid (by rw [hV, ← s2]; exact new_row _ _)
  have r2 : V.heap[W.heap.size]? = some (.cells #[.slice va vl vc] 22 (0, 0)) := by rw [hV]; exact row_keep (below_then hb2 hb3) (new_row W _)
  have r3 : V.heap[W.heap.size + 1]? = some (.cells #[.slice ba bl bc] 23 (0, 0)) := by rw [hV, ← s1]; exact row_keep hb3 (new_row _ _)
  have c2 : V.cell? ⟨W.heap.size, 0, none⟩ = some (.slice va vl vc) := by rw [cell_row r2]; rfl
  have c3 : V.cell? ⟨W.heap.size + 1, 0, none⟩ = some (.slice ba bl bc) := by rw [cell_row r3]; rfl
  have HVI := Lib.hid (hv.keep HB.out)
  have HBB := Lib.hid (hb.keep HB.out)
  have HNN := Lib.hid (hN.keep HB.out)
  have HOK := Lib.hid hok
  have HV := Lib.hid hV
  have HC2 := Lib.hid c2
  have HC3 := Lib.hid c3
  clear hv hb hN hok hV hb1 hb2 hb3 s1 s2 r2 r3
  go_enter Tryd.func11, Tryd.ntmps11
  go_upto_region 1 with fail
  rw [← HV.out]
  go_wp2_with fail
  refine (isTask_any va vl vc ba bl bc vs bs _ HVI.out HBB.out hvl hbl).mono ?_
  rintro e w1 ⟨⟨ht, rfl⟩ | ⟨ht, rfl⟩, hb1⟩
  · obtain ⟨vn, bn, rfl, rfl, hT⟩ := task_nat ht
    have HTP := Lib.hid ht
    have HB1 := Lib.hid hb1
    have HE : Hid (EnvB w1 W.heap.size (W.heap.size + 1) va vl vc ba bl bc vn bn) := Lib.hid ⟨cell_later HB1.out HC2.out, cell_later HB1.out HC3.out, HVI.out.keep HB1.out, HBB.out.keep HB1.out, hT, HNN.out.keep HB1.out⟩
    have HHB := Lib.hid (HOK.out vn bn rfl rfl hT)
    have P := Lib.hid (least_any w1 HE.out)
    have hlv : vn.length = vl := by have := HVI.out.len; rwa [vI_len] at this
    have HLV := Lib.hid hlv
    have d3 := HE.out.cb
    have d2 := HE.out.cv
    have h5 : bl ≤ 5 := by have := hT.few; have := HBB.out.1; simp at this; omega
    have h3 : vl ≤ 3 := by have := hT.house.few; omega
    have HT := Lib.hid hT
    clear ht hT hb1 hlv c2 c3
    go_upto_region 5 with (go_at_call 26; refine P.out.mono ?_; rintro e w2 ⟨en, z0, z1, z2, z3, z4, rfl, hz, hb2⟩; have HZ2 := Lib.hid hz; have HB2 := Lib.hid hb2; clear hz hb2)
    obtain ⟨w5, hw5⟩ : ∃ w5, w5 = w2.alloc (.cells #[.int .i64 z0, .int .i64 z1, .int .i64 z2, .int .i64 z3, .int .i64 z4] 45) := ⟨_, rfl⟩
    have HB5 : Hid (Below w1.heap.size w1 w5) := Lib.hid (by rw [hw5]; exact below_then HB2.out (box_below w2 _))
    have R8 : w5.heap[w2.heap.size]? = some (.cells #[.int .i64 z0, .int .i64 z1, .int .i64 z2, .int .i64 z3, .int .i64 z4] 45 (0, 0)) := by rw [hw5]; exact new_row w2 _
    have r0 := cell_row R8 0; have r1 := cell_row R8 1; have r2 := cell_row R8 2; have r3 := cell_row R8 3; have r4 := cell_row R8 4
    simp only [List.getElem?_toArray, List.getElem?_cons_zero, List.getElem?_cons_succ] at r0 r1 r2 r3 r4
    have HR8 := Lib.hid R8
    have HE5 := Lib.hid (HE.out.keep HB5.out)
    have HN5 := HE5.out.now
    have e0 := HN5.c0; have e1 := HN5.c1; have e2 := HN5.c2; have e3 := HN5.c3; have e4 := HN5.c4
    have R45 := Lib.hid (row_keep HB5.out (row_keep HB1.out R4.out))
    have HBW5 := Lib.hid (HB.out.trans ((below_then HB1.out HB5.out).mono HB.out.size))
    have d3 := HE5.out.cb
    have d2 := HE5.out.cv
    have HHW : Hid (W.heap.size + 1 + 1 < V.heap.size) := Lib.hid (Array.getElem?_eq_some_iff.1 R4.out).1
    rw [← hw5]
    clear hw5 R8 HN5
    rcases HZ2.out with ⟨hen, hno, hyes, hst⟩ | ⟨rfl, hno, hst⟩
    · have h0 : 0 ≤ z0 := by
        rcases hst.neg with ⟨_, h⟩ | ⟨h, _⟩
        · exact h
        · exact absurd h hyes
      obtain ⟨ss, col, hbn⟩ := HHB.out en hen hno hyes
      have HBN := Lib.hid hbn
      have hne : ∀ w, (Op.equalIn 10000 45 (.agg #[.int .i64 z0, .int .i64 z1, .int .i64 z2, .int .i64 z3, .int .i64 z4]) (.agg #[.int .i64 (-1), .int .i64 0, .int .i64 0, .int .i64 0, .int .i64 0])).run Tryd.prog w = .ok false w := fun w => by
        have : (z0 == -1) = false := by simp; omega
        rw [eq_starts, this]
        rfl
      have hsl : ss.length = bl := by have := startsN_len hbn.st; rwa [List.length_range] at this
      have HSL := Lib.hid hsl
      clear hno hyes hst hbn hsl
      have P6 := Lib.hid (indices_any bl (by omega) w5)
      go_upto_region 8 with (first | (go_at_call 27; refine P6.out.mono ?_; rintro e w6 ⟨rfl, hi6, hb6, hz6⟩; have HI6 := Lib.hid hi6; have HB6 := Lib.hid hb6; have P7 := Lib.hid (search_any (os := List.range bl) (oa := some ⟨w5.heap.size, 0, none⟩) (ol := bl) (oc := bl) en w6 (HE5.out.keep hb6) ⟨hi6.il (by rw [vI_len, List.length_range]), range_lt bl, List.nodup_range, List.length_range, ⟨Nat.le_refl _, by omega⟩, fun a e => by cases e; exact hi6.lt⟩ hen); clear hi6 hb6 hz6) | (go_at_call 23; refine P7.out.mono ?_; rintro e w7 ⟨y0, y1, y2, y3, y4, rfl, hz, hb7⟩; have HZ7 := Lib.hid hz; have HB7 := Lib.hid (below_then HB6.out hb7); have R7 := Lib.hid (row_keep HB7.out HR8.out); have g0 := cell_row R7.out 0; have g1 := cell_row R7.out 1; have g2 := cell_row R7.out 2; have g3 := cell_row R7.out 3; have g4 := cell_row R7.out 4; simp only [List.getElem?_toArray, List.getElem?_cons_zero, List.getElem?_cons_succ] at g0 g1 g2 g3 g4; have f0 := free_row R7.out 0; have f1 := free_row R7.out 1; have f2 := free_row R7.out 2; have f3 := free_row R7.out 3; have f4 := free_row R7.out 4; clear hz hb7 r0 r1 r2 r3 r4))
      obtain ⟨w8, hw8⟩ : ∃ w8, w8 = ((((w7.setCell ⟨w2.heap.size, 0, none⟩ (.int .i64 y0)).setCell ⟨w2.heap.size, 1, none⟩ (.int .i64 y1)).setCell ⟨w2.heap.size, 2, none⟩ (.int .i64 y2)).setCell ⟨w2.heap.size, 3, none⟩ (.int .i64 y3)).setCell ⟨w2.heap.size, 4, none⟩ (.int .i64 y4) := ⟨_, rfl⟩
      have HB8 : Hid (Below w1.heap.size w1 w8) := Lib.hid (by rw [hw8]; exact below_set5 _ _ _ _ _ (below_then HB5.out HB7.out) HB2.out.size)
      have R88 : Hid (w8.heap[w2.heap.size]? = some (.cells #[.int .i64 y0, .int .i64 y1, .int .i64 y2, .int .i64 y3, .int .i64 y4] 45 (0, 0))) := Lib.hid (by rw [hw8]; exact set_five R7.out)
      have HS8 : Hid (SetAt (List.range bl) ss [y0, y1, y2, y3, y4]) := Lib.hid (by
        rcases HZ7.out with ⟨ss', k1, k2, k3⟩ | ⟨k1, _⟩
        · rw [HBN.out.st] at k1
          rw [Option.some.inj k1]
          exact k2
        · rw [HBN.out.st] at k1
          cases k1)
      have P8 := Lib.hid (clone_st w2.heap.size 0 bl 5 ss w8 (starts_il R88.out HS8.out HSL.out h5) (by omega))
      have HE8 := Lib.hid (HE.out.keep HB8.out)
      have R48 := Lib.hid (row_keep HB8.out (row_keep HB1.out R4.out))
      have d3 := HE8.out.cb
      have d2 := HE8.out.cv
      have u0 : (0 : Int) ≤ (bl : Int) := by omega
      have u1 : (bl : Int) ≤ 5 := by omega
      rw [← hw8]
      clear hw8 g0 g1 g2 g3 g4 f0 f1 f2 f3 f4 e0 e1 e2 e3 e4
      go_upto_region 9 with (go_at_call 28; refine P8.out.mono ?_; rintro e w9 ⟨sa, sc, rfl, hi9, hb9, hf9⟩; have HF9 := Lib.hid hf9; have HI9 := Lib.hid hi9; have HB9 := Lib.hid (below_then HB8.out hb9); have R49 := Lib.hid (row_keep hb9 R48.out); clear hi9 hb9 hf9)
      have HE9 := Lib.hid (HE.out.keep HB9.out)
      have d3 := HE9.out.cb
      have d2 := HE9.out.cv
      have P9 := Lib.hid (assign_any va vl vc ba bl bc sa sc vn ss bn col w9 HE9.out.v HE9.out.b HE9.out.t HI9.out HBN.out.s30 (fun k hk => HBN.out.col k (by rw [HLV.out]; exact hk)))
      go_wp2_with (go_at_call 29; refine P9.out.mono ?_; rintro e w10 ⟨rfl, hx⟩; have HX := Lib.hid hx; have R410 := Lib.hid (row_keep hx.bel R49.out); obtain ⟨q0, q1, q2⟩ := cells3 R410.out; have f0 := free_row R410.out 0; have f1 := free_row R410.out 1; have f2 := free_row R410.out 2; clear hx)
      refine bodyPost_ret (v := .tuple #[.agg #[.int .i64 (en : Int), .slice sa bl sc, .slice (some ⟨w9.heap.size, 0, none⟩) bl bl], .int .i64 0]) (results_row_tmp Tryd.results11 _ _ (W.heap.size + 1 + 1) 28 #[.int .i64 (en : Int), .slice sa bl sc, .slice (some ⟨w9.heap.size, 0, none⟩) bl bl] (0, 0) _ rfl (set_three R410.out) Tryd.underlying28 (by kernel_rfl) (by kernel_rfl)) rfl ?_
      have hbel : Below W.heap.size W w10 := HB.out.trans ((below_then HB1.out (below_then HB9.out HX.out.bel)).mono HB.out.size)
      have hlt : W.heap.size + 1 + 1 < w8.heap.size := Nat.lt_of_lt_of_le HHW.out (Nat.le_trans HB1.out.size HB8.out.size)
      have hg3 : w10.grownBy (((w10.setCell ⟨W.heap.size + 1 + 1, 0, none⟩ (.int .i64 (en : Int))).setCell ⟨W.heap.size + 1 + 1, 1, none⟩ (.slice sa bl sc)).setCell ⟨W.heap.size + 1 + 1, 2, none⟩ (.slice (some ⟨w9.heap.size, 0, none⟩) bl bl)) (some (W.heap.size + 1 + 1)) :=
        grownBy_trans (grownBy_trans (grownBy_set _ _ _ _) (grownBy_set _ _ _ _)) (grownBy_set _ _ _ _)
      have hlt9 : W.heap.size + 1 + 1 < w9.heap.size := Nat.lt_of_lt_of_le HHW.out (Nat.le_trans HB1.out.size HB9.out.size)
      exact ⟨below_set3 _ _ _ hbel (by omega), .inr ⟨HTP.out, vn, bn, rfl, rfl, HT.out, .inr ⟨en, ss, col, sa, sc, _, HBN.out, rfl, (HI9.out.keep HX.out.bel).grown hg3 (fun a e => by have := HF9.out a e; omega), by rw [HLV.out]; exact HX.out.rows2_far (by omega) hg3 hlt9⟩⟩⟩
    · have hne : ∀ w, (Op.equalIn 10000 45 (.agg #[.int .i64 z0, .int .i64 z1, .int .i64 z2, .int .i64 z3, .int .i64 z4]) (.agg #[.int .i64 (-1), .int .i64 0, .int .i64 0, .int .i64 0, .int .i64 0])).run Tryd.prog w = .ok true w := fun w => by
        simp at hst
        obtain ⟨rfl, rfl, rfl, rfl, rfl⟩ := hst
        rw [eq_starts]
        rfl
      obtain ⟨q0, q1, q2⟩ := cells3 R45.out
      have f0 := free_row R45.out 0; have f1 := free_row R45.out 1; have f2 := free_row R45.out 2
      have HNO := Lib.hid hno
      clear hno hst
      go_wp2
      refine bodyPost_ret (v := .tuple #[.agg #[.int .i64 0, .slice none 0 0, .slice none 0 0], .int .i64 40]) (results_row_tmp Tryd.results11 _ _ (W.heap.size + 1 + 1) 28 #[.int .i64 0, .slice none 0 0, .slice none 0 0] (0, 0) _ rfl (set_three R45.out) Tryd.underlying28 (by kernel_rfl) (by kernel_rfl)) rfl ?_
      exact ⟨below_set3 _ _ _ HBW5.out (by omega), .inr ⟨HTP.out, vn, bn, rfl, rfl, HT.out, .inl ⟨HNO.out, rfl⟩⟩⟩
  · have R45 := Lib.hid (row_keep hb1 R4.out)
    have HBW := Lib.hid (HB.out.trans (hb1.mono HB.out.size))
    have HTP := Lib.hid ht
    obtain ⟨q0, q1, q2⟩ := cells3 R45.out
    have f0 := free_row R45.out 0; have f1 := free_row R45.out 1; have f2 := free_row R45.out 2
    clear ht hb1
    go_wp2
    refine bodyPost_ret (v := .tuple #[.agg #[.int .i64 0, .slice none 0 0, .slice none 0 0], .int .i64 2]) (results_row_tmp Tryd.results11 _ _ (W.heap.size + 1 + 1) 28 #[.int .i64 0, .slice none 0 0, .slice none 0 0] (0, 0) _ rfl (set_three R45.out) Tryd.underlying28 (by kernel_rfl) (by kernel_rfl)) rfl ?_
    exact ⟨below_set3 _ _ _ HBW.out (by omega), .inl ⟨HTP.out, rfl⟩⟩
end Go.Proofs.YtbidadkcdchomaaDoor

/- The specification's SameInts; the laws' few and fewVessels. -/
set_option linter.unusedVariables false
set_option linter.unusedSimpArgs false
namespace Go.Proofs.YtbidadkcdchomaaDoor
open Go.RowKit

def sameZ (xs ys : List Int) : Bool := decide (xs = ys)
theorem same_no {xs ys : List Int} {k : Nat} (h : xs[k]?.getD 0 ≠ ys[k]?.getD 0) : sameZ xs ys = false := by
  unfold sameZ
  exact decide_eq_false (fun e => h (by rw [e]))
theorem same_yes {xs ys : List Int} (hl : xs.length = ys.length) (h : ∀ k, k < xs.length → xs[k]?.getD 0 = ys[k]?.getD 0) : sameZ xs ys = true := by
  unfold sameZ
  refine decide_eq_true (List.ext_getElem hl fun i h1 h2 => ?_)
  have := h i h1
  rw [List.getElem?_eq_getElem h1, List.getElem?_eq_getElem h2] at this
  exact this
set_option maxRecDepth 100000 in
set_option maxHeartbeats 2000000 in
theorem sameInts_any (aa : Option Addr) (la ca : Nat) (ab : Option Addr) (lb cb : Nat) (xs ys : List Int) (W : World) (ha : Il W aa la xs) (hb : Il W ab lb ys) (h1 : la ≤ 1000000) (h2 : lb ≤ 1000000) :
    Calls Tryd.prog 21 #[.slice aa la ca, .slice ab lb cb] W fun e w' => e = .returned (.bool (sameZ xs ys)) ∧ Drew W w' := by
  have hla := ha.len
  have hlb := hb.len
  have HLA := Lib.hid hla
  have HLB := Lib.hid hlb
  have HA := Lib.hid ha
  have HB := Lib.hid hb
  by_cases hne : la = lb
  · subst hne
    clear ha hb hla hlb
    go_enter Tryd.func21, Tryd.ntmps21
    have t0 : (la : Int) = (la : Int) := rfl
    go_wp2
    go_loopg [5] la (fun gg s5 wr => ∃ k : Nat, s5 = .int .i64 (k : Int) ∧ k ≤ la ∧ la - k ≤ gg ∧ Hid (∀ q, q < k → xs[q]?.getD 0 = ys[q]?.getD 0) ∧ Hid (Drew W wr))
    case atStart => exact ⟨0, rfl, Nat.zero_le _, by omega, Lib.hid (fun q hq => absurd hq (Nat.not_lt_zero _)), Lib.hid (Drew.refl _)⟩
    case round =>
      obtain ⟨k, rfl, hk, hgg, HQ, HD⟩ := hrel
      by_cases h3 : k < la
      · have u0 : (0 : Int) ≤ (k : Int) := by omega
        have u1 : (k : Int) < (la : Int) := by omega
        obtain ⟨b1, o1, rfl, hc1⟩ := (HA.out.of_drew HD.out).at (by omega)
        obtain ⟨b2, o2, rfl, hc2⟩ := (HB.out.of_drew HD.out).at (by omega)
        have c1 := hc1 k h3
        have c2 := hc2 k h3
        clear hc1 hc2
        by_cases h4 : xs[k]?.getD 0 = ys[k]?.getD 0
        · have H4 := Lib.hid h4
          rw [← h4] at c2
          generalize xs[k]?.getD 0 = x at c1 c2
          clear h4
          go_wp2
          go_quiet (fail)
          go_wp2
          go_roundg (la - (k + 1))
          case measure => omega
          case rel => exact ⟨k + 1, by go_num, by omega, Nat.le_refl _, Lib.hid (fun q hq => by
              rcases Nat.lt_succ_iff_lt_or_eq.1 hq with hq | rfl
              · exact HQ.out q hq
              · exact H4.out), Lib.hid (HD.out.more _)⟩
        · have H4 := Lib.hid (same_no h4)
          generalize xs[k]?.getD 0 = x at c1 h4
          generalize ys[k]?.getD 0 = y at c2 h4
          go_wp2
          go_quiet (fail)
          go_wp2
          go_ret
          exact ⟨congrArg (fun b => Ending.returned (.bool b)) H4.out.symm, HD.out.more _⟩
      · obtain rfl : k = la := by omega
        have u1 : ¬ (k : Int) < (k : Int) := by omega
        have HS := Lib.hid (same_yes (by rw [HLA.out, HLB.out]) (fun q hq => HQ.out q (by rw [HLA.out] at hq; exact hq)) : sameZ xs ys = true)
        go_wp2
        go_ret
        exact ⟨congrArg (fun b => Ending.returned (.bool b)) HS.out.symm, HD.out⟩
  · have u1 : ¬ (la : Int) = (lb : Int) := by omega
    have HS : Hid (sameZ xs ys = false) := Lib.hid (decide_eq_false (fun e => hne (by rw [← hla, ← hlb, e])))
    clear ha hb hla hlb
    go_enter Tryd.func21, Tryd.ntmps21
    go_wp2
    go_ret
    exact ⟨congrArg (fun b => Ending.returned (.bool b)) HS.out.symm, Drew.refl _⟩

/-- a truth value, and nothing changes but draws -/
def OutYN (W : World) (e : Ending) (w' : World) : Prop := ∃ b : Bool, e = .returned (.bool b) ∧ Below W.heap.size W w'
set_option maxRecDepth 100000 in
set_option maxHeartbeats 2000000 in
theorem few_any (va : Option Addr) (vl vc : Nat) (ba : Option Addr) (bl bc : Nat) (bs : List Bt) (W : World) (hb : Bats W ba bl bs) :
    Calls Tryd.prog 8 #[.slice va vl vc, .slice ba bl bc] W (OutYN W) := by
  have HB := Lib.hid hb
  clear hb
  go_enter Tryd.func8, Tryd.ntmps8
  go_wp2
  go_loopg [5] 10 (fun gg s5 wr => ∃ k : Nat, s5 = .int .i64 (k : Int) ∧ k ≤ 10 ∧ 10 - k ≤ gg ∧ Hid (Below W.heap.size W wr))
  case atStart => exact ⟨0, rfl, Nat.zero_le _, by omega, Lib.hid (Below.refl _ _)⟩
  case round =>
    obtain ⟨k, rfl, hk, hgg, HD⟩ := hrel
    by_cases h1 : k < bl ∧ k < 10
    · obtain ⟨h1, h2⟩ := h1
      have u0 : (0 : Int) ≤ (k : Int) := by omega
      have u1 : (k : Int) < (bl : Int) := by omega
      have u2 : (k : Int) < 10 := by omega
      obtain ⟨g, o, ta, tl, tc, rfl, hx⟩ := (HB.out.keep HD.out).at h1
      have c0 := hx.c0
      have c1 := hx.c1
      clear hx
      by_cases h3 : (10 : Int) < (tl : Int)
      · go_wp2
        go_ret
        exact ⟨false, rfl, HD.out⟩
      · go_wp2
        go_roundg (10 - (k + 1))
        case measure => omega
        case rel => exact ⟨k + 1, by go_num, by omega, Nat.le_refl _, HD⟩
    · by_cases h3 : (k : Int) < (bl : Int)
      · have u2 : ¬ (k : Int) < 10 := by omega
        by_cases h4 : (vl : Int) ≤ 10
        · by_cases h5 : (bl : Int) ≤ 10
          · go_wp2
            go_ret
            exact ⟨_, rfl, HD.out⟩
          · go_wp2
            go_ret
            exact ⟨_, rfl, HD.out⟩
        · go_wp2
          go_ret
          exact ⟨_, rfl, HD.out⟩
      · by_cases h4 : (vl : Int) ≤ 10
        · by_cases h5 : (bl : Int) ≤ 10
          · go_wp2
            go_ret
            exact ⟨_, rfl, HD.out⟩
          · go_wp2
            go_ret
            exact ⟨_, rfl, HD.out⟩
        · go_wp2
          go_ret
          exact ⟨_, rfl, HD.out⟩
set_option maxRecDepth 100000 in
set_option maxHeartbeats 2000000 in
theorem fewV_any (en : Int) (sa : Option Addr) (sl sc : Nat) (ya : Option Addr) (yl yc : Nat) (rs : List (List Int)) (W : World) (hy : Rows2 W ya yl rs) :
    Calls Tryd.prog 16 #[.agg #[.int .i64 en, .slice sa sl sc, .slice ya yl yc]] W (OutYN W) := by
  have HB := Lib.hid (box_below W (.cells #[.int .i64 en, .slice sa sl sc, .slice ya yl yc] 28))
  have HY := Lib.hid (hy.keep HB.out)
  have R := Lib.hid (new_row W (.cells #[.int .i64 en, .slice sa sl sc, .slice ya yl yc] 28))
  clear hy
  obtain ⟨V, hV⟩ : ∃ V, V = W.alloc (.cells #[.int .i64 en, .slice sa sl sc, .slice ya yl yc] 28) := ⟨_, rfl⟩
  have HV := Lib.hid hV
  rw [← hV] at HB HY R
  clear hV
  go_enter Tryd.func16, Tryd.ntmps16
  go_upto_region 1 with fail
  rw [← HV.out]
  go_wp2
  go_loopg [3] 10 (fun gg s3 wr => ∃ k : Nat, s3 = .int .i64 (k : Int) ∧ k ≤ 10 ∧ 10 - k ≤ gg ∧ Hid (Below V.heap.size V wr))
  case atStart => exact ⟨0, rfl, Nat.zero_le _, by omega, Lib.hid (Below.refl _ _)⟩
  case round =>
    obtain ⟨k, rfl, hk, hgg, HD⟩ := hrel
    obtain ⟨q0, q1, q2⟩ := cells3 (row_keep HD.out R.out)
    have HBW := Lib.hid (HB.out.trans (HD.out.mono HB.out.size))
    by_cases h1 : k < yl ∧ k < 10
    · obtain ⟨h1, h2⟩ := h1
      have u0 : (0 : Int) ≤ (k : Int) := by omega
      have u1 : (k : Int) < (yl : Int) := by omega
      have u2 : (k : Int) < 10 := by omega
      obtain ⟨hrl, g, o, ho, hx⟩ := HY.out.keep HD.out
      obtain rfl := ho (by omega)
      obtain ⟨ra, rl, rc, c0, _, _⟩ := hx k h1
      clear hx hrl
      by_cases h3 : (10 : Int) < (rl : Int)
      · go_wp2
        go_ret
        exact ⟨false, rfl, HBW.out⟩
      · go_wp2
        go_roundg (10 - (k + 1))
        case measure => omega
        case rel => exact ⟨k + 1, by go_num, by omega, Nat.le_refl _, HD⟩
    · by_cases h3 : (k : Int) < (yl : Int)
      · have u2 : ¬ (k : Int) < 10 := by omega
        go_upto_region 6 with fail
        by_cases h4 : (sl : Int) ≤ 10
        · go_wp2
          go_ret
          exact ⟨_, rfl, HBW.out⟩
        · go_wp2
          go_ret
          exact ⟨_, rfl, HBW.out⟩
      · go_upto_region 6 with fail
        by_cases h4 : (sl : Int) ≤ 10
        · go_wp2
          go_ret
          exact ⟨_, rfl, HBW.out⟩
        · go_wp2
          go_ret
          exact ⟨_, rfl, HBW.out⟩
end Go.Proofs.YtbidadkcdchomaaDoor

/- The specification's Task. -/
set_option linter.unusedVariables false
set_option linter.unusedSimpArgs false
namespace Go.Proofs.YtbidadkcdchomaaDoor
open Go.RowKit

set_option maxRecDepth 100000 in
set_option maxHeartbeats 4000000 in
theorem task_any (va : Option Addr) (vl vc : Nat) (ba : Option Addr) (bl bc : Nat) (vs : List Int) (bs : List Bt) (W : World) (hv : Il W va vl vs) (hb : Bats W ba bl bs) (hvl : vl ≤ 9223372036854775807) (hbl : bl ≤ 9223372036854775807) :
    Calls Tryd.prog 10 #[.slice va vl vc, .slice ba bl bc] W (YesNoB (TaskP vs bs) W) := by
  have HV := Lib.hid hv
  have HVL := Lib.hid hv.len
  have HB := Lib.hid hb
  have HBL := Lib.hid hb.1
  clear hv hb
  go_enter Tryd.func10, Tryd.ntmps10
  by_cases g1 : vl < 1
  · have t1 : (vl : Int) < 1 := by omega
    go_wp2
    go_ret
    exact ⟨.inr ⟨fun h => by have := h.1.1; rw [HVL.out] at this; omega, rfl⟩, Below.refl _ _⟩
  have t1 : ¬ (vl : Int) < 1 := by omega
  by_cases g2 : 3 < vl
  · have t2 : (3 : Int) < (vl : Int) := by omega
    go_wp2
    go_ret
    exact ⟨.inr ⟨fun h => by have := h.1.2.1; rw [HVL.out] at this; omega, rfl⟩, Below.refl _ _⟩
  have t2 : ¬ (3 : Int) < (vl : Int) := by omega
  by_cases g3 : 5 < bl
  · have t3 : (5 : Int) < (bl : Int) := by omega
    go_wp2
    go_ret
    exact ⟨.inr ⟨fun h => by have := h.2.1; rw [HBL.out] at this; omega, rfl⟩, Below.refl _ _⟩
  have t3 : ¬ (5 : Int) < (bl : Int) := by omega
  go_wp2
  go_loopg [5] vl (fun gg s5 wr => ∃ k : Nat, s5 = .int .i64 (k : Int) ∧ k ≤ vl ∧ vl - k ≤ gg ∧ Hid (∀ j, j < k → 1 ≤ vs[j]?.getD 0 ∧ vs[j]?.getD 0 ≤ 8) ∧ Hid (Below W.heap.size W wr))
  case atStart => exact ⟨0, rfl, Nat.zero_le _, by omega, Lib.hid (fun j hj => absurd hj (Nat.not_lt_zero _)), Lib.hid (Below.refl _ _)⟩
  case round =>
    obtain ⟨k, rfl, hk, hgg, HI, HD⟩ := hrel
    by_cases h1 : k < vl
    · have u0 : (0 : Int) ≤ (k : Int) := by omega
      have u1 : (k : Int) < (vl : Int) := by omega
      obtain ⟨b1, o1, rfl, hc1⟩ := (HV.out.keep HD.out).at (by omega)
      have c1 := hc1 k h1
      obtain ⟨x, hx⟩ : ∃ x, x = vs[k]?.getD 0 := ⟨_, rfl⟩
      rw [← hx] at c1
      have HX := Lib.hid hx
      clear hc1 hx
      by_cases q1 : x < 1
      · go_wp2
        go_ret
        exact ⟨.inr ⟨fun h => by have := (h.1.2.2 k (by rw [HVL.out]; exact h1)).1; rw [← HX.out] at this; omega, rfl⟩, HD.out⟩
      · by_cases q2 : 8 < x
        · go_wp2
          go_ret
          exact ⟨.inr ⟨fun h => by have := (h.1.2.2 k (by rw [HVL.out]; exact h1)).2; rw [← HX.out] at this; omega, rfl⟩, HD.out⟩
        · go_wp2
          go_roundg (vl - (k + 1))
          case measure => omega
          case rel => exact ⟨k + 1, by go_num, by omega, Nat.le_refl _, Lib.hid (fun j hj => by
              rcases Nat.lt_succ_iff_lt_or_eq.1 hj with hj | rfl
              · exact HI.out j hj
              · rw [← HX.out]; exact ⟨by omega, by omega⟩), HD⟩
    · obtain rfl : k = vl := by omega
      have u1 : ¬ (k : Int) < (k : Int) := by omega
      have HIN : Hid (In 1 8 vs) := Lib.hid (fun j hj => HI.out j (by rw [HVL.out] at hj; exact hj))
      go_wp2
      go_loopg [6] bl (fun gg s6 wq => ∃ i : Nat, s6 = .int .i64 (i : Int) ∧ i ≤ bl ∧ bl - i ≤ gg ∧ Hid (∀ j, j < i → FineT vs.length bs[j]!) ∧ Hid (Below W.heap.size W wq))
      case atStart => exact ⟨0, rfl, Nat.zero_le _, by omega, Lib.hid (fun j hj => absurd hj (Nat.not_lt_zero _)), HD⟩
      case round =>
        obtain ⟨i, rfl, hi, hgg2, HA, HW⟩ := hrel
        by_cases h2 : i < bl
        · have u2 : (i : Int) < (bl : Int) := by omega
          have u3 : (0 : Int) ≤ (i : Int) := by omega
          obtain ⟨g, o, ta, tl, tc, rfl, hx⟩ := (HB.out.keep HW.out).at h2
          obtain ⟨x, hxe⟩ : ∃ x, x = bs[i]! := ⟨_, rfl⟩
          rw [← hxe] at hx
          have HX := Lib.hid hxe
          have c0 := hx.c0
          have c1 := hx.c1
          have HTL := Lib.hid hx.il.len
          obtain ⟨wx, hwx⟩ : ∃ wx, wx = wr.alloc (.cells #[.int .i64 x.rdy, .slice ta tl tc] 43) := ⟨_, rfl⟩
          have HBx : Hid (Below wr.heap.size wr wx) := Lib.hid (by rw [hwx]; exact box_below wr _)
          have RX : Hid (wx.heap[wr.heap.size]? = some (.cells #[.int .i64 x.rdy, .slice ta tl tc] 43 (0, 0))) := Lib.hid (by rw [hwx]; exact new_row wr _)
          have HWX := Lib.hid hwx
          have HIL := Lib.hid (hx.il.keep HBx.out)
          have HW3 := Lib.hid (HW.out.trans (HBx.out.mono HW.out.size))
          clear hx hxe hwx
          go_upto_region 12 with fail
          rw [← HWX.out]
          clear c0 c1
          have pb0 := cell_row RX.out 0
          have pb1 := cell_row RX.out 1
          simp only [List.getElem?_toArray, List.getElem?_cons_zero, List.getElem?_cons_succ] at pb0 pb1
          by_cases q1 : x.rdy < 0
          · go_wp2
            go_ret
            exact ⟨.inr ⟨fun h => by have := (h.2.2 i (by rw [HBL.out]; exact h2)).1; rw [← HX.out] at this; omega, rfl⟩, HW3.out⟩
          · by_cases q2 : 30 < x.rdy
            · go_wp2
              go_ret
              exact ⟨.inr ⟨fun h => by have := (h.2.2 i (by rw [HBL.out]; exact h2)).2.1; rw [← HX.out] at this; omega, rfl⟩, HW3.out⟩
            · by_cases q3 : tl = k
              · have q4 : ((tl : Int) != (k : Int)) = false := by simp; omega
                have HQ3 := Lib.hid q3
                have htl3 : tl ≤ 3 := by omega
                clear q3
                go_wp2
                go_loopg [8] tl (fun gg s8 wz => ∃ t : Nat, s8 = .int .i64 (t : Int) ∧ t ≤ tl ∧ tl - t ≤ gg ∧ Hid (∀ j, j < t → 1 ≤ x.tm[j]?.getD 0 ∧ x.tm[j]?.getD 0 ≤ 30) ∧ Hid (Below wx.heap.size wx wz))
                case atStart => exact ⟨0, rfl, Nat.zero_le _, by omega, Lib.hid (fun j hj => absurd hj (Nat.not_lt_zero _)), Lib.hid (Below.refl _ _)⟩
                case round =>
                  obtain ⟨t, rfl, ht, hgg3, HT, HZ⟩ := hrel
                  have HW4 := Lib.hid (HW3.out.trans (HZ.out.mono HW3.out.size))
                  have pb0 := cell_later HZ.out pb0
                  have pb1 := cell_later HZ.out pb1
                  by_cases h3 : t < tl
                  · have y0 : (0 : Int) ≤ (t : Int) := by omega
                    have y1 : (t : Int) < (tl : Int) := by omega
                    obtain ⟨b2, o2, rfl, hc2⟩ := (HIL.out.keep HZ.out).at (by omega)
                    have c2 := hc2 t h3
                    obtain ⟨y, hy⟩ : ∃ y, y = x.tm[t]?.getD 0 := ⟨_, rfl⟩
                    rw [← hy] at c2
                    have HY := Lib.hid hy
                    clear hc2 hy
                    by_cases q5 : y < 1
                    · go_wp2
                      go_ret
                      exact ⟨.inr ⟨fun h => by have := ((h.2.2 i (by rw [HBL.out]; exact h2)).2.2.2 t (by rw [← HX.out, HTL.out]; exact h3)).1; rw [← HX.out, ← HY.out] at this; omega, rfl⟩, HW4.out⟩
                    · by_cases q6 : 30 < y
                      · go_wp2
                        go_ret
                        exact ⟨.inr ⟨fun h => by have := ((h.2.2 i (by rw [HBL.out]; exact h2)).2.2.2 t (by rw [← HX.out, HTL.out]; exact h3)).2; rw [← HX.out, ← HY.out] at this; omega, rfl⟩, HW4.out⟩
                      · go_wp2
                        go_roundg (tl - (t + 1))
                        case measure => omega
                        case rel => exact ⟨t + 1, by go_num, by omega, Nat.le_refl _, Lib.hid (fun j hj => by
                            rcases Nat.lt_succ_iff_lt_or_eq.1 hj with hj | rfl
                            · exact HT.out j hj
                            · rw [← HY.out]; exact ⟨by omega, by omega⟩), HZ⟩
                  · obtain rfl : t = tl := by omega
                    have y1 : ¬ (t : Int) < (t : Int) := by omega
                    go_wp2
                    go_roundg (bl - (i + 1))
                    case measure => omega
                    case rel =>
                      refine ⟨i + 1, by go_num, by omega, Nat.le_refl _, Lib.hid (fun j hj => ?_), HW4⟩
                      rcases Nat.lt_succ_iff_lt_or_eq.1 hj with hj | rfl
                      · exact HA.out j hj
                      · rw [← HX.out]
                        exact ⟨by omega, by omega, by rw [HTL.out, HVL.out]; exact HQ3.out, fun j hj => HT.out j (by rw [HTL.out] at hj; exact hj)⟩
              · have q4 : ((tl : Int) != (k : Int)) = true := by simp; omega
                go_wp2
                go_ret
                exact ⟨.inr ⟨fun h => by have := (h.2.2 i (by rw [HBL.out]; exact h2)).2.2.1; rw [← HX.out, HTL.out, HVL.out] at this; exact q3 this, rfl⟩, HW3.out⟩
        · have u2 : ¬ (i : Int) < (bl : Int) := by omega
          go_wp2
          go_ret
          exact ⟨.inl ⟨⟨⟨by rw [HVL.out]; omega, by rw [HVL.out]; omega, HIN.out⟩, by rw [HBL.out]; omega, fun j hj => HA.out j (by rw [HBL.out] at hj; omega)⟩, rfl⟩, HW.out⟩
end Go.Proofs.YtbidadkcdchomaaDoor

/- The specification's Total, Begin, Meet. (By gen_rmeet.py.) -/
set_option linter.unusedVariables false
set_option linter.unusedSimpArgs false
namespace Go.Proofs.YtbidadkcdchomaaDoor
open Go.RowKit

theorem take_le {tm : List Nat} (hm : ∀ k, k < tm.length → tm[k]! ≤ 30) (hl : tm.length ≤ 3) (i : Nat) : (tm.take i).sum ≤ 90 := by
  have := sum_le (tm.take i) 30 (fun k hk => by
    rw [List.length_take] at hk
    have := hm k (by omega)
    rw [getElem!_pos (tm.take i) k (by rw [List.length_take]; omega), List.getElem_take, ← getElem!_pos tm k (by omega)]; exact this)
  have h2 : (tm.take i).length ≤ 3 := by rw [List.length_take]; omega
  have : (tm.take i).length * 30 ≤ 3 * 30 := Nat.mul_le_mul_right _ h2
  omega
set_option maxHeartbeats 1000000 in
theorem total_any (r : Int) (ta : Option Addr) (tl tc : Nat) (tm : List Nat) (W : World) (hs : Il W ta tl (vI tm)) (hm : ∀ k, k < tm.length → tm[k]! ≤ 30) (hl : tm.length ≤ 3) :
    Calls Tryd.prog 30 #[.agg #[.int .i64 r, .slice ta tl tc]] W (OutZ (tm.sum : Nat) W) := by
  obtain ⟨V, hV⟩ : ∃ V, V = W.alloc (.cells #[.int .i64 r, .slice ta tl tc] 43) := ⟨_, rfl⟩
  have HB : Hid (Below W.heap.size W V) := Lib.hid (by rw [hV]; exact box_below W _)
  have R := new_row W (.cells #[.int .i64 r, .slice ta tl tc] 43)
  rw [← hV] at R
  have HS := Lib.hid (hs.keep HB.out)
  have hll : tm.length = tl := by have := hs.len; rwa [vI_len] at this
  have c1 : V.cell? ⟨W.heap.size, 1, none⟩ = some (.slice ta tl tc) := by rw [cell_row R]; rfl
  have c0 : V.cell? ⟨W.heap.size, 0, none⟩ = some (.int .i64 r) := by rw [cell_row R]; rfl
  have HL := Lib.hid hll
  have HM := Lib.hid hm
  have HT3 := Lib.hid (take_le hm hl)
  have htl : tl ≤ 3 := by omega
  have HV := Lib.hid hV
  clear hs hm hll hl hV R
  go_enter Tryd.func30, Tryd.ntmps30
  go_upto_region 1 with fail
  rw [← HV.out]
  go_wp2
  go_loopg [3, 4] tl (fun gg s3 s4 wr => ∃ i : Nat, s4 = .int .i64 (i : Int) ∧ i ≤ tl ∧ tl - i ≤ gg ∧ s3 = .int .i64 (((tm.take i).sum : Nat) : Int) ∧ Hid (Drew V wr))
  case atStart => exact ⟨0, rfl, Nat.zero_le _, by omega, rfl, Lib.hid (Drew.refl _)⟩
  case round =>
    obtain ⟨i, rfl, hi, hgg, rfl, HD⟩ := hrel
    have hsum := HT3.out i
    have c0 := (HD.out.cell _).trans c0
    have c1 := (HD.out.cell _).trans c1
    by_cases h1 : i < tl
    · have u1 : (i : Int) < (tl : Int) := by omega
      have u0 : (0 : Int) ≤ (i : Int) := by omega
      obtain ⟨b, off, rfl, hc⟩ := (HS.out.of_drew HD.out).at (by omega)
      have hci := hc i h1
      rw [vI_get] at hci
      have hx := HM.out i (by rw [HL.out]; exact h1)
      have HT := Lib.hid (take_sum tm i)
      generalize tm[i]! = x at hci hx HT
      generalize (tm.take i).sum = y at hsum HT
      clear hc
      go_wp2
      go_roundg (tl - (i + 1))
      case measure => omega
      case rel => exact ⟨i + 1, by go_num, by omega, Nat.le_refl _, by rw [HT.out]; go_num, HD⟩
    · have u1 : ¬ (i : Int) < (tl : Int) := by omega
      obtain rfl : i = tl := by omega
      rw [List.take_of_length_le (by rw [HL.out]; exact Nat.le_refl _)] at hsum ⊢
      have HBE := Lib.hid (HB.out.trans (HD.out.below (B := V.heap.size).mono HB.out.size))
      go_wp2
      go_ret
      exact ⟨rfl, HBE.out⟩
set_option maxHeartbeats 1000000 in
theorem refbegin_any (r z : Int) (ta : Option Addr) (tl tc st : Nat) (tm : List Nat) (W : World) (hs : Il W ta tl (vI tm)) (hm : ∀ k, k < tm.length → tm[k]! ≤ 30) (hl : tm.length ≤ 3) (hst : st ≤ tm.length) (hz : 0 ≤ z) (hz2 : z ≤ 4611686018427387904) :
    Calls Tryd.prog 42 #[.agg #[.int .i64 r, .slice ta tl tc], .int .i64 z, .int .i64 (st : Int)] W (OutZ (z + ((tm.take st).sum : Nat)) W) := by
  obtain ⟨V, hV⟩ : ∃ V, V = W.alloc (.cells #[.int .i64 r, .slice ta tl tc] 43) := ⟨_, rfl⟩
  have HB : Hid (Below W.heap.size W V) := Lib.hid (by rw [hV]; exact box_below W _)
  have R := new_row W (.cells #[.int .i64 r, .slice ta tl tc] 43)
  rw [← hV] at R
  have HS := Lib.hid (hs.keep HB.out)
  have hll : tm.length = tl := by have := hs.len; rwa [vI_len] at this
  have c1 : V.cell? ⟨W.heap.size, 1, none⟩ = some (.slice ta tl tc) := by rw [cell_row R]; rfl
  have c0 : V.cell? ⟨W.heap.size, 0, none⟩ = some (.int .i64 r) := by rw [cell_row R]; rfl
  have HL := Lib.hid hll
  have HM := Lib.hid hm
  have HT3 := Lib.hid (take_le hm hl)
  have hst3 : st ≤ tl := by omega
  have htl : tl ≤ 3 := by omega
  have HV := Lib.hid hV
  clear hs hm hll hl hV R hst
  go_enter Tryd.func42, Tryd.ntmps42
  go_upto_region 1 with fail
  rw [← HV.out]
  go_wp2
  go_loopg [1, 7] st (fun gg s1 s7 wr => ∃ i : Nat, s7 = .int .i64 (i : Int) ∧ i ≤ st ∧ st - i ≤ gg ∧ s1 = .int .i64 (z + (((tm.take i).sum : Nat) : Int)) ∧ Hid (Drew V wr))
  case atStart => exact ⟨0, rfl, Nat.zero_le _, by omega, by simp, Lib.hid (Drew.refl _)⟩
  case round =>
    obtain ⟨i, rfl, hi, hgg, rfl, HD⟩ := hrel
    have hsum := HT3.out i
    have c0 := (HD.out.cell _).trans c0
    have c1 := (HD.out.cell _).trans c1
    by_cases h1 : i < st
    · have u1 : (i : Int) < (st : Int) := by omega
      have u2 : (i : Int) < (tl : Int) := by omega
      have u0 : (0 : Int) ≤ (i : Int) := by omega
      obtain ⟨b, off, rfl, hc⟩ := (HS.out.of_drew HD.out).at (by omega)
      have hci := hc i (by omega)
      rw [vI_get] at hci
      have hx := HM.out i (by rw [HL.out]; omega)
      have HT := Lib.hid (take_sum tm i)
      generalize tm[i]! = x at hci hx HT
      generalize (tm.take i).sum = y at hsum HT
      clear hc
      go_wp2
      go_roundg (st - (i + 1))
      case measure => omega
      case rel => exact ⟨i + 1, by go_num, by omega, Nat.le_refl _, by rw [HT.out]; go_num, HD⟩
    · have u1 : ¬ (i : Int) < (st : Int) := by omega
      obtain rfl : i = st := by omega
      have HBE := Lib.hid (HB.out.trans (HD.out.below (B := V.heap.size).mono HB.out.size))
      go_wp2
      go_ret
      exact ⟨rfl, HBE.out⟩
/-- do two batches meet in stage k? -/
def meetK (b1 b2 : BN) (z1 z2 : Int) (k : Nat) : Bool := meetZ (z1 + (begN b1 k : Int)) (z1 + (begN b1 (k + 1) : Int)) (z2 + (begN b2 k : Int)) (z2 + (begN b2 (k + 1) : Int))

set_option maxRecDepth 100000 in
set_option maxHeartbeats 8000000 in
theorem meet_any (r1 r2 z1 z2 : Int) (ta : Option Addr) (tl tc : Nat) (ua : Option Addr) (ul uc k : Nat) (b1 b2 : BN) (W : World) (hs1 : Il W ta tl (vI b1.tm)) (hs2 : Il W ua ul (vI b2.tm)) (hm1 : ∀ k, k < b1.tm.length → b1.tm[k]! ≤ 30) (hm2 : ∀ k, k < b2.tm.length → b2.tm[k]! ≤ 30) (hl1 : b1.tm.length ≤ 3) (hl2 : b2.tm.length ≤ 3) (hk1 : k < b1.tm.length) (hk2 : k < b2.tm.length)
    (p1 : 0 ≤ z1) (p2 : z1 ≤ 4611686018427387904) (p3 : 0 ≤ z2) (p4 : z2 ≤ 4611686018427387904) :
    Calls Tryd.prog 34 #[.agg #[.int .i64 r1, .slice ta tl tc], .agg #[.int .i64 r2, .slice ua ul uc], .int .i64 z1, .int .i64 z2, .int .i64 (k : Int)] W fun e w' => e = .returned (.bool (meetK b1 b2 z1 z2 k)) ∧ Below W.heap.size W w' := by
  obtain ⟨V, hV⟩ : ∃ V, V = (W.alloc (.cells #[.int .i64 r1, .slice ta tl tc] 43)).alloc (.cells #[.int .i64 r2, .slice ua ul uc] 43) := ⟨_, rfl⟩
  have hb1 := box_below W (.cells #[.int .i64 r1, .slice ta tl tc] 43)
  have hb2 := box_below (W.alloc (.cells #[.int .i64 r1, .slice ta tl tc] 43)) (.cells #[.int .i64 r2, .slice ua ul uc] 43)
  have s1 : (W.alloc (.cells #[.int .i64 r1, .slice ta tl tc] 43)).heap.size = W.heap.size + 1 := size_alloc _ _
  have HB : Hid (Below W.heap.size W V) := Lib.hid (by rw [hV]; exact below_then hb1 hb2)
  have R1 : V.heap[W.heap.size]? = some (.cells #[.int .i64 r1, .slice ta tl tc] 43 (0, 0)) := by rw [hV]; exact row_keep hb2 (new_row W _)
  have R2 : V.heap[W.heap.size + 1]? = some (.cells #[.int .i64 r2, .slice ua ul uc] 43 (0, 0)) := by rw [hV, ← s1]; exact new_row _ _
  have a0 := cell_row R1 0
  have a1 := cell_row R1 1
  have d0 := cell_row R2 0
  have d1 := cell_row R2 1
  simp only [List.getElem?_toArray, List.getElem?_cons_zero, List.getElem?_cons_succ] at a0 a1 d0 d1
  have I1 := Lib.hid (hs1.keep HB.out)
  have I2 := Lib.hid (hs2.keep HB.out)
  have HV := Lib.hid hV
  have P1 := Lib.hid (refbegin_any r1 z1 ta tl tc k b1.tm V.drew I1.out.drew hm1 hl1 (by omega) p1 p2)
  have HM2 := Lib.hid hm2
  have g1 := take_le hm1 hl1 k
  have g2 := take_le hm2 hl2 k
  have x1 : (b1.tm)[k]! ≤ 30 := hm1 k hk1
  have x2 : (b2.tm)[k]! ≤ 30 := hm2 k hk2
  have hlt1 : b1.tm.length = tl := by have := hs1.len; rwa [vI_len] at this
  have hlt2 : b2.tm.length = ul := by have := hs2.len; rwa [vI_len] at this
  have u0 : (0 : Int) ≤ (k : Int) := by omega
  have u1 : (k : Int) < (tl : Int) := by omega
  have u2 : (k : Int) < (ul : Int) := by omega
  have HK : Hid (meetK b1 b2 z1 z2 k = (decide (z1 + ((b1.tm.take k).sum : Int) < z2 + ((b2.tm.take k).sum : Int) + (b2.tm[k]! : Int)) && decide (z2 + ((b2.tm.take k).sum : Int) < z1 + ((b1.tm.take k).sum : Int) + (b1.tm[k]! : Int)))) := Lib.hid (by
    unfold meetK meetZ begN
    rw [take_sum b1.tm k, take_sum b2.tm k]
    simp only [Int.natCast_add, Int.add_assoc])
  have P2 : Hid (∀ w, Below V.heap.size V w → Calls Tryd.prog 42 #[.agg #[.int .i64 r2, .slice ua ul uc], .int .i64 z2, .int .i64 (k : Int)] w (OutZ (z2 + ((b2.tm.take k).sum : Nat)) w)) := Lib.hid (fun w hb => refbegin_any r2 z2 ua ul uc k b2.tm w (I2.out.keep hb) hm2 hl2 (by omega) p3 p4)
  clear hs1 hs2 hm1 hm2 hV hb1 hb2 s1 R1 R2 HM2
  generalize (b1.tm.take k).sum = y1 at g1 P1 HK
  generalize (b2.tm.take k).sum = y2 at g2 P2 HK
  go_enter Tryd.func34, Tryd.ntmps34
  go_upto_region 1 with fail
  rw [← HV.out]
  refine wp_region_held_drew (S := fun w' => w'.cell? ⟨W.heap.size, 0, none⟩ = some (.int .i64 r1) ∧ w'.cell? ⟨W.heap.size, 1, none⟩ = some (.slice ta tl tc) ∧ w'.cell? ⟨W.heap.size + 1, 0, none⟩ = some (.int .i64 r2) ∧ w'.cell? ⟨W.heap.size + 1, 1, none⟩ = some (.slice ua ul uc)) (by kernel_rfl) ⟨a0, a1, d0, d1⟩ (fun hS => ?_)
  refine wpAnyH_take (i := 0) (v := ?vm0) rfl (by kernel_rfl) (by kernel_rfl) (by kernel_rfl) (fun _ _ _ h => h) (Or.inl ⟨by rfl, ?hym0⟩) hS ?restm0
  case hym0 => (intro w hSw; (try dsimp only at hSw); (first | (go_simp; done) | (go_simp; with_reducible rfl)))
  try simp only [Act.put, List.getElem_toArray, List.getElem_cons_succ, List.getElem_cons_zero, List.setIfInBounds_toArray, List.set_cons_zero, List.set_cons_succ]
  refine wpAnyH_take (i := 1) (v := ?vm1) rfl (by kernel_rfl) (by kernel_rfl) (by kernel_rfl) (fun _ _ _ h => h) (Or.inl ⟨by rfl, ?hym1⟩) hS ?restm1
  case hym1 => (intro w hSw; (try dsimp only at hSw); (first | (go_simp; done) | (go_simp; with_reducible rfl)))
  try simp only [Act.put, List.getElem_toArray, List.getElem_cons_succ, List.getElem_cons_zero, List.setIfInBounds_toArray, List.set_cons_zero, List.set_cons_succ]
  refine wpAnyH_take (i := 2) (v := ?vm2) rfl (by kernel_rfl) (by kernel_rfl) (by kernel_rfl) (fun _ _ _ h => h) (Or.inl ⟨by rfl, ?hym2⟩) hS ?restm2
  case hym2 => (intro w hSw; (try dsimp only at hSw); (first | (go_simp; done) | (go_simp; with_reducible rfl)))
  try simp only [Act.put, List.getElem_toArray, List.getElem_cons_succ, List.getElem_cons_zero, List.setIfInBounds_toArray, List.set_cons_zero, List.set_cons_succ]
  refine wpAnyH_take (i := 4) (v := ?vm4) rfl (by kernel_rfl) (by kernel_rfl) (by kernel_rfl) (fun _ _ _ h => h) (Or.inl ⟨by rfl, ?hym4⟩) hS ?restm4
  case hym4 => (intro w hSw; (try dsimp only at hSw); (first | (go_simp; done) | (go_simp; with_reducible rfl)))
  try simp only [Act.put, List.getElem_toArray, List.getElem_cons_succ, List.getElem_cons_zero, List.setIfInBounds_toArray, List.set_cons_zero, List.set_cons_succ]
  refine wpAnyH_take (i := 5) (v := ?vm5) rfl (by kernel_rfl) (by kernel_rfl) (by kernel_rfl) (fun _ _ _ h => h) (Or.inl ⟨by rfl, ?hym5⟩) hS ?restm5
  case hym5 => (intro w hSw; (try dsimp only at hSw); (first | (go_simp; done) | (go_simp; with_reducible rfl)))
  try simp only [Act.put, List.getElem_toArray, List.getElem_cons_succ, List.getElem_cons_zero, List.setIfInBounds_toArray, List.set_cons_zero, List.set_cons_succ]
  refine wpAnyH_take (i := 6) (v := ?vm6) rfl (by kernel_rfl) (by kernel_rfl) (by kernel_rfl) (fun _ _ _ h => h) (Or.inl ⟨by rfl, ?hym6⟩) hS ?restm6
  case hym6 => (intro w hSw; (try dsimp only at hSw); (first | (go_simp; done) | (go_simp; with_reducible rfl)))
  try simp only [Act.put, List.getElem_toArray, List.getElem_cons_succ, List.getElem_cons_zero, List.setIfInBounds_toArray, List.set_cons_zero, List.set_cons_succ]
  refine wpAnyH_ready (rs := [3]) (by kernel_rfl) (by simp) ?_
  refine AllReadyH.cons rfl (fun K hK => ?_) AllReadyH.nil
  try go_simp
  refine P1.out.mono ?_
  rintro e w1 ⟨rfl, hb1⟩
  have B1 := Lib.hid ((drew_below V).trans hb1)
  have k0 := cell_later B1.out a0; have k1 := cell_later B1.out a1; have k2 := cell_later B1.out d0; have k3 := cell_later B1.out d1
  clear hb1
  refine hK.out _ _ ⟨k0, k1, k2, k3⟩ (fun hS => ?_)
  clear hK K
  try simp only [Act.put, List.getElem_toArray, List.getElem_cons_succ, List.getElem_cons_zero, List.setIfInBounds_toArray, List.set_cons_zero, List.set_cons_succ]
  clear k0 k1 k2 k3
  refine wpAnyH_ready (rs := [7]) (by kernel_rfl) (by simp) ?_
  refine AllReadyH.cons rfl (fun K hK => ?_) AllReadyH.nil
  try go_simp
  refine (P2.out w1 B1.out).mono ?_
  rintro e w2 ⟨rfl, hb2⟩
  have B2 := Lib.hid (B1.out.trans (hb2.mono B1.out.size))
  have k0 := cell_later B2.out a0; have k1 := cell_later B2.out a1; have k2 := cell_later B2.out d0; have k3 := cell_later B2.out d1
  clear hb2
  refine hK.out _ _ ⟨k0, k1, k2, k3⟩ (fun hS => ?_)
  clear hK K
  try simp only [Act.put, List.getElem_toArray, List.getElem_cons_succ, List.getElem_cons_zero, List.setIfInBounds_toArray, List.set_cons_zero, List.set_cons_succ]
  clear k0 k1 k2 k3
  refine wpAnyH_take (i := 8) (v := ?vm8) rfl (by kernel_rfl) (by kernel_rfl) (by kernel_rfl) (fun _ _ _ h => h) (Or.inl ⟨by rfl, ?hym8⟩) hS ?restm8
  case hym8 => (intro w hSw; (try dsimp only at hSw); (first | (go_simp; done) | (go_simp; with_reducible rfl)))
  try simp only [Act.put, List.getElem_toArray, List.getElem_cons_succ, List.getElem_cons_zero, List.setIfInBounds_toArray, List.set_cons_zero, List.set_cons_succ]
  refine wpAnyH_take (i := 9) (v := ?vm9) rfl (by kernel_rfl) (by kernel_rfl) (by kernel_rfl) (fun _ _ _ h => h) (Or.inl ⟨by rfl, ?hym9⟩) hS ?restm9
  case hym9 => (intro w hSw; (try dsimp only at hSw); (first | (go_simp; done) | (go_simp; with_reducible rfl)))
  try simp only [Act.put, List.getElem_toArray, List.getElem_cons_succ, List.getElem_cons_zero, List.setIfInBounds_toArray, List.set_cons_zero, List.set_cons_succ]
  refine wpAnyH_done (by kernel_rfl) ?_ _
  obtain ⟨b3, o3, rfl, hc3⟩ := (I1.out.keep B2.out).at (by omega)
  obtain ⟨b4, o4, rfl, hc4⟩ := (I2.out.keep B2.out).at (by omega)
  have c3 := hc3 k (by omega)
  have c4 := hc4 k (by omega)
  rw [vI_get] at c3 c4
  generalize b1.tm[k]! = t1 at c3 x1 HK
  generalize b2.tm[k]! = t2 at c4 x2 HK
  have HBE := Lib.hid (HB.out.trans (B2.out.mono HB.out.size))
  clear hc3 hc4
  obtain ⟨e0, e1, e3, e4⟩ := hS
  by_cases q1 : z1 + (y1 : Int) < z2 + (y2 : Int) + (t2 : Int)
  · by_cases q2 : z2 + (y2 : Int) < z1 + (y1 : Int) + (t1 : Int)
    · have HK2 := Lib.hid (show meetK b1 b2 z1 z2 k = true by rw [HK.out, decide_eq_true q1, decide_eq_true q2]; rfl)
      go_wp2
      go_ret
      exact ⟨congrArg (fun b => Ending.returned (.bool b)) HK2.out.symm, HBE.out⟩
    · have HK2 := Lib.hid (show meetK b1 b2 z1 z2 k = false by rw [HK.out, decide_eq_false q2, Bool.and_false])
      go_wp2
      go_ret
      exact ⟨congrArg (fun b => Ending.returned (.bool b)) HK2.out.symm, HBE.out⟩
  · have HK2 := Lib.hid (show meetK b1 b2 z1 z2 k = false by rw [HK.out, decide_eq_false q1, Bool.false_and])
    go_wp2
    go_ret
    exact ⟨congrArg (fun b => Ending.returned (.bool b)) HK2.out.symm, HBE.out⟩
end Go.Proofs.YtbidadkcdchomaaDoor
