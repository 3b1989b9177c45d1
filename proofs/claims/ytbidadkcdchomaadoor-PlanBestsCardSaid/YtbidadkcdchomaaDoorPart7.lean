/- Part 7 of the contracts: PFind, PNewR, PLate, PNew, PNewS. -/
import Derived.Deep.RegionHeld3
import Derived.StillTail
import Derived.Deep.AppendLies
import Derived.BigRegion
import Derived.OwnWalk
import Derived.Test.YtbidadkcdchomaaDoorPart6

/- package plan: find. -/
set_option linter.unusedVariables false
set_option linter.unusedSimpArgs false
namespace Go.Proofs.YtbidadkcdchomaaDoor
open Go.RowKit

/-- the variable nowhere holds what the text gives it -/
structure NowM (w : World) : Prop where
  c0 : w.cell? ⟨0, 0, none⟩ = some (.int .i64 (-1))
  c1 : w.cell? ⟨0, 1, none⟩ = some (.int .i64 0)
  c2 : w.cell? ⟨0, 2, none⟩ = some (.int .i64 0)
  c3 : w.cell? ⟨0, 3, none⟩ = some (.int .i64 0)
  c4 : w.cell? ⟨0, 4, none⟩ = some (.int .i64 0)
theorem NowM.keep {w w' : World} (h : NowM w) (hb : Below w.heap.size w w') : NowM w' := ⟨cell_later hb h.c0, cell_later hb h.c1, cell_later hb h.c2, cell_later hb h.c3, cell_later hb h.c4⟩
theorem NowM.grown {w w' : World} {B : Nat} (h : NowM w) (hg : w.grownBy w' (some B)) (hB : B ≠ 0) : NowM w' := by
  have hk : ∀ o v, w.cell? ⟨0, o, none⟩ = some v → w'.cell? ⟨0, o, none⟩ = some v := fun o v hv => hg.cell hv (by simpa using hB.symm)
  exact ⟨hk _ _ h.c0, hk _ _ h.c1, hk _ _ h.c2, hk _ _ h.c3, hk _ _ h.c4⟩
theorem uncons5 {l : List Int} (h : l.length = 5) : ∃ a b c d e, l = [a, b, c, d, e] := by
  match l, h with
  | [a, b, c, d, e], _ => exact ⟨a, b, c, d, e, rfl⟩
def arr5 (l : List Int) : Value := .agg (l.map fun z => Value.int .i64 z).toArray
/-- what find comes to -/
def FindOut (vn : List Nat) (js : List JobN) (os : List Nat) (st : List Int) (C : List Nat) (B : Nat) (W : World) (e : Ending) (w' : World) : Prop :=
  W.grownBy w' (some B) ∧ ((∃ ss st', placeN vn js os C = some ss ∧ SetAt os ss st' ∧ AgreeOut os st st' ∧ e = .returned (arr5 st')) ∨ (placeN vn js os C = none ∧ e = .returned (arr5 [-1, 0, 0, 0, 0])))

set_option maxRecDepth 100000 in
set_option maxHeartbeats 4000000 in
theorem find_any (B : Nat) (va : Option Addr) (vl vc gj jl jc : Nat) (o : Value) (oa : Option Addr) (ol oc : Nat) (vn : List Nat) (js : List JobN) (os : List Nat) (st : List Int) (C : List Nat) (W : World) (h : SrR W B va vl vc gj jl jc o vn js st C) (hN : NowM W) (hB : B ≠ 0)
    (ho : Il W oa ol (vI os)) (hos : ∀ i, i < os.length → os[i]! < jl) (hnd : os.Nodup) (hol : ol ≤ oc) (hoc : oc ≤ 1000) (hjl : jl ≤ 5) (hno : ∀ a, oa = some a → a.block ≠ B) :
    Calls Tryd.prog 25 #[.pointer (some ⟨B, 0, none⟩), .slice oa ol oc] W (FindOut vn js os st C B W) := by
  obtain ⟨V, hV⟩ : ∃ V, V = W.alloc (.cells #[.int .i64 0, .int .i64 0, .int .i64 0, .int .i64 0, .int .i64 0] 45) := ⟨_, rfl⟩
  have HB : Hid (Below W.heap.size W V) := Lib.hid (by rw [hV]; exact box_below W _)
  have R : Hid (V.heap[W.heap.size]? = some (.cells #[.int .i64 0, .int .i64 0, .int .i64 0, .int .i64 0, .int .i64 0] 45 (0, 0))) := Lib.hid (by rw [hV]; exact new_row W _)
  have HBW := Lib.hid (show W.heap.size ≠ B from fun e => by have := h.m.lt; omega)
  have hR := h.keep HB.out
  have m2 := hR.m.head.2.2
  have f2 := hR.m.free 2
  have HR := Lib.hid hR
  have HO := Lib.hid (ho.keep HB.out)
  have HN := Lib.hid (hN.keep HB.out)
  have HV := Lib.hid hV
  clear h hV hR ho hN
  go_enter Tryd.func25, Tryd.ntmps25
  go_upto_region 1 with fail
  rw [← HV.out]
  go_upto_region 2 with fail
  obtain ⟨w1, hw1⟩ : ∃ w1, w1 = V.setCell ⟨B, 2, none⟩ (.slice oa ol oc) := ⟨_, rfl⟩
  have HR1 : Hid (SrR w1 B va vl vc gj jl jc (.slice oa ol oc) vn js st C) := Lib.hid (by rw [hw1]; exact HR.out.write (grownBy_set _ _ _ _) (HR.out.m.setOrder _) HR.out.cl)
  have HG1 : Hid (V.grownBy w1 (some B)) := Lib.hid (by rw [hw1]; exact grownBy_set _ _ _ _)
  have HO1 := Lib.hid (HO.out.grown HG1.out hno)
  rw [← hw1]
  clear hw1 m2 f2
  go_wp2_with fail
  have P := place_any B va vl vc gj jl jc oa ol oc vn js os hos hnd hol hoc hjl hno ol 0 (by omega) st C w1 HR1.out HO1.out
  rw [show ((0 : Nat) : Int) = 0 from rfl] at P
  refine P.mono ?_
  clear P
  rintro e w2 ⟨st2, C2, hR2, hg2, ha2, ⟨ss, hss, rfl, hset⟩ | ⟨hnone, rfl, rfl⟩⟩
  · have HR2 := Lib.hid hR2
    have HG2 := Lib.hid (grownBy_trans HG1.out hg2)
    have HA := Lib.hid ha2
    have HSS := Lib.hid hss
    have HSE := Lib.hid hset
    obtain ⟨z0, z1, z2, z3, z4, h5⟩ := uncons5 hR2.m.ls
    have d0 := hR2.m.start (i := 0) (by omega)
    have d1 := hR2.m.start (i := 1) (by omega)
    have d2 := hR2.m.start (i := 2) (by omega)
    have d3 := hR2.m.start (i := 3) (by omega)
    have d4 := hR2.m.start (i := 4) (by omega)
    rw [h5] at d0 d1 d2 d3 d4
    have e0 : w2.cell? ⟨B, 3, none⟩ = some (.int .i64 z0) := d0
    have e1 : w2.cell? ⟨B, 4, none⟩ = some (.int .i64 z1) := d1
    have e2 : w2.cell? ⟨B, 5, none⟩ = some (.int .i64 z2) := d2
    have e3 : w2.cell? ⟨B, 6, none⟩ = some (.int .i64 z3) := d3
    have e4 : w2.cell? ⟨B, 7, none⟩ = some (.int .i64 z4) := d4
    have R2 := Lib.hid ((HG2.out.block W.heap.size (Array.getElem?_eq_some_iff.1 R.out).1 (by have := HBW.out; simp [this])).trans R.out)
    have r0 := cell_row R2.out 0; have r1 := cell_row R2.out 1; have r2 := cell_row R2.out 2; have r3 := cell_row R2.out 3; have r4 := cell_row R2.out 4
    simp only [List.getElem?_toArray, List.getElem?_cons_zero, List.getElem?_cons_succ] at r0 r1 r2 r3 r4
    have f0 := free_row R2.out 0; have f1 := free_row R2.out 1; have f2 := free_row R2.out 2; have f3 := free_row R2.out 3; have f4 := free_row R2.out 4
    have H5 := Lib.hid h5
    clear hR2 hg2 ha2 hss hset d0 d1 d2 d3 d4 h5
    go_wp2
    refine bodyPost_ret (v := arr5 [z0, z1, z2, z3, z4]) (results_cell_row Tryd.results25 _ _ W.heap.size 45 #[.int .i64 z0, .int .i64 z1, .int .i64 z2, .int .i64 z3, .int .i64 z4] (0, 0) _ rfl (set_five R2.out) Tryd.underlying45 (by kernel_rfl) (by kernel_rfl)) rfl ?_
    refine ⟨?_, .inl ⟨ss, st2, HSS.out, HSE.out, HA.out, by rw [H5.out]⟩⟩
    have hh := grownBy_trans (grownBy_of_below (row := some B) HB.out) HG2.out
    exact ⟨hh.os, hh.tape, hh.output, by simpa using hh.size, fun q hq hne => by
      have hqW : q ≠ W.heap.size := by omega
      rw [Below.heap_setCell _ _ _ _ hqW, Below.heap_setCell _ _ _ _ hqW, Below.heap_setCell _ _ _ _ hqW, Below.heap_setCell _ _ _ _ hqW, Below.heap_setCell _ _ _ _ hqW]
      exact hh.block q hq hne⟩
  · have HR2 := Lib.hid hR2
    have HG2 := Lib.hid (grownBy_trans HG1.out hg2)
    have HNN := Lib.hid hnone
    have HN2 := HN.out.grown HG2.out hB
    have e0 := HN2.c0
    have e1 := HN2.c1
    have e2 := HN2.c2
    have e3 := HN2.c3
    have e4 := HN2.c4
    have R2 := Lib.hid ((HG2.out.block W.heap.size (Array.getElem?_eq_some_iff.1 R.out).1 (by have := HBW.out; simp [this])).trans R.out)
    have r0 := cell_row R2.out 0; have r1 := cell_row R2.out 1; have r2 := cell_row R2.out 2; have r3 := cell_row R2.out 3; have r4 := cell_row R2.out 4
    simp only [List.getElem?_toArray, List.getElem?_cons_zero, List.getElem?_cons_succ] at r0 r1 r2 r3 r4
    have f0 := free_row R2.out 0; have f1 := free_row R2.out 1; have f2 := free_row R2.out 2; have f3 := free_row R2.out 3; have f4 := free_row R2.out 4
    clear hR2 hg2 ha2 hnone HN2
    go_wp2
    refine bodyPost_ret (v := arr5 [-1, 0, 0, 0, 0]) (results_cell_row Tryd.results25 _ _ W.heap.size 45 #[.int .i64 (-1), .int .i64 0, .int .i64 0, .int .i64 0, .int .i64 0] (0, 0) _ rfl (set_five R2.out) Tryd.underlying45 (by kernel_rfl) (by kernel_rfl)) rfl ?_
    refine ⟨?_, .inr ⟨by have := HNN.out; simpa using this, rfl⟩⟩
    have hh := grownBy_trans (grownBy_of_below (row := some B) HB.out) HG2.out
    exact ⟨hh.os, hh.tape, hh.output, by simpa using hh.size, fun q hq hne => by
      have hqW : q ≠ W.heap.size := by omega
      rw [Below.heap_setCell _ _ _ _ hqW, Below.heap_setCell _ _ _ _ hqW, Below.heap_setCell _ _ _ _ hqW, Below.heap_setCell _ _ _ _ hqW, Below.heap_setCell _ _ _ _ hqW]
      exact hh.block q hq hne⟩
end Go.Proofs.YtbidadkcdchomaaDoor

/- newSearch's region 5. (By gen_pnewr.py.) -/
set_option linter.unusedVariables false
set_option linter.unusedSimpArgs false
namespace Go.Proofs.YtbidadkcdchomaaDoor
open Go.RowKit Go.Proofs

def IsD (dd : Nat) (v : Value) (w : World) : Prop := ∃ b : Nat, v = .int .i64 (dd : Int) ∧ b = 0
theorem Stable.isD (base : Nat) (dd : Nat) (v : Value) : Stable base (IsD dd v) := Stable.ex fun _ => (Stable.const base _).and (Stable.const base _)
def IsJ (r en dd : Nat) (v : Value) (w : World) : Prop := ∃ b : Nat, v = .agg #[.int .i64 (r : Int), .int .i64 ((en : Int) - (dd : Int)), .int .u64 0, .int .u64 0, .int .u64 0] ∧ b = 0
theorem Stable.isJ (base : Nat) (r en dd : Nat) (v : Value) : Stable base (IsJ r en dd v) := Stable.ex fun _ => (Stable.const base _).and (Stable.const base _)

def new_regS : Shape where
  f := fun i => match i with | 0 => 22 | 1 => 23 | 2 => 24 | 3 => 25 | 4 => 26 | 5 => 27 | 6 => 28 | 7 => 10 | _ => 0
  kd := fun i => match i with | 7 => .box 70 #[.int .i64 0, .int .i64 0, .int .u64 0, .int .u64 0, .int .u64 0] | 8 => .put 7 6 | _ => .val
  need := fun i => match i with | 1 => [0] | 4 => [3] | 5 => [2, 4] | 6 => [1, 5] | 8 => [7, 6] | _ => []
  st := fun i => match i with | 7 => 8 | _ => 0
  src := fun i => match i with | 7 => 6 | _ => 0

set_option maxRecDepth 4000 in
set_option maxHeartbeats 16000000 in
/-- a job -/
theorem new_reg {Q : Exit → Act → World → Prop} {id : Nat} {a0 : Act} {W : World} {o0 o1 o2 o3 o4 o5 o6 o7 o8 : Oper} (r en dd : Nat) (ta : Option Addr) (tl tc : Nat) (tm : List Nat) (gP : Nat) (ts4 : Array TypeId)
    (hok : new_regS.ok #[o0, o1, o2, o3, o4, o5, o6, o7, o8] a0.tmps.size = true)
    (h0 : o0.op = .fieldAddr 43 (.tmp 9) 0) (h1 : o1.op = .load 3 (.tmp 22)) (h2 : o2.op = .move (.tmp 2)) (h3 : o3.op = .load 43 (.tmp 9)) (h4 : o4.op = .call { callee := .value (.func 36), args := #[.tmp 25], argTypes := ts4 }) (h5 : o5.op = .binOp .sub 3 (.tmp 24) (.tmp 26) 3) (h6 : o6.op = .build 70 #[(0, .tmp 23), (1, .tmp 27)]) (h7 : o7.op = .alloc 70) (h8 : o8.op = .store 70 (.tmp 10) (.tmp 28))
    (hrP : a0.eval (.tmp 9) = .pointer (some ⟨gP, 0, none⟩)) (hgP : gP < W.heap.size) (cP_0 : W.cell? ⟨gP, 0, none⟩ = some (.int .i64 (r : Int))) (cP_1 : W.cell? ⟨gP, 1, none⟩ = some (.slice ta tl tc))
    (hmE : a0.eval (.tmp 2) = .int .i64 (en : Int))
    (ks : Il W ta tl (vI tm)) (kc : ∀ k, k < tm.length → tm[k]! ≤ 30) (kd : tm.length ≤ 3) (kdd : tm.sum = dd) (kw : IntKind.i64.wrap ((en : Int) - (dd : Int)) = (en : Int) - (dd : Int))
    (hend : ∀ w b7 b6 d4, Below W.heap.size W w → W.heap.size ≤ b7 → Box w b7 70 #[.int .i64 (r : Int), .int .i64 ((en : Int) - (dd : Int)), .int .u64 0, .int .u64 0, .int .u64 0] → b6 = (0 : Nat) → 
      Q .normal (puts a0 [(22, .pointer (some ⟨gP, 0, none⟩)), (23, .int .i64 (r : Int)), (24, .int .i64 (en : Int)), (25, .agg #[.int .i64 (r : Int), .slice ta tl tc]), (26, d4), (27, .int .i64 ((en : Int) - (dd : Int))), (28, .agg #[.int .i64 (r : Int), .int .i64 ((en : Int) - (dd : Int)), .int .u64 0, .int .u64 0, .int .u64 0]), (10, .pointer (some ⟨b7, 0, none⟩))]) w) :
    (Code.region id #[o0, o1, o2, o3, o4, o5, o6, o7, o8] true).wp Tryd.prog Q a0 W := by
  refine Shape.region new_regS (fun i v w => (fun (v : Value) => (match i with | 0 => v = .pointer (some ⟨gP, 0, none⟩) | 1 => v = .int .i64 (r : Int) | 2 => v = .int .i64 (en : Int) | 3 => v = .agg #[.int .i64 (r : Int), .slice ta tl tc] | 4 => IsD (dd) v w | 5 => v = .int .i64 ((en : Int) - (dd : Int)) | 6 => IsJ (r) (en) (dd) v w | _ => True : Prop)) (v i)) (by kernel_rfl) hok
    (fun i v v' w _ hj hΦ => by rw [← hj i (.inl rfl)]; exact hΦ) ?stab ?val ?box ?put rfl ?fin
  case stab =>
    intro i v hi
    match i with
    | 0 => exact Stable.const _ _
    | 1 => exact Stable.const _ _
    | 2 => exact Stable.const _ _
    | 3 => exact Stable.const _ _
    | 4 => exact Stable.isD _ _ _
    | 5 => exact Stable.const _ _
    | 6 => exact Stable.isJ _ _ _ _ _
    | 7 => exact Stable.const _ _
    | 8 => exact Stable.const _ _
    | i + 9 => exact Stable.const _ _
  case val =>
    intro i o ho hv a w hA hb hz hn K' hK
    have hw := below_undrew hb
    have erP : a.eval (.tmp 9) = .pointer (some ⟨gP, 0, none⟩) := (hA.eval (show 9 ∉ new_regS.slots 9 by decide)).trans hrP
    have kP_0 := (hb.cell (p := ⟨gP, 0, none⟩) hgP).trans cP_0
    have kP_1 := (hb.cell (p := ⟨gP, 1, none⟩) hgP).trans cP_1
    have emE : a.eval (.tmp 2) = .int .i64 (en : Int) := (hA.eval (show 2 ∉ new_regS.slots 9 by decide)).trans hmE
    match i, ho, hv with
    | 0, ho, _ =>
      have ho' : o0 = o := by simpa using ho
      subst ho'
      refine wp_value (v := .pointer (some ⟨gP, 0, none⟩)) (w' := w) ?_ (hK _ _ (Below.refl _ _) (by simp [updV]))
      unfold execOp
      rw [h0]
      dsimp only
      rw [erP]
      simp [go_sem]
    | 1, ho, _ =>
      have ho' : o1 = o := by simpa using ho
      subst ho'
      have e : a.eval (.tmp 22) = .pointer (some ⟨gP, 0, none⟩) := hn 0 (by simp [new_regS]) rfl
      refine wp_value (v := .int .i64 (r : Int)) (w' := w) ?_ (hK _ _ (Below.refl _ _) (by simp [updV]))
      unfold execOp
      rw [h1]
      dsimp only
      rw [e]
      simp [go_sem, kP_0, kP_1]
    | 2, ho, _ =>
      have ho' : o2 = o := by simpa using ho
      subst ho'
      exact wp_value (run_move h2 a w) (hK _ _ (Below.refl _ _) (by simp [updV, emE]))
    | 3, ho, _ =>
      have ho' : o3 = o := by simpa using ho
      subst ho'
      refine wp_value (v := .agg #[.int .i64 (r : Int), .slice ta tl tc]) (w' := w) ?_ (hK _ _ (Below.refl _ _) (by simp [updV]))
      unfold execOp
      rw [h3]
      dsimp only
      rw [erP]
      simp [go_sem, kP_0, kP_1]
    | 4, ho, _ =>
      have ho' : o4 = o := by simpa using ho
      subst ho'
      have e3 : a.eval (.tmp 25) = .agg #[.int .i64 (r : Int), .slice ta tl tc] := hn 3 (by simp [new_regS]) rfl
      refine wp_call (run_call Tryd.func36 (by kernel_rfl) rfl h4 a w) ?_ (fun v w' hb' hφ => hK v w' hb' (by simpa [updV] using hφ))
      have em : Array.map a.eval #[Operand.tmp 25] = #[a.eval (.tmp 25)] := by first | (simp only [List.map_toArray, List.map_cons, List.map_nil]; done) | (simp only [List.map_toArray, List.map_cons, List.map_nil]; rfl) | rfl
      rw [em, e3]
      exact (duration_any (r : Int) ta tl tc tm w (ks.keep hw) kc kd).mono fun e w' h => ⟨_, h.1, ⟨0, by rw [kdd], rfl⟩, h.2⟩
    | 5, ho, _ =>
      have ho' : o5 = o := by simpa using ho
      subst ho'
      have e2 : a.eval (.tmp 24) = .int .i64 (en : Int) := hn 2 (by simp [new_regS]) rfl
      obtain ⟨b4, e4, x4⟩ : IsD (dd) (a.eval (.tmp 26)) w := hn 4 (by simp [new_regS]) rfl
      refine wp_value (v := .int .i64 ((en : Int) - (dd : Int))) (w' := w) ?_ (hK _ _ (Below.refl _ _) (by simp [updV]))
      unfold execOp
      rw [h5]
      dsimp only
      rw [e2, e4]
      simp [go_sem, kw]
    | 6, ho, _ =>
      have ho' : o6 = o := by simpa using ho
      subst ho'
      have e1 : a.eval (.tmp 23) = .int .i64 (r : Int) := hn 1 (by simp [new_regS]) rfl
      have e5 : a.eval (.tmp 27) = .int .i64 ((en : Int) - (dd : Int)) := hn 5 (by simp [new_regS]) rfl
      refine wp_value (v := .agg #[.int .i64 (r : Int), .int .i64 ((en : Int) - (dd : Int)), .int .u64 0, .int .u64 0, .int .u64 0]) (w' := w) ?_ (hK _ _ (Below.refl _ _) (by simp only [updV, if_true]; exact ⟨0, rfl, rfl⟩))
      unfold execOp
      rw [h6]
      dsimp only
      simp only [List.map_toArray, List.map_cons, List.map_nil, e1, e5]
      simp [go_sem]
    | 7, _, hv => cases hv
    | 8, _, hv => cases hv
    | i + 9, ho, _ => simp at ho
  case box =>
    intro i o T z ho hk a w
    match i, ho, hk with
    | 0, _, hk => cases hk
    | 1, _, hk => cases hk
    | 2, _, hk => cases hk
    | 3, _, hk => cases hk
    | 4, _, hk => cases hk
    | 5, _, hk => cases hk
    | 6, _, hk => cases hk
    | 7, ho, hk =>
      have ho' : o7 = o := by simpa using ho
      subst ho'; cases hk; unfold execOp; rw [h7]; simp [go_sem]
    | 8, _, hk => cases hk
    | i + 9, ho, _ => simp at ho
  case put =>
    intro i o p' s' T z ho hk hp a w b hva hφ hbx
    match i, ho, hk with
    | 0, _, hk => cases hk
    | 1, _, hk => cases hk
    | 2, _, hk => cases hk
    | 3, _, hk => cases hk
    | 4, _, hk => cases hk
    | 5, _, hk => cases hk
    | 6, _, hk => cases hk
    | 7, _, hk => cases hk
    | 8, ho, hk =>
      have ho' : o8 = o := by simpa using ho
      subst ho'; cases hk; cases hp
      obtain ⟨b6, e6, x6⟩ := hφ
      have q1 : a.eval (.tmp 28) = .agg #[.int .i64 (r : Int), .int .i64 ((en : Int) - (dd : Int)), .int .u64 0, .int .u64 0, .int .u64 0] := e6
      have q2 : a.eval (.tmp 10) = .pointer (some ⟨b, 0, none⟩) := hva
      have u0 := hbx.cell 0
      have f0 := hbx.frozen 0
      have u1 := hbx.cell 1
      have f1 := hbx.frozen 1
      have u2 := hbx.cell 2
      have f2 := hbx.frozen 2
      have u3 := hbx.cell 3
      have f3 := hbx.frozen 3
      have u4 := hbx.cell 4
      have f4 := hbx.frozen 4
      refine ⟨[.int .i64 (r : Int), .int .i64 ((en : Int) - (dd : Int)), .int .u64 0, .int .u64 0, .int .u64 0], e6, rfl, by simp [isInt], ?_⟩
      unfold execOp; rw [h8]
      dsimp only
      rw [q1, q2]
      simp [go_sem, u0, f0, u1, f1, u2, f2, u3, f3, u4, f4, setFrom]
    | i + 9, ho, _ => simp at ho
  case fin =>
    intro a w blk hI
    have n8 : (#[o0, o1, o2, o3, o4, o5, o6, o7, o8] : Array Oper).size = 9 := rfl
    rw [n8] at hI
    have hf := hI.agree.form
    have e0 : a.eval (.tmp 22) = .pointer (some ⟨gP, 0, none⟩) := hI.vals 0 (by decide) (by decide) rfl
    have e1 : a.eval (.tmp 23) = .int .i64 (r : Int) := hI.vals 1 (by decide) (by decide) rfl
    have e2 : a.eval (.tmp 24) = .int .i64 (en : Int) := hI.vals 2 (by decide) (by decide) rfl
    have e3 : a.eval (.tmp 25) = .agg #[.int .i64 (r : Int), .slice ta tl tc] := hI.vals 3 (by decide) (by decide) rfl
    have e5 : a.eval (.tmp 27) = .int .i64 ((en : Int) - (dd : Int)) := hI.vals 5 (by decide) (by decide) rfl
    obtain ⟨b6, e6, x6⟩ : IsJ (r) (en) (dd) (a.eval (.tmp 28)) w := hI.vals 6 (by decide) (by decide) rfl
    obtain ⟨p7, r7, _, k7⟩ := hI.boxes 7 70 #[.int .i64 0, .int .i64 0, .int .u64 0, .int .u64 0, .int .u64 0] (by decide) (by decide) rfl
    obtain ⟨us7, i7, _, _, j7⟩ := k7 (show (8 : Nat) < 9 by decide)
    have y_7 : a.eval (.tmp 28) = .agg us7.toArray := i7
    rw [e6] at y_7
    cases y_7
    have e7 : a.eval (.tmp 10) = .pointer (some ⟨blk 7, 0, none⟩) := p7
    have hsl : new_regS.slots 9 = [22, 23, 24, 25, 26, 27, 28, 10] := rfl
    rw [hsl] at hf
    simp only [List.map_cons, List.map_nil, e0, e1, e2, e3, e5, e6, e7] at hf
    rw [hf]
    exact hend w (blk 7) b6 _ (below_undrew hI.below) r7 j7 x6
end Go.Proofs.YtbidadkcdchomaaDoor

/- Regions that draw their order and end with a store to a cell that they load: what the region holds is asked behind each operation but that store. -/
set_option linter.unusedVariables false
namespace Go.Proofs.YtbidadkcdchomaaDoor
open Go

/-- whatever order is picked; S holds behind every operation but number t -/
def wpAnyT (P : Program) (md : Region.Mode) (ops : Array Oper) (Q : Exit → Act → World → Prop) (S : World → Prop) (t : Nat) : Nat → Array Bool → Act → World → Prop
  | 0, listed, a, w => Region.ready md ops listed = [] ∧ Q .normal a w
  | fuel + 1, listed, a, w => (Region.ready md ops listed = [] → Q .normal a w) ∧ ∀ i ∈ Region.ready md ops listed, wpOp P ops Q i (fun a' w' => (i ≠ t → S w') ∧ wpAnyT P md ops Q S t fuel (listed.setIfInBounds i true) a' w') a w
theorem wpAny_of_T {P : Program} {md : Region.Mode} {ops : Array Oper} {Q : Exit → Act → World → Prop} {S : World → Prop} {t : Nat} : ∀ (fuel : Nat) (listed : Array Bool) (a : Act) (w : World), wpAnyT P md ops Q S t fuel listed a w → wpAny P md ops Q fuel listed a w
  | 0, _, _, _, h => h
  | fuel + 1, _, _, _, h => ⟨h.1, fun i hi => wpOp_mono (fun _ _ k => wpAny_of_T fuel _ _ _ k.2) (h.2 i hi)⟩

/-- an operation that yields v wherever S holds, and for which number t waits, may be taken first -/
theorem wpAnyT_first {P : Program} {md : Region.Mode} {ops : Array Oper} {Q : Exit → Act → World → Prop} {S : World → Prop} {t i : Nat} {oi : Oper} {v : Value} (hi : ops[i]? = some oi) (hsel : ∀ (j : Nat) (o : Oper) cs b, ops[j]? = some o → o.op ≠ .select cs b)
    (hQ : ∀ c a w, Q (.panic c) (a.put oi.dst v) w → Q (.panic c) a w) (ht : Region.waitsFor md ops t i = true) :
    ∀ (fuel : Nat) (listed : Array Bool) (a : Act) (w : World), (∀ j oj, ops[j]? = some oj → j ≠ i → listed.getD j true = false → (∀ e ∈ oj.after, Region.binds md e = true → e.on ≠ i) → oi.apart ops oj = true) →
      i ∈ Region.ready md ops listed → YieldsIf P ops S oi v a → S w → wpAnyT P md ops Q S t fuel (listed.setIfInBounds i true) (a.put oi.dst v) w → wpAnyT P md ops Q S t (fuel + 1) listed a w := by
  obtain ⟨ot, hot, et, het, hbt, hont⟩ := Region.waitsFor_spec ht
  intro fuel
  induction fuel with
  | zero =>
    intro listed a w hap hr hy hS h
    refine ⟨fun k => absurd hr (by rw [k]; simp), fun j hj => ?_⟩
    have e : j = i := Classical.byContradiction fun k => by
      have := ready_mono hj k
      rw [h.1] at this
      simp at this
    subst e
    exact hy.wpOp hi hS ⟨fun _ => hS, h⟩
  | succ fuel ih =>
    intro listed a w hap hr hy hS h
    refine ⟨fun k => absurd hr (by rw [k]; simp), fun j hj => ?_⟩
    by_cases e : j = i
    · subst e
      exact hy.wpOp hi hS ⟨fun _ => hS, h⟩
    · obtain ⟨hun, oj, hoj, hafter⟩ := mem_ready.1 hj
      have hiun : listed.getD i false = false := getD_both (mem_ready.1 hr).1
      have hno : ∀ e ∈ oj.after, Region.binds md e = true → e.on ≠ i := fun e he hb k => by
        have := hafter e he hb
        rw [k, hiun] at this
        cases this
      have hjt : j ≠ t := fun k => by
        subst k
        have e2 : ot = oj := Option.some.inj (hot.symm.trans hoj)
        subst e2
        exact hno et het hbt hont
      refine wpOp_mono (fun a' w' k => ⟨fun _ => k.2.1 hjt, ih _ a' w' (fun m om hm hmi hmu hmn => hap m om hm hmi ?_ hmn) (ready_mono hr (Ne.symm e)) k.1 (k.2.1 hjt) (by rw [Array.setIfInBounds_comm _ _ e]; exact k.2.2)⟩)
        (wpOp_putIf hoj (hap j oj hoj e hun hno) (fun cs b => hsel i oi cs b hi) (fun cs b => hsel j oj cs b hoj) hQ hy (h.2 j (ready_mono hj e)))
      by_cases q : j = m
      · subst q; exact hun
      · rwa [getD_set_ne true q] at hmu
theorem wpAnyT_take {P : Program} {md : Region.Mode} {ops : Array Oper} {Q : Exit → Act → World → Prop} {S : World → Prop} {t i : Nat} {oi : Oper} {v : Value} {fuel : Nat} {listed : Array Bool} {a : Act} {w : World} (hi : ops[i]? = some oi)
    (hs : Region.noSelect ops = true) (hf : Region.free md ops listed i = true) (hr : (Region.ready md ops listed).contains i = true) (ht : Region.waitsFor md ops t i = true) (hQ : ∀ c a w, Q (.panic c) (a.put oi.dst v) w → Q (.panic c) a w)
    (hy : YieldsIf P ops S oi v a) (hS : S w) (h : wpAnyT P md ops Q S t fuel (listed.setIfInBounds i true) (a.put oi.dst v) w) : wpAnyT P md ops Q S t (fuel + 1) listed a w :=
  wpAnyT_first hi (Region.noSelect_spec hs) hQ ht fuel listed a w (Region.free_spec hi hf) (by simpa using hr) hy hS h
/-- the one operation that may come up -/
theorem wpAnyT_step {P : Program} {md : Region.Mode} {ops : Array Oper} {Q : Exit → Act → World → Prop} {S : World → Prop} {t : Nat} (i : Nat) {o : Oper} {fuel : Nat} {listed : Array Bool} {a : Act} {w : World} (ho : ops[i]? = some o) (hr : Region.ready md ops listed = [i]) (hne : i ≠ t)
    (h : ∀ K : Act → World → Prop, Shut (∀ a w, S w → (S w → wpAnyT P md ops Q S t fuel (listed.setIfInBounds i true) a w) → K a w) → if Region.wanted o (yielded ops a.tmps) = true then Oper.wp P o a w K Q else K (a.put o.dst undef) w) : wpAnyT P md ops Q S t (fuel + 1) listed a w :=
  ⟨fun k => absurd k (by rw [hr]; simp), fun j hj => by
    rw [hr] at hj
    obtain rfl := List.mem_singleton.1 hj
    exact wpOp_step ho (fun K hK => h K (fun a w hS hW => hK a w ⟨fun _ => hS, hW hS⟩))⟩
/-- the last one -/
theorem wpAnyT_last {P : Program} {md : Region.Mode} {ops : Array Oper} {Q : Exit → Act → World → Prop} {S : World → Prop} {t : Nat} {o : Oper} {fuel : Nat} {listed : Array Bool} {a : Act} {w : World} (ho : ops[t]? = some o) (hr : Region.ready md ops listed = [t]) (hend : Region.ready md ops (listed.setIfInBounds t true) = [])
    (h : ∀ K : Act → World → Prop, Shut (∀ a w, Q .normal a w → K a w) → if Region.wanted o (yielded ops a.tmps) = true then Oper.wp P o a w K Q else K (a.put o.dst undef) w) : wpAnyT P md ops Q S t (fuel + 1) listed a w :=
  ⟨fun k => absurd k (by rw [hr]; simp), fun j hj => by
    rw [hr] at hj
    obtain rfl := List.mem_singleton.1 hj
    exact wpOp_step ho (fun K hK => h K (fun a w hq => hK a w ⟨fun k => absurd rfl k, by cases fuel with | zero => exact ⟨hend, hq⟩ | succ f => exact ⟨fun _ => hq, fun i hi => by rw [hend] at hi; simp at hi⟩⟩))⟩
theorem wp_region_late {P : Program} {ops : Array Oper} {Q : Exit → Act → World → Prop} {S : World → Prop} (t : Nat) {id : Nat} {a : Act} {w : World} (hm : P.follows .mixedOrders = true) (hS : S w.drew) (h : S w.drew → wpAnyT P .any ops Q S t ops.size (Array.replicate ops.size false) a w.drew) : (Code.region id ops true).wp P Q a w :=
  wp_region_any hm (wpAny_of_T _ _ _ _ (h hS))
end Go.Proofs.YtbidadkcdchomaaDoor

/- package plan: newSearch. (By gen_pnew.py.) -/
set_option linter.unusedVariables false
set_option linter.unusedSimpArgs false
namespace Go.Proofs.YtbidadkcdchomaaDoor
open Go.RowKit

def jobC (j : JobN) : List Value := [.int .i64 j.fst, .int .i64 j.lst, .int .u64 ((j.ms 0 : Nat) : Int), .int .u64 ((j.ms 1 : Nat) : Int), .int .u64 ((j.ms 2 : Nat) : Int)]
def flatJ (l : List JobN) : List Value := l.flatMap jobC
theorem flatJ_get : ∀ (l : List JobN) (i c : Nat), c < 5 → (flatJ l)[i * 5 + c]? = (l[i]?).bind fun x => (jobC x)[c]?
  | [], i, c, _ => by simp [flatJ]
  | x :: l, 0, c, hc => by
    unfold flatJ
    rw [List.flatMap_cons, Nat.zero_mul, Nat.zero_add, List.getElem?_append_left (by exact hc)]
    rfl
  | x :: l, i + 1, c, hc => by
    have := flatJ_get l i c hc
    unfold flatJ at *
    rw [List.flatMap_cons, List.getElem?_append_right (by show 5 ≤ _; omega), List.getElem?_cons_succ, ← this]
    congr 1
    show (i + 1) * 5 + c - 5 = _
    omega
theorem flatJ_app (l k : List JobN) : flatJ (l ++ k) = flatJ l ++ flatJ k := by unfold flatJ; simp
theorem SrM.setJobs {w : World} {B : Nat} {v j o : Value} {st : List Int} {C : List Nat} (h : SrM w B v j o st C) (j' : Value) : SrM (w.setCell ⟨B, 1, none⟩ j') B v j' o st C := by
  refine ⟨?_, h.ls, h.lc⟩
  rw [set_cell_row h.row]
  rfl
/-- the stays of a batch that starts at 0, in natural numbers -/
theorem stay_stg (b : BN) (k : Nat) : stayZ 0 b.tm (k * 2) = (((stgN b k).1 : Nat) : Int) ∧ stayZ 0 b.tm (k * 2 + 1) = (((stgN b k).2 : Nat) : Int) := by
  unfold stayZ stgN begN
  rw [show k * 2 / 2 = k by omega, show (k * 2 + 1) / 2 = k by omega, show k * 2 % 2 = 0 by omega, show (k * 2 + 1) % 2 = 1 by omega]
  by_cases h : k < b.tm.length
  · rw [if_pos h, if_pos h, if_pos h]; simp
  · rw [if_neg h, if_neg h, if_neg h]; simp
theorem stg_le (b : BN) (k : Nat) (h : durN b ≤ 90) : (stgN b k).1 ≤ (stgN b k).2 ∧ (stgN b k).2 ≤ 90 := by
  unfold stgN
  split
  · have := beg_le b k
    have := beg_dur b (k + 1)
    exact ⟨by assumption, by show begN b (k + 1) ≤ 90; omega⟩
  · exact ⟨Nat.le_refl _, Nat.zero_le _⟩
def jobP (r : Nat) (l : Int) (b : BN) (k : Nat) : Array Value := #[.int .i64 (r : Int), .int .i64 l, .int .u64 (((if 0 < k then jobN b 0 else 0 : Nat)) : Int), .int .u64 (((if 1 < k then jobN b 1 else 0 : Nat)) : Int), .int .u64 (((if 2 < k then jobN b 2 else 0 : Nat)) : Int)]

theorem pow_min (y : Nat) : (2 ^ min y 64) % 2 ^ 64 = 2 ^ y % 2 ^ 64 := by
  by_cases h : y ≤ 64
  · rw [Nat.min_eq_left h]
  · rw [Nat.min_eq_right (by omega), Nat.mod_self]
    exact (Nat.mod_eq_zero_of_dvd (Nat.pow_dvd_pow 2 (by omega))).symm
theorem u64_emod (z : Int) : IntKind.u64.wrap z = z % 18446744073709551616 := by
  simp [IntKind.wrap, IntKind.bits, IntKind.signed]
theorem msk_spell (x y : Nat) : IntKind.u64.wrap (IntKind.u64.wrap (2 ^ min y 64) - IntKind.u64.wrap (2 ^ min x 64)) = ((mskN x y : Nat) : Int) := by
  have e : ∀ n : Nat, IntKind.u64.wrap (2 ^ min n 64) = ((2 ^ n % 2 ^ 64 : Nat) : Int) := fun n => by
    have : (2 : Int) ^ min n 64 = ((2 ^ min n 64 : Nat) : Int) := by simp
    rw [this, u64_wrap, pow_min]
  rw [e, e, u64_emod]
  unfold mskN
  have h1 : 2 ^ y % 2 ^ 64 < 2 ^ 64 := Nat.mod_lt _ (by decide)
  have h2 : 2 ^ x % 2 ^ 64 < 2 ^ 64 := Nat.mod_lt _ (by decide)
  generalize 2 ^ y % 2 ^ 64 = p at *
  generalize 2 ^ x % 2 ^ 64 = q at *
  omega
theorem below_store {B b : Nat} {a w : World} (h : Below B a w) (i : Nat) (v : Value) (hs : B ≤ w.heap.size) (hB : B ≤ b) : Below B a (w.setCell ⟨b, i, none⟩ v).drew :=
  below_grown h (grownBy_trans (grownBy_set w b i v) (grownBy_drewN _ 1 _)) hs hB
theorem jobP_set (r : Nat) (l : Int) (b : BN) (k : Nat) (hk : k < 3) : (jobP r l b k).setIfInBounds (2 + k) (.int .u64 ((jobN b k : Nat) : Int)) = jobP r l b (k + 1) := by
  have : k = 0 ∨ k = 1 ∨ k = 2 := by omega
  rcases this with rfl | rfl | rfl <;> simp [jobP]

theorem ownsRow_keep {w w' : World} {base : Nat} {e : TypeId} {size : Nat} {v : Value} {n : Nat} {xs : List Value} (h : w.ownsRow base e size v n xs) (hb : Below w.heap.size w w') : w'.ownsRow base e size v n xs := by
  refine ⟨h.1, ?_⟩
  rcases h.2 with h2 | ⟨g', cap', cur, h3, h4, h5, h6⟩
  · exact .inl h2
  · exact .inr ⟨g', cap', cur, h3, h4, row_keep hb h5, h6⟩
theorem ownsRow_in {w : World} {base : Nat} {e : TypeId} {size : Nat} {v : Value} {n : Nat} {xs : List Value} (h : w.ownsRow base e size v n xs) {g : Nat} (hg : v.ownBlock = some g) : base ≤ g ∧ g < w.heap.size := by
  rcases h.2 with ⟨h2, _⟩ | ⟨g', cap', cur, h3, h4, h5, h6⟩
  · rw [h2] at hg; cases hg
  · rw [h3] at hg; cases hg
    exact ⟨h4, (Array.getElem?_eq_some_iff.1 h5).1⟩
theorem ownsRow_cap {w : World} {base : Nat} {e : TypeId} {size : Nat} {a : Addr} {c : Nat} {n : Nat} {xs : List Value} (h : w.ownsRow base e size (.slice (some a) n c) n xs) : n ≤ c ∧ c ≤ maxLen := by
  rcases h.2 with ⟨h2, _⟩ | ⟨g', cap', cur, h3, h4, h5, h6, h7, _⟩
  · cases h2
  · cases h3; exact ⟨h6, h7⟩
theorem add_off (g o j : Nat) : ((⟨g, o, none⟩ : Addr).add j) = ⟨g, o + j, none⟩ := by unfold Addr.add; split <;> simp_all
theorem infoJ : (Tryd.prog.info? 70).map (fun i => (i.zero, i.size, i.bytes)) = some (some (.agg #[.int .i64 0, .int .i64 0, .int .u64 0, .int .u64 0, .int .u64 0]), 5, 40) := by kernel_rfl
theorem jobC_len (j : JobN) : (jobC j).length = 5 := rfl
theorem jobC_one (j : JobN) : ∀ u ∈ jobC j, u.oneCell' = true := by
  intro u hu
  unfold jobC at hu
  simp only [List.mem_cons, List.not_mem_nil, or_false] at hu
  rcases hu with rfl | rfl | rfl | rfl | rfl <;> rfl
theorem step_appJ {w : World} {ops : Array Oper} {o : Oper} {a : Act} {K : Act → World → Prop} {Q : Exit → Act → World → Prop} {E : Prop} (hgd : o.guard = none) (s x : Operand)
    (ho : o.op = .call { callee := .builtin .append, args := #[s, x], argTypes := #[62, 62] }) (base : Nat) (lo : Option Addr) (lc n : Nat) (ms : List JobN) (z : JobN) (H : Nat) (t : TypeId) (hH : w.heap[H]? = some (.cells (jobC z).toArray t (0, 0))) (hs : a.eval s = .slice lo n lc) (hown : w.ownsRow base 70 5 (.slice lo n lc) n (flatJ ms))
    (hx : a.eval x = .slice (some ⟨H, 0, none⟩) 1 1) (hn : n ≤ 1000) (hbase : base ≤ w.heap.size)
    (h : ∀ g' cap' w', w'.ownsRow base 70 5 (.slice (some ⟨g', 0, none⟩) (n + 1) cap') (n + 1) (flatJ (ms ++ [z])) → w.grownBy w' (Value.slice lo n lc).ownBlock → ((Value.slice lo n lc).ownBlock = some g' ∨ g' = w.heap.size) → g' < w'.heap.size → K (a.put o.dst (.slice (some ⟨g', 0, none⟩) (n + 1) cap')) w') :
    if Region.wanted o (yielded ops a.tmps) = true then Oper.wp Tryd.prog o a w K Q else E := by
  obtain ⟨i0, hi, hz0, hz1, hz2⟩ := info_parts infoJ
  refine step_append_lies _ hgd s x 62 ho base 70 i0 _ 5 40 Tryd.underlying62 hi hz0 hz1 hz2 rfl (by decide) _ n (flatJ ms) hs hown ⟨H, 0, none⟩ 1 1 (jobC z) hx (by rw [jobC_len]) ?_ (jobC_one z) (by omega) (by unfold maxLen; omega) (by omega) hbase _ rfl ?_
  · intro j u hj
    rw [add_off, Nat.zero_add]
    simp only [World.cell?]
    rw [hH]
    simpa using hj
  · intro g' cap' w' hr hg hl hlt
    exact h g' cap' w' (by rw [flatJ_app]; simpa [flatJ] using hr) hg hl hlt
theorem SrM.grown {w w' : World} {B : Nat} {v j o : Value} {st : List Int} {C : List Nat} {r : Option Nat} (h : SrM w B v j o st C) (hg : w.grownBy w' r) (hr : some B ≠ r) : SrM w' B v j o st C := ⟨(hg.block B h.lt hr).trans h.row, h.ls, h.lc⟩

theorem jobP_full (r : Nat) (l : Int) (b : BN) : jobP r l b 3 = #[.int .i64 (r : Int), .int .i64 l, .int .u64 ((jobN b 0 : Nat) : Int), .int .u64 ((jobN b 1 : Nat) : Int), .int .u64 ((jobN b 2 : Nat) : Int)] := by
  unfold jobP
  simp
theorem jobC_of (en : Nat) (b : BN) : (jobC (jobOf en b)).toArray = #[.int .i64 (b.rdy : Int), .int .i64 ((en : Int) - (durN b : Int)), .int .u64 ((jobN b 0 : Nat) : Int), .int .u64 ((jobN b 1 : Nat) : Int), .int .u64 ((jobN b 2 : Nat) : Int)] := by
  unfold jobC jobOf
  simp
theorem five_cells {w : World} {g T : Nat} {a b c d e : Value} (h : Box w g T #[a, b, c, d, e]) : w.cell? ⟨g, 0, none⟩ = some a ∧ w.cell? ⟨g, 1, none⟩ = some b ∧ w.cell? ⟨g, 2, none⟩ = some c ∧ w.cell? ⟨g, 3, none⟩ = some d ∧ w.cell? ⟨g, 4, none⟩ = some e := ⟨h.cell 0, h.cell 1, h.cell 2, h.cell 3, h.cell 4⟩

set_option maxRecDepth 100000 in
set_option maxHeartbeats 16000000 in
theorem new_any (va : Option Addr) (vl vc : Nat) (ba : Option Addr) (bl bc en : Nat) (vn : List Nat) (bn : List BN) (W : World) (hv : Il W va vl (vI vn)) (hb : Bats W ba bl (bn.map bI)) (hT : TaskN vn bn) (hen : en ≤ 30) :
    Calls Tryd.prog 24 #[.slice va vl vc, .slice ba bl bc, .int .i64 (en : Int)] W fun e w' => e = .returned (.pointer (some ⟨W.heap.size, 0, none⟩)) ∧ Below W.heap.size W w' ∧ ∃ ja jc, bl ≤ jc ∧ jc ≤ maxLen ∧ SrM w' W.heap.size (.slice va vl vc) (.slice ja bl jc) (.slice none 0 0) [0, 0, 0, 0, 0] (List.replicate 24 0) ∧ w'.ownsRow (W.heap.size + 1) 70 5 (.slice ja bl jc) bl (flatJ (bn.map (jobOf en))) := by
  obtain ⟨V, hV⟩ : ∃ V, V = W.alloc (.cells #[.slice va vl vc, .slice none 0 0, .slice none 0 0, .int .i64 0, .int .i64 0, .int .i64 0, .int .i64 0, .int .i64 0, .int .u64 0, .int .u64 0, .int .u64 0, .int .u64 0, .int .u64 0, .int .u64 0, .int .u64 0, .int .u64 0, .int .u64 0, .int .u64 0, .int .u64 0, .int .u64 0, .int .u64 0, .int .u64 0, .int .u64 0, .int .u64 0, .int .u64 0, .int .u64 0, .int .u64 0, .int .u64 0, .int .u64 0, .int .u64 0, .int .u64 0, .int .u64 0] 67) := ⟨_, rfl⟩
  have HB : Hid (Below W.heap.size W V) := Lib.hid (by rw [hV]; exact box_below W _)
  have HM : Hid (SrM V W.heap.size (.slice va vl vc) (.slice none 0 0) (.slice none 0 0) [0, 0, 0, 0, 0] (List.replicate 24 0)) := Lib.hid ⟨by rw [hV]; exact new_row W _, rfl, rfl⟩
  have HZ : Hid (V.heap.size = W.heap.size + 1) := Lib.hid (by rw [hV, size_alloc])
  have hlb : bn.length = bl := by have := hb.1; simpa using this
  have HLB := Lib.hid hlb
  have HBB := Lib.hid hb
  have HTT := Lib.hid hT
  have HV := Lib.hid hV
  have hb5 : bl ≤ 5 := by have := hT.few; omega
  clear hV hb hT hlb hv
  go_enter Tryd.func24, Tryd.ntmps24
  go_upto_region 2 with fail
  rw [← HV.out]
  go_wp2
  go_loopg [18] bl (fun gg s18 wr => ∃ (i : Nat) (ja : Option Addr) (jc : Nat), s18 = .int .i64 (i : Int) ∧ i ≤ bl ∧ bl - i ≤ gg ∧ i ≤ jc ∧ jc ≤ maxLen ∧ Hid (SrM wr W.heap.size (.slice va vl vc) (.slice ja i jc) (.slice none 0 0) [0, 0, 0, 0, 0] (List.replicate 24 0)) ∧ Hid (wr.ownsRow (W.heap.size + 1) 70 5 (.slice ja i jc) i (flatJ ((bn.map (jobOf en)).take i))) ∧ Hid (Below W.heap.size W wr))
  case atStart => exact ⟨0, none, 0, rfl, Nat.zero_le _, by omega, Nat.le_refl _, Nat.zero_le _, HM, Lib.hid (World.ownsRow_nil _ _ _ _), HB⟩
  case round =>
    obtain ⟨i, ja, jc, rfl, hi, hgg, hjc, hjm, HMr, HJ, HWr⟩ := hrel
    by_cases h1 : i < bl
    · have u0 : (0 : Int) ≤ (i : Int) := by omega
      have u1 : (i : Int) < (bl : Int) := by omega
      have hib : i < bn.length := by rw [HLB.out]; exact h1
      obtain ⟨gB, ob, ta, tl, tc, hgB, hx⟩ := (HBB.out.keep HWr.out).at h1
      rw [bI_at hib] at hx
      obtain ⟨b, hbe⟩ : ∃ b, b = bn[i]! := ⟨_, rfl⟩
      rw [← hbe] at hx
      have c0 : wr.cell? ⟨gB, ob + i * 2, none⟩ = some (.int .i64 (b.rdy : Int)) := hx.c0
      have c1 := hx.c1
      have hrd : b.rdy ≤ 30 := by rw [hbe]; exact HTT.out.rdy i hib
      have hlt : b.tm.length = vn.length := by rw [hbe]; exact HTT.out.len i hib
      have hl3 : b.tm.length ≤ 3 := by have := HTT.out.house.few; omega
      have HMt : Hid (∀ q, q < b.tm.length → b.tm[q]! ≤ 30) := Lib.hid (fun q hq => by rw [hbe] at hq ⊢; exact (HTT.out.tm i hib q (by rw [← HTT.out.len i hib]; exact hq)).2)
      have hdur : durN b ≤ 90 := by rw [hbe]; exact HTT.out.dur hib
      have HBE := Lib.hid hbe
      obtain ⟨dd, hdd⟩ : ∃ d, d = durN b := ⟨_, rfl⟩
      have HDD := Lib.hid hdd
      rw [← hdd] at hdur
      obtain ⟨wx, hwx⟩ : ∃ wx, wx = wr.alloc (.cells #[.int .i64 (b.rdy : Int), .slice ta tl tc] 43) := ⟨_, rfl⟩
      have HBx : Hid (Below wr.heap.size wr wx) := Lib.hid (by rw [hwx]; exact box_below wr _)
      have RX : Hid (wx.heap[wr.heap.size]? = some (.cells #[.int .i64 (b.rdy : Int), .slice ta tl tc] 43 (0, 0))) := Lib.hid (by rw [hwx]; exact new_row wr _)
      have HWX := Lib.hid hwx
      have IL := Lib.hid (hx.il.keep HBx.out)
      have kw : IntKind.i64.wrap ((en : Int) - (dd : Int)) = (en : Int) - (dd : Int) := IntWalk.i64_in _ (by omega)
      have KW := Lib.hid kw
      subst hgB
      clear hwx hx hbe hlt hdd kw hib
      go_upto_region 5 with fail
      rw [← HWX.out]
      clear c0 c1
      have pb0 := cell_row RX.out 0
      have pb1 := cell_row RX.out 1
      simp only [List.getElem?_toArray, List.getElem?_cons_zero, List.getElem?_cons_succ] at pb0 pb1
      refine new_reg b.rdy en dd ta tl tc b.tm wr.heap.size _ (by kernel_rfl) rfl rfl rfl rfl rfl rfl rfl rfl rfl rfl (block_lt_of_cell pb0) pb0 pb1 rfl IL.out HMt.out hl3 HDD.out.symm KW.out ?_
      intro w1 bj b6 d4 hw1 hbj hBox hb6
      have HW1 := Lib.hid hw1
      have HBX := Lib.hid hBox
      have q0 := cell_later hw1 pb0
      have q1 := cell_later hw1 pb1
      have HS := Lib.hid (stays_any (b.rdy : Int) 0 ta tl tc b.tm w1 (IL.out.keep hw1) HMt.out hl3 (by omega) (by have : b.tm.sum = dd := HDD.out.symm; omega))
      have HQ0 := Lib.hid q0
      have HQ1 := Lib.hid q1
      clear hw1 hBox hb6 pb0 pb1
      obtain ⟨x0, hx0⟩ : ∃ x, x = (stgN b 0).1 := ⟨_, rfl⟩
      obtain ⟨y0, hy0⟩ : ∃ x, x = (stgN b 0).2 := ⟨_, rfl⟩
      have e0 : stayZ 0 b.tm 0 = (x0 : Int) := by rw [hx0]; exact (stay_stg b 0).1
      have e1 : stayZ 0 b.tm 1 = (y0 : Int) := by rw [hy0]; exact (stay_stg b 0).2
      have hb0 : x0 ≤ y0 ∧ y0 ≤ 90 := by rw [hx0, hy0]; exact stg_le b 0 (by rw [← HDD.out]; exact hdur)
      have X0 := Lib.hid hx0
      have Y0 := Lib.hid hy0
      have E0 := Lib.hid e0
      have E1 := Lib.hid e1
      obtain ⟨x1, hx1⟩ : ∃ x, x = (stgN b 1).1 := ⟨_, rfl⟩
      obtain ⟨y1, hy1⟩ : ∃ x, x = (stgN b 1).2 := ⟨_, rfl⟩
      have e2 : stayZ 0 b.tm 2 = (x1 : Int) := by rw [hx1]; exact (stay_stg b 1).1
      have e3 : stayZ 0 b.tm 3 = (y1 : Int) := by rw [hy1]; exact (stay_stg b 1).2
      have hb1 : x1 ≤ y1 ∧ y1 ≤ 90 := by rw [hx1, hy1]; exact stg_le b 1 (by rw [← HDD.out]; exact hdur)
      have X1 := Lib.hid hx1
      have Y1 := Lib.hid hy1
      have E2 := Lib.hid e2
      have E3 := Lib.hid e3
      obtain ⟨x2, hx2⟩ : ∃ x, x = (stgN b 2).1 := ⟨_, rfl⟩
      obtain ⟨y2, hy2⟩ : ∃ x, x = (stgN b 2).2 := ⟨_, rfl⟩
      have e4 : stayZ 0 b.tm 4 = (x2 : Int) := by rw [hx2]; exact (stay_stg b 2).1
      have e5 : stayZ 0 b.tm 5 = (y2 : Int) := by rw [hy2]; exact (stay_stg b 2).2
      have hb2 : x2 ≤ y2 ∧ y2 ≤ 90 := by rw [hx2, hy2]; exact stg_le b 2 (by rw [← HDD.out]; exact hdur)
      have X2 := Lib.hid hx2
      have Y2 := Lib.hid hy2
      have E4 := Lib.hid e4
      have E5 := Lib.hid e5
      clear hx0 hy0 e0 e1 hx1 hy1 e2 e3 hx2 hy2 e4 e5
      simp only [puts, Act.put]
      go_wp2_with (go_at_call 37; refine HS.out.mono ?_; unfold OutSt stayV; rw [E0.out, E1.out, E2.out, E3.out, E4.out, E5.out]; rintro e w2 ⟨rfl, hb2⟩; have HB2 := Lib.hid hb2; clear hb2)
      have HBX2 := Lib.hid (HBX.out.below HB2.out HBX.out.lt)
      have HW2 := Lib.hid (HBx.out.trans ((HW1.out.trans (HB2.out.mono HW1.out.size)).mono HBx.out.size))
      clear q0 q1
      obtain ⟨wo, rfl⟩ : ∃ w, w = wr := ⟨wr, rfl⟩
      go_loopg [31] 3 (fun gg s31 wq => ∃ k : Nat, s31 = .int .i64 (k : Int) ∧ k ≤ 3 ∧ 3 - k ≤ gg ∧ Hid (Box wq bj 70 (jobP b.rdy ((en : Int) - (dd : Int)) b k)) ∧ Hid (Below wo.heap.size wo wq))
      case atStart => exact ⟨0, rfl, by omega, by omega, HBX2, HW2⟩
      case round =>
        obtain ⟨k, rfl, hk, hgg2, HJP, HWq⟩ := hrel
        have hk4 : k = 0 ∨ k = 1 ∨ k = 2 ∨ k = 3 := by omega
        rcases hk4 with rfl | rfl | rfl | rfl
        · as_aux_lemma =>
          have ix : ∀ w, (Instr.index 73 (.agg #[.int .i64 (x0 : Int), .int .i64 (y0 : Int), .int .i64 (x1 : Int), .int .i64 (y1 : Int), .int .i64 (x2 : Int), .int .i64 (y2 : Int)]) (.int .i64 0)).run Tryd.prog w = .ok (.agg #[.int .i64 (x0 : Int), .int .i64 (y0 : Int)]) w := fun _ => by kernel_rfl
          rw [show ((0 : Nat) : Int) = 0 from rfl]
          have t0 : (0 : Int) ≤ (x0 : Int) := by omega
          have t1 : (0 : Int) ≤ (y0 : Int) := by omega
          go_wp2
          obtain ⟨w9, hw9⟩ : ∃ w9, w9 = wr.alloc (.cells #[.int .i64 (x0 : Int), .int .i64 (y0 : Int)] 72) := ⟨_, rfl⟩
          have HB9 : Hid (Below wr.heap.size wr w9) := Lib.hid (by rw [hw9]; exact box_below wr _)
          have R9 : w9.heap[wr.heap.size]? = some (.cells #[.int .i64 (x0 : Int), .int .i64 (y0 : Int)] 72 (0, 0)) := by rw [hw9]; exact new_row wr _
          have d0 := cell_row R9 0
          have d1 := cell_row R9 1
          simp only [List.getElem?_toArray, List.getElem?_cons_zero, List.getElem?_cons_succ] at d0 d1
          have HJ9 := Lib.hid (HJP.out.below HB9.out HJP.out.lt)
          have c2 := HJ9.out.cell 2
          have f2 := HJ9.out.frozen 2
          unfold jobP at c2
          simp only [List.getElem?_toArray, List.getElem?_cons_zero, List.getElem?_cons_succ] at c2
          rw [← hw9]
          clear hw9 R9
          go_region
          rw [msk_spell]
          have HN9 : Hid (Box (w9.setCell ⟨bj, 2, none⟩ (.int .u64 ((mskN x0 y0 : Nat) : Int))).drew bj 70 (jobP b.rdy ((en : Int) - (dd : Int)) b (0 + 1))) := Lib.hid (by
            rw [← jobP_set _ _ _ 0 (by omega)]
            have e : mskN x0 y0 = jobN b 0 := by rw [X0.out, Y0.out]; rfl
            rw [e]
            exact HJ9.out.set 2 _)
          have HL9 : Hid (Below wo.heap.size wo (w9.setCell ⟨bj, 2, none⟩ (.int .u64 ((mskN x0 y0 : Nat) : Int))).drew) := Lib.hid (below_store (HWq.out.trans (HB9.out.mono HWq.out.size)) 2 _ (Nat.le_trans HWq.out.size HB9.out.size) (Nat.le_trans HBx.out.size hbj))
          clear c2 f2 d0 d1 HJ9 HB9
          try go_wp2
          go_roundg (3 - (0 + 1))
          case measure => omega
          case rel => exact ⟨0 + 1, by go_num, by omega, Nat.le_refl _, HN9, HL9⟩
        · as_aux_lemma =>
          have ix : ∀ w, (Instr.index 73 (.agg #[.int .i64 (x0 : Int), .int .i64 (y0 : Int), .int .i64 (x1 : Int), .int .i64 (y1 : Int), .int .i64 (x2 : Int), .int .i64 (y2 : Int)]) (.int .i64 1)).run Tryd.prog w = .ok (.agg #[.int .i64 (x1 : Int), .int .i64 (y1 : Int)]) w := fun _ => by kernel_rfl
          rw [show ((1 : Nat) : Int) = 1 from rfl]
          have t0 : (0 : Int) ≤ (x1 : Int) := by omega
          have t1 : (0 : Int) ≤ (y1 : Int) := by omega
          go_wp2
          obtain ⟨w9, hw9⟩ : ∃ w9, w9 = wr.alloc (.cells #[.int .i64 (x1 : Int), .int .i64 (y1 : Int)] 72) := ⟨_, rfl⟩
          have HB9 : Hid (Below wr.heap.size wr w9) := Lib.hid (by rw [hw9]; exact box_below wr _)
          have R9 : w9.heap[wr.heap.size]? = some (.cells #[.int .i64 (x1 : Int), .int .i64 (y1 : Int)] 72 (0, 0)) := by rw [hw9]; exact new_row wr _
          have d0 := cell_row R9 0
          have d1 := cell_row R9 1
          simp only [List.getElem?_toArray, List.getElem?_cons_zero, List.getElem?_cons_succ] at d0 d1
          have HJ9 := Lib.hid (HJP.out.below HB9.out HJP.out.lt)
          have c2 := HJ9.out.cell 3
          have f2 := HJ9.out.frozen 3
          unfold jobP at c2
          simp only [List.getElem?_toArray, List.getElem?_cons_zero, List.getElem?_cons_succ] at c2
          rw [← hw9]
          clear hw9 R9
          go_region
          rw [msk_spell]
          have HN9 : Hid (Box (w9.setCell ⟨bj, 3, none⟩ (.int .u64 ((mskN x1 y1 : Nat) : Int))).drew bj 70 (jobP b.rdy ((en : Int) - (dd : Int)) b (1 + 1))) := Lib.hid (by
            rw [← jobP_set _ _ _ 1 (by omega)]
            have e : mskN x1 y1 = jobN b 1 := by rw [X1.out, Y1.out]; rfl
            rw [e]
            exact HJ9.out.set 3 _)
          have HL9 : Hid (Below wo.heap.size wo (w9.setCell ⟨bj, 3, none⟩ (.int .u64 ((mskN x1 y1 : Nat) : Int))).drew) := Lib.hid (below_store (HWq.out.trans (HB9.out.mono HWq.out.size)) 3 _ (Nat.le_trans HWq.out.size HB9.out.size) (Nat.le_trans HBx.out.size hbj))
          clear c2 f2 d0 d1 HJ9 HB9
          try go_wp2
          go_roundg (3 - (1 + 1))
          case measure => omega
          case rel => exact ⟨1 + 1, by go_num, by omega, Nat.le_refl _, HN9, HL9⟩
        · as_aux_lemma =>
          have ix : ∀ w, (Instr.index 73 (.agg #[.int .i64 (x0 : Int), .int .i64 (y0 : Int), .int .i64 (x1 : Int), .int .i64 (y1 : Int), .int .i64 (x2 : Int), .int .i64 (y2 : Int)]) (.int .i64 2)).run Tryd.prog w = .ok (.agg #[.int .i64 (x2 : Int), .int .i64 (y2 : Int)]) w := fun _ => by kernel_rfl
          rw [show ((2 : Nat) : Int) = 2 from rfl]
          have t0 : (0 : Int) ≤ (x2 : Int) := by omega
          have t1 : (0 : Int) ≤ (y2 : Int) := by omega
          go_wp2
          obtain ⟨w9, hw9⟩ : ∃ w9, w9 = wr.alloc (.cells #[.int .i64 (x2 : Int), .int .i64 (y2 : Int)] 72) := ⟨_, rfl⟩
          have HB9 : Hid (Below wr.heap.size wr w9) := Lib.hid (by rw [hw9]; exact box_below wr _)
          have R9 : w9.heap[wr.heap.size]? = some (.cells #[.int .i64 (x2 : Int), .int .i64 (y2 : Int)] 72 (0, 0)) := by rw [hw9]; exact new_row wr _
          have d0 := cell_row R9 0
          have d1 := cell_row R9 1
          simp only [List.getElem?_toArray, List.getElem?_cons_zero, List.getElem?_cons_succ] at d0 d1
          have HJ9 := Lib.hid (HJP.out.below HB9.out HJP.out.lt)
          have c2 := HJ9.out.cell 4
          have f2 := HJ9.out.frozen 4
          unfold jobP at c2
          simp only [List.getElem?_toArray, List.getElem?_cons_zero, List.getElem?_cons_succ] at c2
          rw [← hw9]
          clear hw9 R9
          go_region
          rw [msk_spell]
          have HN9 : Hid (Box (w9.setCell ⟨bj, 4, none⟩ (.int .u64 ((mskN x2 y2 : Nat) : Int))).drew bj 70 (jobP b.rdy ((en : Int) - (dd : Int)) b (2 + 1))) := Lib.hid (by
            rw [← jobP_set _ _ _ 2 (by omega)]
            have e : mskN x2 y2 = jobN b 2 := by rw [X2.out, Y2.out]; rfl
            rw [e]
            exact HJ9.out.set 4 _)
          have HL9 : Hid (Below wo.heap.size wo (w9.setCell ⟨bj, 4, none⟩ (.int .u64 ((mskN x2 y2 : Nat) : Int))).drew) := Lib.hid (below_store (HWq.out.trans (HB9.out.mono HWq.out.size)) 4 _ (Nat.le_trans HWq.out.size HB9.out.size) (Nat.le_trans HBx.out.size hbj))
          clear c2 f2 d0 d1 HJ9 HB9
          try go_wp2
          go_roundg (3 - (2 + 1))
          case measure => omega
          case rel => exact ⟨2 + 1, by go_num, by omega, Nat.le_refl _, HN9, HL9⟩
        · have HMk := Lib.hid (HMr.out.keep HWq.out)
          have HJk := Lib.hid (ownsRow_keep HJ.out HWq.out)
          obtain ⟨m0, hm0⟩ : ∃ m, m = jobN b 0 := ⟨_, rfl⟩
          obtain ⟨m1, hm1⟩ : ∃ m, m = jobN b 1 := ⟨_, rfl⟩
          obtain ⟨m2, hm2⟩ : ∃ m, m = jobN b 2 := ⟨_, rfl⟩
          have hjp := HJP.out
          have hjc := jobC_of en b
          rw [jobP_full, ← hm0, ← hm1, ← hm2] at hjp
          rw [← HDD.out, ← hm0, ← hm1, ← hm2] at hjc
          obtain ⟨p0, p1, p2, p3, p4⟩ := five_cells hjp
          have HJC := Lib.hid hjc
          clear hjp hjc hm0 hm1 hm2
          have q1 := HMk.out.head.2.1
          have q1f := HMk.out.free 1
          go_wp2
          refine wp_region_late (S := fun w' => w'.cell? ⟨W.heap.size, 1, none⟩ = some (.slice ja i jc) ∧ w'.frozen? ⟨W.heap.size, 1, none⟩ = false ∧ w'.cell? ⟨bj, 0, none⟩ = some (.int .i64 (b.rdy : Int)) ∧ w'.cell? ⟨bj, 1, none⟩ = some (.int .i64 ((en : Int) - (dd : Int))) ∧ w'.cell? ⟨bj, 2, none⟩ = some (.int .u64 (m0 : Int)) ∧ w'.cell? ⟨bj, 3, none⟩ = some (.int .u64 (m1 : Int)) ∧ w'.cell? ⟨bj, 4, none⟩ = some (.int .u64 (m2 : Int))) 10 (by kernel_rfl) ⟨q1, q1f, p0, p1, p2, p3, p4⟩ (fun hS => ?_)
          refine wpAnyT_take (i := 0) (v := ?vj0) rfl (by kernel_rfl) (by kernel_rfl) (by kernel_rfl) (by kernel_rfl) (fun _ _ _ h => h) (Or.inl ⟨by rfl, ?hyj0⟩) hS ?restj0
          case hyj0 => (intro w hSw; (try dsimp only at hSw); (first | (go_simp; done) | (go_simp; with_reducible rfl)))
          try simp only [Act.put, List.getElem_toArray, List.getElem_cons_succ, List.getElem_cons_zero, List.setIfInBounds_toArray, List.set_cons_zero, List.set_cons_succ]
          refine wpAnyT_take (i := 1) (v := ?vj1) rfl (by kernel_rfl) (by kernel_rfl) (by kernel_rfl) (by kernel_rfl) (fun _ _ _ h => h) (Or.inl ⟨by rfl, ?hyj1⟩) hS ?restj1
          case hyj1 => (intro w hSw; (try dsimp only at hSw); (first | (go_simp; done) | (go_simp; with_reducible rfl)))
          try simp only [Act.put, List.getElem_toArray, List.getElem_cons_succ, List.getElem_cons_zero, List.setIfInBounds_toArray, List.set_cons_zero, List.set_cons_succ]
          refine wpAnyT_take (i := 2) (v := ?vj2) rfl (by kernel_rfl) (by kernel_rfl) (by kernel_rfl) (by kernel_rfl) (fun _ _ _ h => h) (Or.inl ⟨by rfl, ?hyj2⟩) hS ?restj2
          case hyj2 => (intro w hSw; (try dsimp only at hSw); (first | (go_simp; done) | (go_simp; with_reducible rfl)))
          try simp only [Act.put, List.getElem_toArray, List.getElem_cons_succ, List.getElem_cons_zero, List.setIfInBounds_toArray, List.set_cons_zero, List.set_cons_succ]
          refine wpAnyT_take (i := 3) (v := ?vj3) rfl (by kernel_rfl) (by kernel_rfl) (by kernel_rfl) (by kernel_rfl) (fun _ _ _ h => h) (Or.inl ⟨by rfl, ?hyj3⟩) hS ?restj3
          case hyj3 => (intro w hSw; (try dsimp only at hSw); (first | (go_simp; done) | (go_simp; with_reducible rfl)))
          try simp only [Act.put, List.getElem_toArray, List.getElem_cons_succ, List.getElem_cons_zero, List.setIfInBounds_toArray, List.set_cons_zero, List.set_cons_succ]
          refine wpAnyT_take (i := 4) (v := ?vj4) rfl (by kernel_rfl) (by kernel_rfl) (by kernel_rfl) (by kernel_rfl) (fun _ _ _ h => h) (Or.inl ⟨by rfl, ?hyj4⟩) hS ?restj4
          case hyj4 => (intro w hSw; (try dsimp only at hSw); (first | (go_simp; done) | (go_simp; with_reducible rfl)))
          try simp only [Act.put, List.getElem_toArray, List.getElem_cons_succ, List.getElem_cons_zero, List.setIfInBounds_toArray, List.set_cons_zero, List.set_cons_succ]
          refine wpAnyT_take (i := 5) (v := ?vj5) rfl (by kernel_rfl) (by kernel_rfl) (by kernel_rfl) (by kernel_rfl) (fun _ _ _ h => h) (Or.inl ⟨by rfl, ?hyj5⟩) hS ?restj5
          case hyj5 => (intro w hSw; (try dsimp only at hSw); (first | (go_simp; done) | (go_simp; with_reducible rfl)))
          try simp only [Act.put, List.getElem_toArray, List.getElem_cons_succ, List.getElem_cons_zero, List.setIfInBounds_toArray, List.set_cons_zero, List.set_cons_succ]
          refine wpAnyT_step 6 rfl (by kernel_rfl) (by decide) (fun K hK => ?_)
          try go_simp
          refine hK.out _ _ ⟨cell_later (box_below wr.drew (.cells #[.int .i64 (b.rdy : Int), .int .i64 ((en : Int) - (dd : Int)), .int .u64 (m0 : Int), .int .u64 (m1 : Int), .int .u64 (m2 : Int)] 70)) q1, ((box_below wr.drew (.cells #[.int .i64 (b.rdy : Int), .int .i64 ((en : Int) - (dd : Int)), .int .u64 (m0 : Int), .int .u64 (m1 : Int), .int .u64 (m2 : Int)] 70)).frozen (block_lt_of_cell q1)).trans q1f, cell_later (box_below wr.drew (.cells #[.int .i64 (b.rdy : Int), .int .i64 ((en : Int) - (dd : Int)), .int .u64 (m0 : Int), .int .u64 (m1 : Int), .int .u64 (m2 : Int)] 70)) p0, cell_later (box_below wr.drew (.cells #[.int .i64 (b.rdy : Int), .int .i64 ((en : Int) - (dd : Int)), .int .u64 (m0 : Int), .int .u64 (m1 : Int), .int .u64 (m2 : Int)] 70)) p1, cell_later (box_below wr.drew (.cells #[.int .i64 (b.rdy : Int), .int .i64 ((en : Int) - (dd : Int)), .int .u64 (m0 : Int), .int .u64 (m1 : Int), .int .u64 (m2 : Int)] 70)) p2, cell_later (box_below wr.drew (.cells #[.int .i64 (b.rdy : Int), .int .i64 ((en : Int) - (dd : Int)), .int .u64 (m0 : Int), .int .u64 (m1 : Int), .int .u64 (m2 : Int)] 70)) p3, cell_later (box_below wr.drew (.cells #[.int .i64 (b.rdy : Int), .int .i64 ((en : Int) - (dd : Int)), .int .u64 (m0 : Int), .int .u64 (m1 : Int), .int .u64 (m2 : Int)] 70)) p4⟩ (fun hS => ?_)
          clear hK K
          try simp only [Act.put, List.setIfInBounds_toArray, List.set_cons_zero, List.set_cons_succ]
          have B8 := Lib.hid (below_then (drew_below wr) (box_below wr.drew (.cells #[.int .i64 (b.rdy : Int), .int .i64 ((en : Int) - (dd : Int)), .int .u64 (m0 : Int), .int .u64 (m1 : Int), .int .u64 (m2 : Int)] 70)))
          have HJ8 := Lib.hid (ownsRow_keep HJk.out B8.out)
          refine wpAnyT_step 7 rfl (by kernel_rfl) (by decide) (fun K hK => ?_)
          refine step_appJ (w := wr.drew.alloc (.cells #[.int .i64 (b.rdy : Int), .int .i64 ((en : Int) - (dd : Int)), .int .u64 (m0 : Int), .int .u64 (m1 : Int), .int .u64 (m2 : Int)] 70)) rfl (.tmp 50) (.tmp 52) (by rfl) (W.heap.size + 1) ja jc i ((bn.map (jobOf en)).take i) (jobOf en b) wr.heap.size 70 (by rw [HJC.out]; exact heap_alloc_new wr.drew _) (by rfl) HJ8.out (by rfl) (by omega) (Nat.le_trans (Nat.succ_le_of_lt HMk.out.lt) B8.out.size) ?_
          intro g9 cap9 w9 hr9 hg9 hl9 hlt9
          have HR9 := Lib.hid hr9
          have HG9 := Lib.hid hg9
          have S9 := Lib.hid (show w9.cell? ⟨W.heap.size, 1, none⟩ = some (.slice ja i jc) ∧ w9.frozen? ⟨W.heap.size, 1, none⟩ = false ∧ w9.cell? ⟨bj, 0, none⟩ = some (.int .i64 (b.rdy : Int)) ∧ w9.cell? ⟨bj, 1, none⟩ = some (.int .i64 ((en : Int) - (dd : Int))) ∧ w9.cell? ⟨bj, 2, none⟩ = some (.int .u64 (m0 : Int)) ∧ w9.cell? ⟨bj, 3, none⟩ = some (.int .u64 (m1 : Int)) ∧ w9.cell? ⟨bj, 4, none⟩ = some (.int .u64 (m2 : Int)) from by
            have k1 : ∀ k, k < wr.heap.size → some k ≠ (Value.slice ja i jc).ownBlock → w9.heap[k]? = wr.heap[k]? := fun k hk hn => (hg9.block k (Nat.lt_of_lt_of_le hk B8.out.size) hn).trans (B8.out.block k hk)
            have n1 : some W.heap.size ≠ (Value.slice ja i jc).ownBlock := fun e => by have := (ownsRow_in HJ.out e.symm).1; omega
            have n2 : some bj ≠ (Value.slice ja i jc).ownBlock := fun e => by have := (ownsRow_in HJ.out e.symm).2; have := HBx.out.size; omega
            have e1 := k1 _ (block_lt_of_cell q1) n1
            have e2 := k1 _ (block_lt_of_cell p0) n2
            exact ⟨(World.cell?_of_block (a := ⟨W.heap.size, 1, none⟩) e1).trans q1, (World.frozen?_of_block (a := ⟨W.heap.size, 1, none⟩) e1).trans q1f, (World.cell?_of_block (a := ⟨bj, 0, none⟩) e2).trans p0, (World.cell?_of_block (a := ⟨bj, 1, none⟩) e2).trans p1, (World.cell?_of_block (a := ⟨bj, 2, none⟩) e2).trans p2, (World.cell?_of_block (a := ⟨bj, 3, none⟩) e2).trans p3, (World.cell?_of_block (a := ⟨bj, 4, none⟩) e2).trans p4⟩)
          clear hr9 hg9 hl9
          refine hK.out _ _ S9.out (fun hS => ?_)
          clear hK K
          try simp only [Act.put, List.getElem_toArray, List.getElem_cons_succ, List.getElem_cons_zero, List.setIfInBounds_toArray, List.set_cons_zero, List.set_cons_succ]
          refine wpAnyT_step 8 rfl (by kernel_rfl) (by decide) (fun K hK => ?_)
          try go_simp
          refine hK.out _ _ hS (fun hS => ?_)
          clear hK K
          try simp only [Act.put, List.setIfInBounds_toArray, List.set_cons_zero, List.set_cons_succ]
          refine wpAnyT_step 9 rfl (by kernel_rfl) (by decide) (fun K hK => ?_)
          try go_simp
          refine hK.out _ _ hS (fun hS => ?_)
          clear hK K
          try simp only [Act.put, List.setIfInBounds_toArray, List.set_cons_zero, List.set_cons_succ]
          refine wpAnyT_last rfl (by kernel_rfl) (by kernel_rfl) (fun K hK => ?_)
          go_simp
          refine hK.out _ _ ?_
          clear hK K
          have hlt9 : W.heap.size + 1 ≤ g9 := (ownsRow_in HR9.out rfl).1
          have hne9 : some W.heap.size ≠ (Value.slice ja i jc).ownBlock := fun e => by have := (ownsRow_in HJ.out e.symm).1; omega
          have HS9 := Lib.hid (((HMk.out.keep B8.out).grown HG9.out hne9).setJobs (.slice (some ⟨g9, 0, none⟩) (i + 1) cap9))
          have HO9 := Lib.hid (ownsRow_setCell_below HR9.out (a := ⟨W.heap.size, 1, none⟩) (Nat.lt_succ_self _) (.slice (some ⟨g9, 0, none⟩) (i + 1) cap9))
          have HW9 := Lib.hid (((HWr.out.trans ((HWq.out.trans (B8.out.mono HWq.out.size)).mono HWr.out.size)).grown HG9.out (Nat.le_trans (Nat.le_of_lt HMk.out.lt) B8.out.size) (fun k e => by have := (ownsRow_in HJ.out e).1; omega)).grown (grownBy_set w9 W.heap.size 1 (.slice (some ⟨g9, 0, none⟩) (i + 1) cap9)) (by have := HMk.out.lt; have := B8.out.size; have := HG9.out.size; omega) (fun k e => by cases e; exact Nat.le_refl _))
          have hcap := ownsRow_cap HR9.out
          go_wp2
          go_roundg (bl - (i + 1))
          case measure => omega
          case rel => exact ⟨i + 1, some ⟨g9, 0, none⟩, cap9, by go_num, by omega, Nat.le_refl _, hcap.1, hcap.2, HS9, Lib.hid (by
            have e : (bn.map (jobOf en)).take (i + 1) = (bn.map (jobOf en)).take i ++ [jobOf en b] := by
              rw [List.take_add_one, List.getElem?_map, List.getElem?_eq_getElem (by rw [HLB.out]; exact h1), HBE.out, getElem!_pos bn i (by rw [HLB.out]; exact h1)]
              rfl
            rw [e]
            exact HO9.out), HW9⟩
    · obtain rfl : i = bl := by omega
      have t1 : ¬ (i : Int) < (i : Int) := by omega
      go_wp2
      go_ret
      refine ⟨rfl, HWr.out, ja, jc, hjc, hjm, HMr.out, ?_⟩
      have e : (bn.map (jobOf en)).take i = bn.map (jobOf en) := List.take_of_length_le (by rw [List.length_map, HLB.out]; exact Nat.le_refl _)
      rw [← e]
      exact HJ.out
end Go.Proofs.YtbidadkcdchomaaDoor

/- package plan: what newSearch makes is a search. No function of the program is walked here, but place and find for no batches. -/
set_option linter.unusedVariables false
set_option linter.unusedSimpArgs false
namespace Go.Proofs.YtbidadkcdchomaaDoor
open Go.RowKit

theorem zero24 (i : Nat) : (List.replicate 24 0 : List Nat)[i]! = 0 := by
  by_cases h : i < 24
  · rw [getElem!_pos _ i (by rw [List.length_replicate]; exact h)]; exact List.getElem_replicate _
  · rw [getElem!_neg _ i (by simpa using h)]; rfl
theorem map_at {bn : List BN} {en i : Nat} (hi : i < bn.length) : (bn.map (jobOf en))[i]! = jobOf en bn[i]! := by
  rw [getElem!_pos _ i (by simpa using hi), getElem!_pos bn i hi]; simp
theorem map_get {bn : List BN} {en i : Nat} (hi : i < bn.length) : (bn.map (jobOf en))[i]? = some (jobOf en bn[i]!) := by
  rw [List.getElem?_map, List.getElem?_eq_getElem hi, getElem!_pos bn i hi]; rfl
theorem new_srR {W w' : World} {va ja ba : Option Addr} {vl vc bl bc jc en : Nat} {vn : List Nat} {bn : List BN} (hv : Il W va vl (vI vn)) (hb : Bats W ba bl (bn.map bI)) (hT : TaskN vn bn) (hen : en ≤ 30) (h0 : 0 < bl)
    (hw : Below W.heap.size W w') (hm : SrM w' W.heap.size (.slice va vl vc) (.slice ja bl jc) (.slice none 0 0) [0, 0, 0, 0, 0] (List.replicate 24 0)) (ho : w'.ownsRow (W.heap.size + 1) 70 5 (.slice ja bl jc) bl (flatJ (bn.map (jobOf en)))) :
    ∃ gj, ja = some ⟨gj, 0, none⟩ ∧ W.heap.size < gj ∧ SrR w' W.heap.size va vl vc gj bl jc (.slice none 0 0) vn (bn.map (jobOf en)) [0, 0, 0, 0, 0] (List.replicate 24 0) := by
  have hlb : bn.length = bl := by have := hb.1; simpa using this
  obtain ⟨gj, cap, hv', hge, hlt⟩ := ho.form h0
  cases hv'
  refine ⟨gj, rfl, hge, hm, hv.keep hw, ⟨hlt, fun i hi => ?_⟩, by simpa using hlb, hT.house, fun i _ => by rw [zero24]; decide, fun i hi => ?_, fun i hi k => ?_, fun a e => ?_, by omega⟩
  · have hi' : i < bn.length := by simpa using hi
    have hc : ∀ c, c < 5 → w'.cell? ⟨gj, i * 5 + c, none⟩ = (jobC (jobOf en bn[i]!))[c]? := fun c hc => by
      rw [ho.cellAt (i * 5 + c) (by omega), flatJ_get _ _ _ hc, map_get hi']; rfl
    rw [map_at hi']
    exact ⟨hc 0 (by omega), hc 1 (by omega), hc 2 (by omega), hc 3 (by omega), hc 4 (by omega)⟩
  · have hi' : i < bn.length := by omega
    rw [map_at hi']
    have := hT.dur hi'
    exact ⟨(bn[i]!).rdy, rfl, hT.rdy i hi', by show (en : Int) - (durN bn[i]! : Int) ≤ 30; omega, by show -1000 ≤ (en : Int) - (durN bn[i]! : Int); omega⟩
  · have hi' : i < bn.length := by omega
    rw [map_at hi']
    exact msk_lt _ _
  · have hpos : 0 < vl := by have := hT.some; have := hv.len; rw [vI_len] at this; omega
    obtain ⟨b, off, e2, hcs⟩ := hv.at hpos
    rw [e] at e2; cases e2
    have := block_lt_of_cell (hcs 0 hpos)
    show b ≠ _
    have : b < W.heap.size := this
    omega

set_option maxRecDepth 100000 in
set_option maxHeartbeats 4000000 in
theorem place_none (B : Nat) (v j : Value) (oa : Option Addr) (oc : Nat) (st : List Int) (C : List Nat) (W : World) (h : SrM W B v j (.slice oa 0 oc) st C) :
    Calls Tryd.prog 38 #[.pointer (some ⟨B, 0, none⟩), .int .i64 0] W fun e w' => e = .returned (.bool true) ∧ Below W.heap.size W w' := by
  have m2 := h.head.2.2
  clear h
  go_enter Tryd.func38, Tryd.ntmps38
  go_wp2
  go_ret
  exact ⟨rfl, Below.refl _ _⟩

set_option maxRecDepth 100000 in
set_option maxHeartbeats 4000000 in
theorem find_none (B : Nat) (v j o : Value) (oa : Option Addr) (oc : Nat) (C : List Nat) (W : World) (h : SrM W B v j o [0, 0, 0, 0, 0] C) :
    Calls Tryd.prog 25 #[.pointer (some ⟨B, 0, none⟩), .slice oa 0 oc] W fun e w' => e = .returned (arr5 [0, 0, 0, 0, 0]) ∧ W.grownBy w' (some B) := by
  obtain ⟨V, hV⟩ : ∃ V, V = W.alloc (.cells #[.int .i64 0, .int .i64 0, .int .i64 0, .int .i64 0, .int .i64 0] 45) := ⟨_, rfl⟩
  have HB : Hid (Below W.heap.size W V) := Lib.hid (by rw [hV]; exact box_below W _)
  have R : Hid (V.heap[W.heap.size]? = some (.cells #[.int .i64 0, .int .i64 0, .int .i64 0, .int .i64 0, .int .i64 0] 45 (0, 0))) := Lib.hid (by rw [hV]; exact new_row W _)
  have HBW := Lib.hid (show W.heap.size ≠ B from fun e => by have := h.lt; omega)
  have hR := h.keep HB.out
  have m2 := hR.head.2.2
  have f2 := hR.free 2
  have HR := Lib.hid hR
  have HV := Lib.hid hV
  clear h hV hR
  go_enter Tryd.func25, Tryd.ntmps25
  go_upto_region 1 with fail
  rw [← HV.out]
  go_upto_region 2 with fail
  obtain ⟨w1, hw1⟩ : ∃ w1, w1 = V.setCell ⟨B, 2, none⟩ (.slice oa 0 oc) := ⟨_, rfl⟩
  have HR1 : Hid (SrM w1 B v j (.slice oa 0 oc) [0, 0, 0, 0, 0] C) := Lib.hid (by rw [hw1]; exact HR.out.setOrder _)
  have HG1 : Hid (V.grownBy w1 (some B)) := Lib.hid (by rw [hw1]; exact grownBy_set _ _ _ _)
  rw [← hw1]
  clear hw1 m2 f2
  go_wp2_with fail
  refine (place_none B v j oa oc _ C w1 HR1.out).mono ?_
  rintro e w2 ⟨rfl, hb2⟩
  have HR2 := Lib.hid (HR1.out.keep hb2)
  have HG2 := Lib.hid (grownBy_trans HG1.out (grownBy_of_below (row := some B) hb2))
  have d0 := HR2.out.start (i := 0) (by omega)
  have d1 := HR2.out.start (i := 1) (by omega)
  have d2 := HR2.out.start (i := 2) (by omega)
  have d3 := HR2.out.start (i := 3) (by omega)
  have d4 := HR2.out.start (i := 4) (by omega)
  have e0 : w2.cell? ⟨B, 3, none⟩ = some (.int .i64 0) := d0
  have e1 : w2.cell? ⟨B, 4, none⟩ = some (.int .i64 0) := d1
  have e2 : w2.cell? ⟨B, 5, none⟩ = some (.int .i64 0) := d2
  have e3 : w2.cell? ⟨B, 6, none⟩ = some (.int .i64 0) := d3
  have e4 : w2.cell? ⟨B, 7, none⟩ = some (.int .i64 0) := d4
  have R2 := Lib.hid ((HG2.out.block W.heap.size (Array.getElem?_eq_some_iff.1 R.out).1 (by have := HBW.out; simp [this])).trans R.out)
  have r0 := cell_row R2.out 0; have r1 := cell_row R2.out 1; have r2 := cell_row R2.out 2; have r3 := cell_row R2.out 3; have r4 := cell_row R2.out 4
  simp only [List.getElem?_toArray, List.getElem?_cons_zero, List.getElem?_cons_succ] at r0 r1 r2 r3 r4
  have f0 := free_row R2.out 0; have f1 := free_row R2.out 1; have f2 := free_row R2.out 2; have f3 := free_row R2.out 3; have f4 := free_row R2.out 4
  clear hb2 d0 d1 d2 d3 d4
  go_wp2
  refine bodyPost_ret (v := arr5 [0, 0, 0, 0, 0]) (results_cell_row Tryd.results25 _ _ W.heap.size 45 #[.int .i64 0, .int .i64 0, .int .i64 0, .int .i64 0, .int .i64 0] (0, 0) _ rfl (set_five R2.out) Tryd.underlying45 (by kernel_rfl) (by kernel_rfl)) rfl ?_
  refine ⟨rfl, ?_⟩
  have hh := grownBy_trans (grownBy_of_below (row := some B) HB.out) HG2.out
  exact ⟨hh.os, hh.tape, hh.output, by simpa using hh.size, fun q hq hne => by
    have hqW : q ≠ W.heap.size := by omega
    rw [Below.heap_setCell _ _ _ _ hqW, Below.heap_setCell _ _ _ _ hqW, Below.heap_setCell _ _ _ _ hqW, Below.heap_setCell _ _ _ _ hqW, Below.heap_setCell _ _ _ _ hqW]
    exact hh.block q hq hne⟩
end Go.Proofs.YtbidadkcdchomaaDoor
