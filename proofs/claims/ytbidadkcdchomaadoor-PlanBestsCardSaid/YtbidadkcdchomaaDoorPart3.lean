/- Part 3 of the contracts: PClashR, PClash, PSM. -/
import Derived.Deep.RegionHeld3
import Derived.OrdersHeld
import Derived.Test.YtbidadkcdchomaaDoorPart2

/- clash's region of two calls. (By gen_pclash.py.) -/
set_option linter.unusedVariables false
set_option linter.unusedSimpArgs false
namespace Go.Proofs.YtbidadkcdchomaaDoor
open Go.RowKit Go.Proofs

def IsA (t1 : List Nat) (z1 : Int) (v : Value) (w : World) : Prop := ∃ b : Nat, v = .agg #[.int .i64 (stayZ (z1) t1 0), .int .i64 (stayZ (z1) t1 1), .int .i64 (stayZ (z1) t1 2), .int .i64 (stayZ (z1) t1 3), .int .i64 (stayZ (z1) t1 4), .int .i64 (stayZ (z1) t1 5)] ∧ b = 0
def IsB (t2 : List Nat) (z2 : Int) (v : Value) (w : World) : Prop := ∃ b : Nat, v = .agg #[.int .i64 (stayZ (z2) t2 0), .int .i64 (stayZ (z2) t2 1), .int .i64 (stayZ (z2) t2 2), .int .i64 (stayZ (z2) t2 3), .int .i64 (stayZ (z2) t2 4), .int .i64 (stayZ (z2) t2 5)] ∧ b = 0
theorem Stable.isA (base : Nat) (t1 : List Nat) (z1 : Int) (v : Value) : Stable base (IsA t1 z1 v) := Stable.ex fun _ => (Stable.const base _).and (Stable.const base _)
theorem Stable.isB (base : Nat) (t2 : List Nat) (z2 : Int) (v : Value) : Stable base (IsB t2 z2 v) := Stable.ex fun _ => (Stable.const base _).and (Stable.const base _)
theorem at_runB (i n g o cap : Nat) (hi : i < n) (hn : n ≤ 1000) (w : World) : (Instr.indexAt 23 (.slice (some ⟨g, o, none⟩) n cap) (.int .i64 (i : Int))).run Tryd.prog w = .ok (.pointer (some ⟨g, o + i * 2, none⟩)) w := by
  refine (run_indexAt_slice (P := Tryd.prog) (w := w) 23 ⟨g, o, none⟩ n cap .i64 (i : Int) (by kernel_rfl)).trans ?_
  rw [if_pos ⟨by omega, by omega⟩, show Tryd.prog.elem 23 = 43 from by kernel_rfl, Tryd.sizeOf43]
  simp [Result.andThen, Addr.add]
  try (intro h; omega)
theorem at_runI (i n g o cap : Nat) (hi : i < n) (hn : n ≤ 1000) (w : World) : (Instr.indexAt 22 (.slice (some ⟨g, o, none⟩) n cap) (.int .i64 (i : Int))).run Tryd.prog w = .ok (.pointer (some ⟨g, o + i, none⟩)) w := by
  refine (run_indexAt_slice (P := Tryd.prog) (w := w) 22 ⟨g, o, none⟩ n cap .i64 (i : Int) (by kernel_rfl)).trans ?_
  rw [if_pos ⟨by omega, by omega⟩, show Tryd.prog.elem 22 = 3 from by kernel_rfl, Tryd.sizeOf3]
  simp [Result.andThen, Addr.add]
  try (intro h; omega)

def clash_regS : Shape where
  f := fun i => match i with | 0 => 13 | 1 => 14 | 2 => 15 | 3 => 16 | 4 => 17 | 5 => 18 | 6 => 19 | 7 => 20 | 8 => 21 | 9 => 22 | 10 => 23 | 11 => 24 | 12 => 25 | 13 => 26 | 14 => 27 | 15 => 28 | 16 => 29 | 17 => 30 | 18 => 31 | 19 => 32 | 20 => 9 | 21 => 10 | _ => 0
  kd := fun i => match i with | 20 => .box 73 #[.int .i64 0, .int .i64 0, .int .i64 0, .int .i64 0, .int .i64 0, .int .i64 0] | 21 => .box 73 #[.int .i64 0, .int .i64 0, .int .i64 0, .int .i64 0, .int .i64 0, .int .i64 0] | 22 => .put 20 9 | 23 => .put 21 19 | _ => .val
  need := fun i => match i with | 2 => [0, 1] | 3 => [2] | 5 => [4] | 7 => [5, 6] | 8 => [7] | 9 => [3, 8] | 12 => [10, 11] | 13 => [12] | 15 => [14] | 17 => [15, 16] | 18 => [17] | 19 => [13, 18] | 22 => [20, 9] | 23 => [21, 19] | _ => []
  st := fun i => match i with | 20 => 22 | 21 => 23 | _ => 0
  src := fun i => match i with | 20 => 9 | 21 => 19 | _ => 0

set_option maxRecDepth 4000 in
set_option maxHeartbeats 16000000 in
/-- the stays of two batches -/
theorem clash_reg {Q : Exit → Act → World → Prop} {id : Nat} {a0 : Act} {W : World} {o0 o1 o2 o3 o4 o5 o6 o7 o8 o9 o10 o11 o12 o13 o14 o15 o16 o17 o18 o19 o20 o21 o22 o23 : Oper} (r1 r2 z1 z2 en : Int) (ta1 ta2 ya : Option Addr) (tl1 tc1 tl2 tc2 xl xc yl yc bl bc pi pj ob ox : Nat) (t1 t2 : List Nat) (gB : Nat) (gS : Nat) (gX : Nat) (ts9 : Array TypeId) (ts19 : Array TypeId)
    (hok : clash_regS.ok #[o0, o1, o2, o3, o4, o5, o6, o7, o8, o9, o10, o11, o12, o13, o14, o15, o16, o17, o18, o19, o20, o21, o22, o23] a0.tmps.size = true)
    (h0 : o0.op = .move (.tmp 0)) (h1 : o1.op = .move (.tmp 2)) (h2 : o2.op = .indexAddr 23 (.tmp 13) (.tmp 14)) (h3 : o3.op = .load 43 (.tmp 15)) (h4 : o4.op = .fieldAddr 28 (.tmp 5) 1) (h5 : o5.op = .load 22 (.tmp 17)) (h6 : o6.op = .move (.tmp 2)) (h7 : o7.op = .indexAddr 22 (.tmp 18) (.tmp 19)) (h8 : o8.op = .load 3 (.tmp 20)) (h9 : o9.op = .call { callee := .value (.func 37), args := #[.tmp 16, .tmp 21], argTypes := ts9 }) (h10 : o10.op = .move (.tmp 0)) (h11 : o11.op = .move (.tmp 3)) (h12 : o12.op = .indexAddr 23 (.tmp 23) (.tmp 24)) (h13 : o13.op = .load 43 (.tmp 25)) (h14 : o14.op = .fieldAddr 28 (.tmp 5) 1) (h15 : o15.op = .load 22 (.tmp 27)) (h16 : o16.op = .move (.tmp 3)) (h17 : o17.op = .indexAddr 22 (.tmp 28) (.tmp 29)) (h18 : o18.op = .load 3 (.tmp 30)) (h19 : o19.op = .call { callee := .value (.func 37), args := #[.tmp 26, .tmp 31], argTypes := ts19 }) (h20 : o20.op = .alloc 73) (h21 : o21.op = .alloc 73) (h22 : o22.op = .store 73 (.tmp 9) (.tmp 22)) (h23 : o23.op = .store 73 (.tmp 10) (.tmp 32))
    (hgP : gB < W.heap.size) (cP_0 : W.cell? ⟨gB, ob + pi * 2, none⟩ = some (.int .i64 r1)) (cP_1 : W.cell? ⟨gB, ob + pi * 2 + 1, none⟩ = some (.slice ta1 tl1 tc1))
    (hgQ : gB < W.heap.size) (cQ_0 : W.cell? ⟨gB, ob + pj * 2, none⟩ = some (.int .i64 r2)) (cQ_1 : W.cell? ⟨gB, ob + pj * 2 + 1, none⟩ = some (.slice ta2 tl2 tc2))
    (hrS : a0.eval (.tmp 5) = .pointer (some ⟨gS, 0, none⟩)) (hgS : gS < W.heap.size) (cS_0 : W.cell? ⟨gS, 0, none⟩ = some (.int .i64 en)) (cS_1 : W.cell? ⟨gS, 1, none⟩ = some (.slice (some ⟨gX, ox, none⟩) xl xc)) (cS_2 : W.cell? ⟨gS, 2, none⟩ = some (.slice ya yl yc))
    (hgX : gX < W.heap.size) (cX_0 : W.cell? ⟨gX, ox + pi, none⟩ = some (.int .i64 z1))
    (hgY : gX < W.heap.size) (cY_0 : W.cell? ⟨gX, ox + pj, none⟩ = some (.int .i64 z2))
    (hmB : a0.eval (.tmp 0) = .slice (some ⟨gB, ob, none⟩) bl bc)
    (hmI : a0.eval (.tmp 2) = .int .i64 (pi : Int))
    (hmJ : a0.eval (.tmp 3) = .int .i64 (pj : Int))
    (hpi : pi < bl) (hpj : pj < bl) (hbl : bl ≤ 1000) (hpix : pi < xl) (hpjx : pj < xl) (hxl : xl ≤ 1000)
    (ks1 : Il W ta1 tl1 (vI t1)) (kc1 : ∀ k, k < t1.length → t1[k]! ≤ 30) (kd1 : t1.length ≤ 3) (ka1 : 0 ≤ z1) (kb1 : z1 + (t1.sum : Nat) ≤ 9223372036854775807)
    (ks2 : Il W ta2 tl2 (vI t2)) (kc2 : ∀ k, k < t2.length → t2[k]! ≤ 30) (kd2 : t2.length ≤ 3) (ka2 : 0 ≤ z2) (kb2 : z2 + (t2.sum : Nat) ≤ 9223372036854775807)
    (hend : ∀ w b20 b21 b9 b19 , Below W.heap.size W w → W.heap.size ≤ b20 → Box w b20 73 #[.int .i64 (stayZ (z1) t1 0), .int .i64 (stayZ (z1) t1 1), .int .i64 (stayZ (z1) t1 2), .int .i64 (stayZ (z1) t1 3), .int .i64 (stayZ (z1) t1 4), .int .i64 (stayZ (z1) t1 5)] → W.heap.size ≤ b21 → Box w b21 73 #[.int .i64 (stayZ (z2) t2 0), .int .i64 (stayZ (z2) t2 1), .int .i64 (stayZ (z2) t2 2), .int .i64 (stayZ (z2) t2 3), .int .i64 (stayZ (z2) t2 4), .int .i64 (stayZ (z2) t2 5)] → b20 ≠ b21 → b9 = (0 : Nat) → b19 = (0 : Nat) → 
      Q .normal (puts a0 [(13, .slice (some ⟨gB, ob, none⟩) bl bc), (14, .int .i64 (pi : Int)), (15, .pointer (some ⟨gB, ob + pi * 2, none⟩)), (16, .agg #[.int .i64 r1, .slice ta1 tl1 tc1]), (17, .pointer (some ⟨gS, 1, none⟩)), (18, .slice (some ⟨gX, ox, none⟩) xl xc), (19, .int .i64 (pi : Int)), (20, .pointer (some ⟨gX, ox + pi, none⟩)), (21, .int .i64 z1), (22, .agg #[.int .i64 (stayZ (z1) t1 0), .int .i64 (stayZ (z1) t1 1), .int .i64 (stayZ (z1) t1 2), .int .i64 (stayZ (z1) t1 3), .int .i64 (stayZ (z1) t1 4), .int .i64 (stayZ (z1) t1 5)]), (23, .slice (some ⟨gB, ob, none⟩) bl bc), (24, .int .i64 (pj : Int)), (25, .pointer (some ⟨gB, ob + pj * 2, none⟩)), (26, .agg #[.int .i64 r2, .slice ta2 tl2 tc2]), (27, .pointer (some ⟨gS, 1, none⟩)), (28, .slice (some ⟨gX, ox, none⟩) xl xc), (29, .int .i64 (pj : Int)), (30, .pointer (some ⟨gX, ox + pj, none⟩)), (31, .int .i64 z2), (32, .agg #[.int .i64 (stayZ (z2) t2 0), .int .i64 (stayZ (z2) t2 1), .int .i64 (stayZ (z2) t2 2), .int .i64 (stayZ (z2) t2 3), .int .i64 (stayZ (z2) t2 4), .int .i64 (stayZ (z2) t2 5)]), (9, .pointer (some ⟨b20, 0, none⟩)), (10, .pointer (some ⟨b21, 0, none⟩))]) w) :
    (Code.region id #[o0, o1, o2, o3, o4, o5, o6, o7, o8, o9, o10, o11, o12, o13, o14, o15, o16, o17, o18, o19, o20, o21, o22, o23] true).wp Tryd.prog Q a0 W := by
  refine Shape.region clash_regS (fun i v w => (fun (v : Value) => (match i with | 0 => v = .slice (some ⟨gB, ob, none⟩) bl bc | 1 => v = .int .i64 (pi : Int) | 2 => v = .pointer (some ⟨gB, ob + pi * 2, none⟩) | 3 => v = .agg #[.int .i64 r1, .slice ta1 tl1 tc1] | 4 => v = .pointer (some ⟨gS, 1, none⟩) | 5 => v = .slice (some ⟨gX, ox, none⟩) xl xc | 6 => v = .int .i64 (pi : Int) | 7 => v = .pointer (some ⟨gX, ox + pi, none⟩) | 8 => v = .int .i64 z1 | 9 => IsA (t1) (z1) v w | 10 => v = .slice (some ⟨gB, ob, none⟩) bl bc | 11 => v = .int .i64 (pj : Int) | 12 => v = .pointer (some ⟨gB, ob + pj * 2, none⟩) | 13 => v = .agg #[.int .i64 r2, .slice ta2 tl2 tc2] | 14 => v = .pointer (some ⟨gS, 1, none⟩) | 15 => v = .slice (some ⟨gX, ox, none⟩) xl xc | 16 => v = .int .i64 (pj : Int) | 17 => v = .pointer (some ⟨gX, ox + pj, none⟩) | 18 => v = .int .i64 z2 | 19 => IsB (t2) (z2) v w | _ => True : Prop)) (v i)) (by kernel_rfl) hok
    (fun i v v' w _ hj hΦ => by rw [← hj i (.inl rfl)]; exact hΦ) ?stab ?val ?box ?put rfl ?fin
  case stab =>
    intro i v hi
    match i with
    | 0 => exact Stable.const _ _
    | 1 => exact Stable.const _ _
    | 2 => exact Stable.const _ _
    | 3 => exact Stable.const _ _
    | 4 => exact Stable.const _ _
    | 5 => exact Stable.const _ _
    | 6 => exact Stable.const _ _
    | 7 => exact Stable.const _ _
    | 8 => exact Stable.const _ _
    | 9 => exact Stable.isA _ _ _ _
    | 10 => exact Stable.const _ _
    | 11 => exact Stable.const _ _
    | 12 => exact Stable.const _ _
    | 13 => exact Stable.const _ _
    | 14 => exact Stable.const _ _
    | 15 => exact Stable.const _ _
    | 16 => exact Stable.const _ _
    | 17 => exact Stable.const _ _
    | 18 => exact Stable.const _ _
    | 19 => exact Stable.isB _ _ _ _
    | 20 => exact Stable.const _ _
    | 21 => exact Stable.const _ _
    | 22 => exact Stable.const _ _
    | 23 => exact Stable.const _ _
    | i + 24 => exact Stable.const _ _
  case val =>
    intro i o ho hv a w hA hb hz hn K' hK
    have hw := below_undrew hb
    have kP_0 := (hb.cell (p := ⟨gB, ob + pi * 2, none⟩) hgP).trans cP_0
    have kP_1 := (hb.cell (p := ⟨gB, ob + pi * 2 + 1, none⟩) hgP).trans cP_1
    have kQ_0 := (hb.cell (p := ⟨gB, ob + pj * 2, none⟩) hgQ).trans cQ_0
    have kQ_1 := (hb.cell (p := ⟨gB, ob + pj * 2 + 1, none⟩) hgQ).trans cQ_1
    have erS : a.eval (.tmp 5) = .pointer (some ⟨gS, 0, none⟩) := (hA.eval (show 5 ∉ clash_regS.slots 24 by decide)).trans hrS
    have kS_0 := (hb.cell (p := ⟨gS, 0, none⟩) hgS).trans cS_0
    have kS_1 := (hb.cell (p := ⟨gS, 1, none⟩) hgS).trans cS_1
    have kS_2 := (hb.cell (p := ⟨gS, 2, none⟩) hgS).trans cS_2
    have kX_0 := (hb.cell (p := ⟨gX, ox + pi, none⟩) hgX).trans cX_0
    have kY_0 := (hb.cell (p := ⟨gX, ox + pj, none⟩) hgY).trans cY_0
    have emB : a.eval (.tmp 0) = .slice (some ⟨gB, ob, none⟩) bl bc := (hA.eval (show 0 ∉ clash_regS.slots 24 by decide)).trans hmB
    have emI : a.eval (.tmp 2) = .int .i64 (pi : Int) := (hA.eval (show 2 ∉ clash_regS.slots 24 by decide)).trans hmI
    have emJ : a.eval (.tmp 3) = .int .i64 (pj : Int) := (hA.eval (show 3 ∉ clash_regS.slots 24 by decide)).trans hmJ
    match i, ho, hv with
    | 0, ho, _ =>
      have ho' : o0 = o := by simpa using ho
      subst ho'
      exact wp_value (run_move h0 a w) (hK _ _ (Below.refl _ _) (by simp [updV, emB]))
    | 1, ho, _ =>
      have ho' : o1 = o := by simpa using ho
      subst ho'
      exact wp_value (run_move h1 a w) (hK _ _ (Below.refl _ _) (by simp [updV, emI]))
    | 2, ho, _ =>
      have ho' : o2 = o := by simpa using ho
      subst ho'
      have e1 : a.eval (.tmp 13) = .slice (some ⟨gB, ob, none⟩) bl bc := hn 0 (by simp [clash_regS]) rfl
      have e2 : a.eval (.tmp 14) = .int .i64 (pi : Int) := hn 1 (by simp [clash_regS]) rfl
      refine wp_value (v := .pointer (some ⟨gB, ob + pi * 2, none⟩)) (w' := w) ?_ (hK _ _ (Below.refl _ _) (by simp [updV]))
      unfold execOp
      rw [h2]
      dsimp only
      rw [e1, e2]
      simp [go_sem, at_runB pi bl gB ob bc hpi hbl w]
    | 3, ho, _ =>
      have ho' : o3 = o := by simpa using ho
      subst ho'
      have e : a.eval (.tmp 15) = .pointer (some ⟨gB, ob + pi * 2, none⟩) := hn 2 (by simp [clash_regS]) rfl
      refine wp_value (v := .agg #[.int .i64 r1, .slice ta1 tl1 tc1]) (w' := w) ?_ (hK _ _ (Below.refl _ _) (by simp [updV]))
      unfold execOp
      rw [h3]
      dsimp only
      rw [e]
      simp [go_sem, kP_0, kP_1]
    | 4, ho, _ =>
      have ho' : o4 = o := by simpa using ho
      subst ho'
      refine wp_value (v := .pointer (some ⟨gS, 1, none⟩)) (w' := w) ?_ (hK _ _ (Below.refl _ _) (by simp [updV]))
      unfold execOp
      rw [h4]
      dsimp only
      rw [erS]
      simp [go_sem]
    | 5, ho, _ =>
      have ho' : o5 = o := by simpa using ho
      subst ho'
      have e : a.eval (.tmp 17) = .pointer (some ⟨gS, 1, none⟩) := hn 4 (by simp [clash_regS]) rfl
      refine wp_value (v := .slice (some ⟨gX, ox, none⟩) xl xc) (w' := w) ?_ (hK _ _ (Below.refl _ _) (by simp [updV]))
      unfold execOp
      rw [h5]
      dsimp only
      rw [e]
      simp [go_sem, kS_0, kS_1, kS_2]
    | 6, ho, _ =>
      have ho' : o6 = o := by simpa using ho
      subst ho'
      exact wp_value (run_move h6 a w) (hK _ _ (Below.refl _ _) (by simp [updV, emI]))
    | 7, ho, _ =>
      have ho' : o7 = o := by simpa using ho
      subst ho'
      have e1 : a.eval (.tmp 18) = .slice (some ⟨gX, ox, none⟩) xl xc := hn 5 (by simp [clash_regS]) rfl
      have e2 : a.eval (.tmp 19) = .int .i64 (pi : Int) := hn 6 (by simp [clash_regS]) rfl
      refine wp_value (v := .pointer (some ⟨gX, ox + pi, none⟩)) (w' := w) ?_ (hK _ _ (Below.refl _ _) (by simp [updV]))
      unfold execOp
      rw [h7]
      dsimp only
      rw [e1, e2]
      simp [go_sem, at_runI pi xl gX ox xc hpix hxl w]
    | 8, ho, _ =>
      have ho' : o8 = o := by simpa using ho
      subst ho'
      have e : a.eval (.tmp 20) = .pointer (some ⟨gX, ox + pi, none⟩) := hn 7 (by simp [clash_regS]) rfl
      refine wp_value (v := .int .i64 z1) (w' := w) ?_ (hK _ _ (Below.refl _ _) (by simp [updV]))
      unfold execOp
      rw [h8]
      dsimp only
      rw [e]
      simp [go_sem, kX_0]
    | 9, ho, _ =>
      have ho' : o9 = o := by simpa using ho
      subst ho'
      have e3 : a.eval (.tmp 16) = .agg #[.int .i64 r1, .slice ta1 tl1 tc1] := hn 3 (by simp [clash_regS]) rfl
      have e8 : a.eval (.tmp 21) = .int .i64 z1 := hn 8 (by simp [clash_regS]) rfl
      refine wp_call (run_call Tryd.func37 (by kernel_rfl) rfl h9 a w) ?_ (fun v w' hb' hφ => hK v w' hb' (by simpa [updV] using hφ))
      have em : Array.map a.eval #[Operand.tmp 16, Operand.tmp 21] = #[a.eval (.tmp 16), a.eval (.tmp 21)] := by first | (simp only [List.map_toArray, List.map_cons, List.map_nil]; done) | (simp only [List.map_toArray, List.map_cons, List.map_nil]; rfl) | rfl
      rw [em, e3, e8]
      exact (stays_any r1 z1 ta1 tl1 tc1 t1 w (ks1.keep hw) kc1 kd1 ka1 kb1).mono fun e w' h => ⟨_, h.1, ⟨0, rfl, rfl⟩, h.2⟩
    | 10, ho, _ =>
      have ho' : o10 = o := by simpa using ho
      subst ho'
      exact wp_value (run_move h10 a w) (hK _ _ (Below.refl _ _) (by simp [updV, emB]))
    | 11, ho, _ =>
      have ho' : o11 = o := by simpa using ho
      subst ho'
      exact wp_value (run_move h11 a w) (hK _ _ (Below.refl _ _) (by simp [updV, emJ]))
    | 12, ho, _ =>
      have ho' : o12 = o := by simpa using ho
      subst ho'
      have e1 : a.eval (.tmp 23) = .slice (some ⟨gB, ob, none⟩) bl bc := hn 10 (by simp [clash_regS]) rfl
      have e2 : a.eval (.tmp 24) = .int .i64 (pj : Int) := hn 11 (by simp [clash_regS]) rfl
      refine wp_value (v := .pointer (some ⟨gB, ob + pj * 2, none⟩)) (w' := w) ?_ (hK _ _ (Below.refl _ _) (by simp [updV]))
      unfold execOp
      rw [h12]
      dsimp only
      rw [e1, e2]
      simp [go_sem, at_runB pj bl gB ob bc hpj hbl w]
    | 13, ho, _ =>
      have ho' : o13 = o := by simpa using ho
      subst ho'
      have e : a.eval (.tmp 25) = .pointer (some ⟨gB, ob + pj * 2, none⟩) := hn 12 (by simp [clash_regS]) rfl
      refine wp_value (v := .agg #[.int .i64 r2, .slice ta2 tl2 tc2]) (w' := w) ?_ (hK _ _ (Below.refl _ _) (by simp [updV]))
      unfold execOp
      rw [h13]
      dsimp only
      rw [e]
      simp [go_sem, kQ_0, kQ_1]
    | 14, ho, _ =>
      have ho' : o14 = o := by simpa using ho
      subst ho'
      refine wp_value (v := .pointer (some ⟨gS, 1, none⟩)) (w' := w) ?_ (hK _ _ (Below.refl _ _) (by simp [updV]))
      unfold execOp
      rw [h14]
      dsimp only
      rw [erS]
      simp [go_sem]
    | 15, ho, _ =>
      have ho' : o15 = o := by simpa using ho
      subst ho'
      have e : a.eval (.tmp 27) = .pointer (some ⟨gS, 1, none⟩) := hn 14 (by simp [clash_regS]) rfl
      refine wp_value (v := .slice (some ⟨gX, ox, none⟩) xl xc) (w' := w) ?_ (hK _ _ (Below.refl _ _) (by simp [updV]))
      unfold execOp
      rw [h15]
      dsimp only
      rw [e]
      simp [go_sem, kS_0, kS_1, kS_2]
    | 16, ho, _ =>
      have ho' : o16 = o := by simpa using ho
      subst ho'
      exact wp_value (run_move h16 a w) (hK _ _ (Below.refl _ _) (by simp [updV, emJ]))
    | 17, ho, _ =>
      have ho' : o17 = o := by simpa using ho
      subst ho'
      have e1 : a.eval (.tmp 28) = .slice (some ⟨gX, ox, none⟩) xl xc := hn 15 (by simp [clash_regS]) rfl
      have e2 : a.eval (.tmp 29) = .int .i64 (pj : Int) := hn 16 (by simp [clash_regS]) rfl
      refine wp_value (v := .pointer (some ⟨gX, ox + pj, none⟩)) (w' := w) ?_ (hK _ _ (Below.refl _ _) (by simp [updV]))
      unfold execOp
      rw [h17]
      dsimp only
      rw [e1, e2]
      simp [go_sem, at_runI pj xl gX ox xc hpjx hxl w]
    | 18, ho, _ =>
      have ho' : o18 = o := by simpa using ho
      subst ho'
      have e : a.eval (.tmp 30) = .pointer (some ⟨gX, ox + pj, none⟩) := hn 17 (by simp [clash_regS]) rfl
      refine wp_value (v := .int .i64 z2) (w' := w) ?_ (hK _ _ (Below.refl _ _) (by simp [updV]))
      unfold execOp
      rw [h18]
      dsimp only
      rw [e]
      simp [go_sem, kY_0]
    | 19, ho, _ =>
      have ho' : o19 = o := by simpa using ho
      subst ho'
      have e13 : a.eval (.tmp 26) = .agg #[.int .i64 r2, .slice ta2 tl2 tc2] := hn 13 (by simp [clash_regS]) rfl
      have e18 : a.eval (.tmp 31) = .int .i64 z2 := hn 18 (by simp [clash_regS]) rfl
      refine wp_call (run_call Tryd.func37 (by kernel_rfl) rfl h19 a w) ?_ (fun v w' hb' hφ => hK v w' hb' (by simpa [updV] using hφ))
      have em : Array.map a.eval #[Operand.tmp 26, Operand.tmp 31] = #[a.eval (.tmp 26), a.eval (.tmp 31)] := by first | (simp only [List.map_toArray, List.map_cons, List.map_nil]; done) | (simp only [List.map_toArray, List.map_cons, List.map_nil]; rfl) | rfl
      rw [em, e13, e18]
      exact (stays_any r2 z2 ta2 tl2 tc2 t2 w (ks2.keep hw) kc2 kd2 ka2 kb2).mono fun e w' h => ⟨_, h.1, ⟨0, rfl, rfl⟩, h.2⟩
    | 20, _, hv => cases hv
    | 21, _, hv => cases hv
    | 22, _, hv => cases hv
    | 23, _, hv => cases hv
    | i + 24, ho, _ => simp at ho
  case box =>
    intro i o T z ho hk a w
    match i, ho, hk with
    | 0, _, hk => cases hk
    | 1, _, hk => cases hk
    | 2, _, hk => cases hk
    | 3, _, hk => cases hk
    | 4, _, hk => cases hk
    | 5, _, hk => cases hk
    | 6, _, hk => cases hk
    | 7, _, hk => cases hk
    | 8, _, hk => cases hk
    | 9, _, hk => cases hk
    | 10, _, hk => cases hk
    | 11, _, hk => cases hk
    | 12, _, hk => cases hk
    | 13, _, hk => cases hk
    | 14, _, hk => cases hk
    | 15, _, hk => cases hk
    | 16, _, hk => cases hk
    | 17, _, hk => cases hk
    | 18, _, hk => cases hk
    | 19, _, hk => cases hk
    | 20, ho, hk =>
      have ho' : o20 = o := by simpa using ho
      subst ho'; cases hk; unfold execOp; rw [h20]; simp [go_sem]
    | 21, ho, hk =>
      have ho' : o21 = o := by simpa using ho
      subst ho'; cases hk; unfold execOp; rw [h21]; simp [go_sem]
    | 22, _, hk => cases hk
    | 23, _, hk => cases hk
    | i + 24, ho, _ => simp at ho
  case put =>
    intro i o p' s' T z ho hk hp a w b hva hφ hbx
    match i, ho, hk with
    | 0, _, hk => cases hk
    | 1, _, hk => cases hk
    | 2, _, hk => cases hk
    | 3, _, hk => cases hk
    | 4, _, hk => cases hk
    | 5, _, hk => cases hk
    | 6, _, hk => cases hk
    | 7, _, hk => cases hk
    | 8, _, hk => cases hk
    | 9, _, hk => cases hk
    | 10, _, hk => cases hk
    | 11, _, hk => cases hk
    | 12, _, hk => cases hk
    | 13, _, hk => cases hk
    | 14, _, hk => cases hk
    | 15, _, hk => cases hk
    | 16, _, hk => cases hk
    | 17, _, hk => cases hk
    | 18, _, hk => cases hk
    | 19, _, hk => cases hk
    | 20, _, hk => cases hk
    | 21, _, hk => cases hk
    | 22, ho, hk =>
      have ho' : o22 = o := by simpa using ho
      subst ho'; cases hk; cases hp
      obtain ⟨b9, e9, x9⟩ := hφ
      have q1 : a.eval (.tmp 22) = .agg #[.int .i64 (stayZ (z1) t1 0), .int .i64 (stayZ (z1) t1 1), .int .i64 (stayZ (z1) t1 2), .int .i64 (stayZ (z1) t1 3), .int .i64 (stayZ (z1) t1 4), .int .i64 (stayZ (z1) t1 5)] := e9
      have q2 : a.eval (.tmp 9) = .pointer (some ⟨b, 0, none⟩) := hva
      have u0 := hbx.cell 0
      have f0 := hbx.frozen 0
      have u1 := hbx.cell 1
      have f1 := hbx.frozen 1
      have u2 := hbx.cell 2
      have f2 := hbx.frozen 2
      have u3 := hbx.cell 3
      have f3 := hbx.frozen 3
      have u4 := hbx.cell 4
      have f4 := hbx.frozen 4
      have u5 := hbx.cell 5
      have f5 := hbx.frozen 5
      refine ⟨[.int .i64 (stayZ (z1) t1 0), .int .i64 (stayZ (z1) t1 1), .int .i64 (stayZ (z1) t1 2), .int .i64 (stayZ (z1) t1 3), .int .i64 (stayZ (z1) t1 4), .int .i64 (stayZ (z1) t1 5)], e9, rfl, by simp [isInt], ?_⟩
      unfold execOp; rw [h22]
      dsimp only
      rw [q1, q2]
      simp [go_sem, u0, f0, u1, f1, u2, f2, u3, f3, u4, f4, u5, f5, setFrom]
    | 23, ho, hk =>
      have ho' : o23 = o := by simpa using ho
      subst ho'; cases hk; cases hp
      obtain ⟨b19, e19, x19⟩ := hφ
      have q1 : a.eval (.tmp 32) = .agg #[.int .i64 (stayZ (z2) t2 0), .int .i64 (stayZ (z2) t2 1), .int .i64 (stayZ (z2) t2 2), .int .i64 (stayZ (z2) t2 3), .int .i64 (stayZ (z2) t2 4), .int .i64 (stayZ (z2) t2 5)] := e19
      have q2 : a.eval (.tmp 10) = .pointer (some ⟨b, 0, none⟩) := hva
      have u0 := hbx.cell 0
      have f0 := hbx.frozen 0
      have u1 := hbx.cell 1
      have f1 := hbx.frozen 1
      have u2 := hbx.cell 2
      have f2 := hbx.frozen 2
      have u3 := hbx.cell 3
      have f3 := hbx.frozen 3
      have u4 := hbx.cell 4
      have f4 := hbx.frozen 4
      have u5 := hbx.cell 5
      have f5 := hbx.frozen 5
      refine ⟨[.int .i64 (stayZ (z2) t2 0), .int .i64 (stayZ (z2) t2 1), .int .i64 (stayZ (z2) t2 2), .int .i64 (stayZ (z2) t2 3), .int .i64 (stayZ (z2) t2 4), .int .i64 (stayZ (z2) t2 5)], e19, rfl, by simp [isInt], ?_⟩
      unfold execOp; rw [h23]
      dsimp only
      rw [q1, q2]
      simp [go_sem, u0, f0, u1, f1, u2, f2, u3, f3, u4, f4, u5, f5, setFrom]
    | i + 24, ho, _ => simp at ho
  case fin =>
    intro a w blk hI
    have n8 : (#[o0, o1, o2, o3, o4, o5, o6, o7, o8, o9, o10, o11, o12, o13, o14, o15, o16, o17, o18, o19, o20, o21, o22, o23] : Array Oper).size = 24 := rfl
    rw [n8] at hI
    have hf := hI.agree.form
    have e0 : a.eval (.tmp 13) = .slice (some ⟨gB, ob, none⟩) bl bc := hI.vals 0 (by decide) (by decide) rfl
    have e1 : a.eval (.tmp 14) = .int .i64 (pi : Int) := hI.vals 1 (by decide) (by decide) rfl
    have e2 : a.eval (.tmp 15) = .pointer (some ⟨gB, ob + pi * 2, none⟩) := hI.vals 2 (by decide) (by decide) rfl
    have e3 : a.eval (.tmp 16) = .agg #[.int .i64 r1, .slice ta1 tl1 tc1] := hI.vals 3 (by decide) (by decide) rfl
    have e4 : a.eval (.tmp 17) = .pointer (some ⟨gS, 1, none⟩) := hI.vals 4 (by decide) (by decide) rfl
    have e5 : a.eval (.tmp 18) = .slice (some ⟨gX, ox, none⟩) xl xc := hI.vals 5 (by decide) (by decide) rfl
    have e6 : a.eval (.tmp 19) = .int .i64 (pi : Int) := hI.vals 6 (by decide) (by decide) rfl
    have e7 : a.eval (.tmp 20) = .pointer (some ⟨gX, ox + pi, none⟩) := hI.vals 7 (by decide) (by decide) rfl
    have e8 : a.eval (.tmp 21) = .int .i64 z1 := hI.vals 8 (by decide) (by decide) rfl
    obtain ⟨b9, e9, x9⟩ : IsA (t1) (z1) (a.eval (.tmp 22)) w := hI.vals 9 (by decide) (by decide) rfl
    have e10 : a.eval (.tmp 23) = .slice (some ⟨gB, ob, none⟩) bl bc := hI.vals 10 (by decide) (by decide) rfl
    have e11 : a.eval (.tmp 24) = .int .i64 (pj : Int) := hI.vals 11 (by decide) (by decide) rfl
    have e12 : a.eval (.tmp 25) = .pointer (some ⟨gB, ob + pj * 2, none⟩) := hI.vals 12 (by decide) (by decide) rfl
    have e13 : a.eval (.tmp 26) = .agg #[.int .i64 r2, .slice ta2 tl2 tc2] := hI.vals 13 (by decide) (by decide) rfl
    have e14 : a.eval (.tmp 27) = .pointer (some ⟨gS, 1, none⟩) := hI.vals 14 (by decide) (by decide) rfl
    have e15 : a.eval (.tmp 28) = .slice (some ⟨gX, ox, none⟩) xl xc := hI.vals 15 (by decide) (by decide) rfl
    have e16 : a.eval (.tmp 29) = .int .i64 (pj : Int) := hI.vals 16 (by decide) (by decide) rfl
    have e17 : a.eval (.tmp 30) = .pointer (some ⟨gX, ox + pj, none⟩) := hI.vals 17 (by decide) (by decide) rfl
    have e18 : a.eval (.tmp 31) = .int .i64 z2 := hI.vals 18 (by decide) (by decide) rfl
    obtain ⟨b19, e19, x19⟩ : IsB (t2) (z2) (a.eval (.tmp 32)) w := hI.vals 19 (by decide) (by decide) rfl
    obtain ⟨p20, r20, _, k20⟩ := hI.boxes 20 73 #[.int .i64 0, .int .i64 0, .int .i64 0, .int .i64 0, .int .i64 0, .int .i64 0] (by decide) (by decide) rfl
    obtain ⟨us20, i20, _, _, j20⟩ := k20 (show (22 : Nat) < 24 by decide)
    have y_20 : a.eval (.tmp 22) = .agg us20.toArray := i20
    rw [e9] at y_20
    cases y_20
    have e20 : a.eval (.tmp 9) = .pointer (some ⟨blk 20, 0, none⟩) := p20
    obtain ⟨p21, r21, _, k21⟩ := hI.boxes 21 73 #[.int .i64 0, .int .i64 0, .int .i64 0, .int .i64 0, .int .i64 0, .int .i64 0] (by decide) (by decide) rfl
    obtain ⟨us21, i21, _, _, j21⟩ := k21 (show (23 : Nat) < 24 by decide)
    have y_21 : a.eval (.tmp 32) = .agg us21.toArray := i21
    rw [e19] at y_21
    cases y_21
    have e21 : a.eval (.tmp 10) = .pointer (some ⟨blk 21, 0, none⟩) := p21
    have hsl : clash_regS.slots 24 = [13, 14, 15, 16, 17, 18, 19, 20, 21, 22, 23, 24, 25, 26, 27, 28, 29, 30, 31, 32, 9, 10] := rfl
    rw [hsl] at hf
    simp only [List.map_cons, List.map_nil, e0, e1, e2, e3, e4, e5, e6, e7, e8, e9, e10, e11, e12, e13, e14, e15, e16, e17, e18, e19, e20, e21] at hf
    rw [hf]
    exact hend w (blk 20) (blk 21) b9 b19  (below_undrew hI.below) r20 j20 r21 j21 (hI.apart 20 21 _ _ _ _ (by decide) (by decide) (by decide) (by decide) rfl rfl (by decide)) x9 x19
end Go.Proofs.YtbidadkcdchomaaDoor

/- package plan: clash. (By gen_pclash2.py.) -/
set_option linter.unusedVariables false
set_option linter.unusedSimpArgs false
namespace Go.Proofs.YtbidadkcdchomaaDoor
open Go.RowKit

/-- a slice of rows of integers -/
def Rows2 (w : World) (ao : Option Addr) (len : Nat) (xs : List (List Int)) : Prop :=
  xs.length = len ∧ ∃ g o, (0 < len → ao = some ⟨g, o, none⟩) ∧ ∀ i, i < len → ∃ ra rl rc, w.cell? ⟨g, o + i, none⟩ = some (.slice ra rl rc) ∧ Il w ra rl xs[i]! ∧ rl ≤ 9223372036854775807
theorem Rows2.keep {w w' : World} {ao : Option Addr} {len : Nat} {xs : List (List Int)} (h : Rows2 w ao len xs) (hb : Below w.heap.size w w') : Rows2 w' ao len xs := by
  obtain ⟨h1, g, o, h2, h3⟩ := h
  exact ⟨h1, g, o, h2, fun i hi => let ⟨ra, rl, rc, a, b, c⟩ := h3 i hi; ⟨ra, rl, rc, cell_later hb a, b.keep hb, c⟩⟩
/-- do two batches share a vessel of stage k at the same time? -/
def clashK (t1 t2 : List Nat) (z1 z2 : Int) (r1 r2 : List Int) (k : Nat) : Bool := decide (r1[k]?.getD 0 = r2[k]?.getD 0) && meetZ (stayZ z1 t1 (k * 2)) (stayZ z1 t1 (k * 2 + 1)) (stayZ z2 t2 (k * 2)) (stayZ z2 t2 (k * 2 + 1))
def clashZ (t1 t2 : List Nat) (z1 z2 : Int) (r1 r2 : List Int) : Bool := (List.range r1.length).any fun k => clashK t1 t2 z1 z2 r1 r2 k
theorem clash_yes {t1 t2 : List Nat} {z1 z2 : Int} {r1 r2 : List Int} {k : Nat} (hk : k < r1.length) (h : clashK t1 t2 z1 z2 r1 r2 k = true) : clashZ t1 t2 z1 z2 r1 r2 = true :=
  List.any_eq_true.2 ⟨k, List.mem_range.2 hk, h⟩
theorem clash_no {t1 t2 : List Nat} {z1 z2 : Int} {r1 r2 : List Int} (h : ∀ k, k < r1.length → clashK t1 t2 z1 z2 r1 r2 k = false) : clashZ t1 t2 z1 z2 r1 r2 = false := by
  unfold clashZ
  rw [List.any_eq_false]
  intro k hk
  rw [h k (List.mem_range.1 hk)]
  simp

set_option maxRecDepth 100000 in
set_option maxHeartbeats 8000000 in
theorem clash_any (b1 b2 : BN) (en z1 z2 : Int) (ba : Option Addr) (bl bc : Nat) (bn : List BN) (sa : Option Addr) (sl sc : Nat) (zs : List Int) (ya : Option Addr) (yl yc : Nat) (rs : List (List Int)) (r1 r2 : List Int) (pi pj : Nat) (W : World) (hg1 : r1 = rs[pi]!) (hg2 : r2 = rs[pj]!)
    (hb : Bats W ba bl (bn.map bI)) (hs : Il W sa sl zs) (hy : Rows2 W ya yl rs) (hbl : bl ≤ 5) (hsl : sl = bl) (hyl : yl = bl) (hpi : pi < bl) (hpj : pj < bl)
    (hb1 : b1 = bn[pi]!) (hb2 : b2 = bn[pj]!) (hz1 : z1 = zs[pi]?.getD 0) (hz2 : z2 = zs[pj]?.getD 0)
    (hm1 : ∀ k, k < b1.tm.length → b1.tm[k]! ≤ 30) (hl1 : b1.tm.length ≤ 3) (h01 : 0 ≤ z1) (h11 : z1 + (b1.tm.sum : Nat) ≤ 9223372036854775807)
    (hm2 : ∀ k, k < b2.tm.length → b2.tm[k]! ≤ 30) (hl2 : b2.tm.length ≤ 3) (h02 : 0 ≤ z2) (h12 : z2 + (b2.tm.sum : Nat) ≤ 9223372036854775807)
    (hr1 : r1.length = b1.tm.length) (hr2 : r2.length = b1.tm.length) :
    Calls Tryd.prog 45 #[.slice ba bl bc, .agg #[.int .i64 en, .slice sa sl sc, .slice ya yl yc], .int .i64 (pi : Int), .int .i64 (pj : Int)] W fun e w' => e = .returned (.bool (clashZ b1.tm b2.tm z1 z2 r1 r2)) ∧ Below W.heap.size W w' := by
  obtain ⟨V, hV⟩ : ∃ V, V = W.alloc (.cells #[.int .i64 en, .slice sa sl sc, .slice ya yl yc] 28) := ⟨_, rfl⟩
  have HB : Hid (Below W.heap.size W V) := Lib.hid (by rw [hV]; exact box_below W _)
  have R : Hid (V.heap[W.heap.size]? = some (.cells #[.int .i64 en, .slice sa sl sc, .slice ya yl yc] 28 (0, 0))) := Lib.hid (by rw [hV]; exact new_row W _)
  have e0 := cell_row R.out 0
  have e1 := cell_row R.out 1
  have e2 := cell_row R.out 2
  simp at e0 e1 e2
  have hlen : bn.length = bl := by have := hb.1; simpa using this
  obtain ⟨gB, ob, ta1, tl1, tc1, hgB, hx1⟩ := (hb.keep HB.out).at hpi
  obtain ⟨gB', ob', ta2, tl2, tc2, hgB', hx2⟩ := (hb.keep HB.out).at hpj
  rw [hgB] at hgB'
  cases hgB'
  rw [bI_at (by omega), ← hb1] at hx1
  rw [bI_at (by omega), ← hb2] at hx2
  obtain ⟨gX, ox, hgX, hzc⟩ := (hs.keep HB.out).at (show 0 < sl by omega)
  have cz1 := hzc pi (by omega)
  have cz2 := hzc pj (by omega)
  rw [← hz1] at cz1
  rw [← hz2] at cz2
  obtain ⟨hyn, gY, oy, hgY, hyr⟩ := hy.keep HB.out
  have hgY := hgY (by omega)
  obtain ⟨ra1, rl1, rc1, cr1, il1, rle1⟩ := hyr pi (by omega)
  obtain ⟨ra2, rl2, rc2, cr2, il2, rle2⟩ := hyr pj (by omega)
  rw [← hg1] at il1
  rw [← hg2] at il2
  have R1 := Lib.hid il1
  have R2 := Lib.hid il2
  have L1 := Lib.hid (il1.len.symm.trans hr1)
  have L2 := Lib.hid (il2.len.symm.trans hr2)
  have RL1 := Lib.hid il1.len
  have n3 : rl1 ≤ 3 := by have := il1.len.symm.trans hr1; omega
  have C1 := Lib.hid cr1
  have C2 := Lib.hid cr2
  have ps : pi < sl := by omega
  have pt : pj < sl := by omega
  have py : pi < yl := by omega
  have pz : pj < yl := by omega
  have s1000 : sl ≤ 1000 := by omega
  have y1000 : yl ≤ 1000 := by omega
  have q0 : (0 : Int) ≤ (pi : Int) := by omega
  have q1 : (pi : Int) < (yl : Int) := by omega
  have q2 : (0 : Int) ≤ (pj : Int) := by omega
  have q3 : (pj : Int) < (yl : Int) := by omega
  subst hgB hgX hgY
  have HX1 := Lib.hid hx1
  have HX2 := Lib.hid hx2
  have HV := Lib.hid hV
  have E0 := Lib.hid e0
  have E1 := Lib.hid e1
  have E2 := Lib.hid e2
  have CZ1 := Lib.hid cz1
  have CZ2 := Lib.hid cz2
  have HM1 := Lib.hid hm1
  have HM2 := Lib.hid hm2
  clear hV hb hs hy hx1 hx2 hzc cz1 cz2 hyr il1 il2 cr1 cr2 e0 e1 e2 hr1 hr2 hm1 hm2 hb1 hb2 hz1 hz2 hg1 hg2 hlen hyn hsl hyl
  go_enter Tryd.func45, Tryd.ntmps45
  go_upto_region 1 with fail
  rw [← HV.out]
  refine clash_reg (b1.rdy : Int) (b2.rdy : Int) z1 z2 en ta1 ta2 (some ⟨gY, oy, none⟩) tl1 tc1 tl2 tc2 sl sc yl yc bl bc pi pj ob ox b1.tm b2.tm gB W.heap.size gX _ _ (by kernel_rfl) rfl rfl rfl rfl rfl rfl rfl rfl rfl rfl rfl rfl rfl rfl rfl rfl rfl rfl rfl rfl rfl rfl rfl rfl (block_lt_of_cell HX1.out.c0) HX1.out.c0 HX1.out.c1 (block_lt_of_cell HX2.out.c0) HX2.out.c0 HX2.out.c1 rfl (block_lt_of_cell E0.out) E0.out E1.out E2.out (block_lt_of_cell CZ1.out) CZ1.out (block_lt_of_cell CZ2.out) CZ2.out rfl rfl rfl hpi hpj (by omega) ps pt s1000 HX1.out.il HM1.out hl1 h01 h11 HX2.out.il HM2.out hl2 h02 h12 ?_
  intro w1 bA bB bz1 bz2 hw1 hA0 hAx hB0 hBx hAB hbz1 hbz2
  have HW1 := Lib.hid hw1
  have HA := Lib.hid hAx
  have HBx := Lib.hid hBx
  have HVW := Lib.hid (HB.out.trans (hw1.mono HB.out.size))
  clear hw1 hAx hBx hAB hbz1 hbz2
  simp only [puts, Act.put]
  have p2 := cell_later HW1.out E2.out
  have pr1 := cell_later HW1.out C1.out
  go_wp2
  go_loopg [39] rl1 (fun gg s39 wr => ∃ k : Nat, s39 = .int .i64 (k : Int) ∧ k ≤ rl1 ∧ rl1 - k ≤ gg ∧ Hid (∀ q, q < k → clashK b1.tm b2.tm z1 z2 r1 r2 q = false) ∧ Hid (Below w1.heap.size w1 wr))
  case atStart => exact ⟨0, rfl, Nat.zero_le _, by omega, Lib.hid (fun q hq => absurd hq (by omega)), Lib.hid (Below.refl _ _)⟩
  case round =>
    obtain ⟨k, rfl, hk, hgg, HN, HBr⟩ := hrel
    clear p2 pr1
    by_cases h1 : k < rl1
    · have u0 : (0 : Int) ≤ (k : Int) := by omega
      have u1 : (k : Int) < (rl1 : Int) := by omega
      have u2 : (k : Int) < (rl2 : Int) := by have a := L1.out; have b := L2.out; omega
      have u3 : (k : Int) < 3 := by omega
      obtain ⟨gr, og, rfl, hc1⟩ := R1.out.at (by omega)
      obtain ⟨gc, oc, rfl, hc2⟩ := R2.out.at (show 0 < rl2 by have a := L1.out; have b := L2.out; omega)
      have HVr := Lib.hid (HW1.out.trans (HBr.out.mono HW1.out.size))
      have p2 := cell_later HVr.out E2.out
      have pr := cell_later HVr.out C2.out
      have pc1 := cell_later HVr.out (hc1 k h1)
      have pc := cell_later HVr.out (hc2 k (by have a := L1.out; have b := L2.out; omega))
      have rA := row_keep HBr.out HA.out
      have rB := row_keep HBr.out HBx.out
      have pa0 := cell_row rA (k * 2)
      have pa1 := cell_row rA (k * 2 + 1)
      have pd0 := cell_row rB (k * 2)
      have pd1 := cell_row rB (k * 2 + 1)
      have va0 := stayV_get z1 b1.tm (k * 2) (by omega)
      have va1 := stayV_get z1 b1.tm (k * 2 + 1) (by omega)
      have vd0 := stayV_get z2 b2.tm (k * 2) (by omega)
      have vd1 := stayV_get z2 b2.tm (k * 2 + 1) (by omega)
      unfold stayV at va0 va1 vd0 vd1
      rw [va0] at pa0
      rw [va1] at pa1
      rw [vd0] at pd0
      rw [vd1] at pd1
      have HK := Lib.hid (show clashK b1.tm b2.tm z1 z2 r1 r2 k = (decide (r1[k]?.getD 0 = r2[k]?.getD 0) && meetZ (stayZ z1 b1.tm (k * 2)) (stayZ z1 b1.tm (k * 2 + 1)) (stayZ z2 b2.tm (k * 2)) (stayZ z2 b2.tm (k * 2 + 1))) from rfl)
      clear hc1 hc2 rA rB va0 va1 vd0 vd1
      generalize stayZ z1 b1.tm (k * 2) = a0 at pa0 HK
      generalize stayZ z1 b1.tm (k * 2 + 1) = a1 at pa1 HK
      generalize stayZ z2 b2.tm (k * 2) = d0 at pd0 HK
      generalize stayZ z2 b2.tm (k * 2 + 1) = d1 at pd1 HK
      generalize r1[k]?.getD 0 = x at pc1 HK
      generalize r2[k]?.getD 0 = y at pc HK
      have HB9 := Lib.hid (HVW.out.trans (HBr.out.mono HVW.out.size))
      by_cases hxy : x = y
      · subst hxy
        have t0 : (x == x) = true := beq_iff_eq.2 rfl
        have HK2 := Lib.hid (show clashK b1.tm b2.tm z1 z2 r1 r2 k = meetZ a0 a1 d0 d1 by rw [HK.out]; simp)
        cases hm : meetZ a0 a1 d0 d1 with
        | true =>
          rw [hm] at HK2
          have HM := Lib.hid hm
          clear hm HK
          go_wp2_with fail
          refine wp_region_held_drew (S := fun w' => w'.cell? ⟨W.heap.size, 2, none⟩ = some (.slice (some ⟨gY, oy, none⟩) yl yc) ∧ w'.cell? ⟨gY, oy + pj, none⟩ = some (.slice (some ⟨gc, oc, none⟩) rl2 rc2) ∧ w'.cell? ⟨gc, oc + k, none⟩ = some (.int .i64 x) ∧ w'.cell? ⟨bA, k * 2, none⟩ = some (.int .i64 a0) ∧ w'.cell? ⟨bA, k * 2 + 1, none⟩ = some (.int .i64 a1) ∧ w'.cell? ⟨bB, k * 2, none⟩ = some (.int .i64 d0) ∧ w'.cell? ⟨bB, k * 2 + 1, none⟩ = some (.int .i64 d1)) (by kernel_rfl) ⟨p2, pr, pc, pa0, pa1, pd0, pd1⟩ (fun hS => ?_)
          clear p2 pr pc pa0 pa1 pd0 pd1
          refine wpAnyH_take (i := 0) (v := ?vy0) rfl (by kernel_rfl) (by kernel_rfl) (by kernel_rfl) (fun _ _ _ h => h) (Or.inl ⟨by rfl, ?hyy0⟩) hS ?resty0
          case hyy0 => (intro w hSw; (try dsimp only at hSw); (first | (go_simp; done) | (go_simp; with_reducible rfl)))
          try simp only [Act.put, List.getElem_toArray, List.getElem_cons_succ, List.getElem_cons_zero, List.setIfInBounds_toArray, List.set_cons_zero, List.set_cons_succ]
          refine wpAnyH_take (i := 1) (v := ?vy1) rfl (by kernel_rfl) (by kernel_rfl) (by kernel_rfl) (fun _ _ _ h => h) (Or.inl ⟨by rfl, ?hyy1⟩) hS ?resty1
          case hyy1 => (intro w hSw; (try dsimp only at hSw); (first | (go_simp; done) | (go_simp; with_reducible rfl)))
          try simp only [Act.put, List.getElem_toArray, List.getElem_cons_succ, List.getElem_cons_zero, List.setIfInBounds_toArray, List.set_cons_zero, List.set_cons_succ]
          refine wpAnyH_take (i := 2) (v := ?vy2) rfl (by kernel_rfl) (by kernel_rfl) (by kernel_rfl) (fun _ _ _ h => h) (Or.inl ⟨by rfl, ?hyy2⟩) hS ?resty2
          case hyy2 => (intro w hSw; (try dsimp only at hSw); (first | (go_simp; done) | (go_simp; with_reducible rfl)))
          try simp only [Act.put, List.getElem_toArray, List.getElem_cons_succ, List.getElem_cons_zero, List.setIfInBounds_toArray, List.set_cons_zero, List.set_cons_succ]
          refine wpAnyH_take (i := 3) (v := ?vy3) rfl (by kernel_rfl) (by kernel_rfl) (by kernel_rfl) (fun _ _ _ h => h) (Or.inl ⟨by rfl, ?hyy3⟩) hS ?resty3
          case hyy3 => (intro w hSw; (try dsimp only at hSw); (first | (go_simp; done) | (go_simp; with_reducible rfl)))
          try simp only [Act.put, List.getElem_toArray, List.getElem_cons_succ, List.getElem_cons_zero, List.setIfInBounds_toArray, List.set_cons_zero, List.set_cons_succ]
          refine wpAnyH_take (i := 4) (v := ?vy4) rfl (by kernel_rfl) (by kernel_rfl) (by kernel_rfl) (fun _ _ _ h => h) (Or.inl ⟨by rfl, ?hyy4⟩) hS ?resty4
          case hyy4 => (intro w hSw; (try dsimp only at hSw); (first | (go_simp; done) | (go_simp; with_reducible rfl)))
          try simp only [Act.put, List.getElem_toArray, List.getElem_cons_succ, List.getElem_cons_zero, List.setIfInBounds_toArray, List.set_cons_zero, List.set_cons_succ]
          refine wpAnyH_take (i := 5) (v := ?vy5) rfl (by kernel_rfl) (by kernel_rfl) (by kernel_rfl) (fun _ _ _ h => h) (Or.inl ⟨by rfl, ?hyy5⟩) hS ?resty5
          case hyy5 => (intro w hSw; (try dsimp only at hSw); (first | (go_simp; done) | (go_simp; with_reducible rfl)))
          try simp only [Act.put, List.getElem_toArray, List.getElem_cons_succ, List.getElem_cons_zero, List.setIfInBounds_toArray, List.set_cons_zero, List.set_cons_succ]
          refine wpAnyH_take (i := 6) (v := ?vy6) rfl (by kernel_rfl) (by kernel_rfl) (by kernel_rfl) (fun _ _ _ h => h) (Or.inl ⟨by rfl, ?hyy6⟩) hS ?resty6
          case hyy6 => (intro w hSw; (try dsimp only at hSw); (first | (go_simp; done) | (go_simp; with_reducible rfl)))
          try simp only [Act.put, List.getElem_toArray, List.getElem_cons_succ, List.getElem_cons_zero, List.setIfInBounds_toArray, List.set_cons_zero, List.set_cons_succ]
          refine wpAnyH_take (i := 7) (v := ?vy7) rfl (by kernel_rfl) (by kernel_rfl) (by kernel_rfl) (fun _ _ _ h => h) (Or.inl ⟨by rfl, ?hyy7⟩) hS ?resty7
          case hyy7 => (intro w hSw; (try dsimp only at hSw); (first | (go_simp; done) | (go_simp; with_reducible rfl)))
          try simp only [Act.put, List.getElem_toArray, List.getElem_cons_succ, List.getElem_cons_zero, List.setIfInBounds_toArray, List.set_cons_zero, List.set_cons_succ]
          refine wpAnyH_take (i := 8) (v := ?vy8) rfl (by kernel_rfl) (by kernel_rfl) (by kernel_rfl) (fun _ _ _ h => h) (Or.inl ⟨by rfl, ?hyy8⟩) hS ?resty8
          case hyy8 => (intro w hSw; (try dsimp only at hSw); (first | (go_simp; done) | (go_simp; with_reducible rfl)))
          try simp only [Act.put, List.getElem_toArray, List.getElem_cons_succ, List.getElem_cons_zero, List.setIfInBounds_toArray, List.set_cons_zero, List.set_cons_succ]
          refine wpAnyH_take (i := 9) (v := ?vy9) rfl (by kernel_rfl) (by kernel_rfl) (by kernel_rfl) (fun _ _ _ h => h) (Or.inl ⟨by rfl, ?hyy9⟩) hS ?resty9
          case hyy9 => (intro w hSw; (try dsimp only at hSw); (first | (go_simp; done) | (go_simp; with_reducible rfl)))
          try simp only [Act.put, List.getElem_toArray, List.getElem_cons_succ, List.getElem_cons_zero, List.setIfInBounds_toArray, List.set_cons_zero, List.set_cons_succ]
          refine wpAnyH_take (i := 10) (v := ?vy10) rfl (by kernel_rfl) (by kernel_rfl) (by kernel_rfl) (fun _ _ _ h => h) (Or.inl ⟨by rfl, ?hyy10⟩) hS ?resty10
          case hyy10 => (intro w hSw; (try dsimp only at hSw); (first | (go_simp; done) | (go_simp; with_reducible rfl)))
          try simp only [Act.put, List.getElem_toArray, List.getElem_cons_succ, List.getElem_cons_zero, List.setIfInBounds_toArray, List.set_cons_zero, List.set_cons_succ]
          refine wpAnyH_take (i := 11) (v := ?vy11) rfl (by kernel_rfl) (by kernel_rfl) (by kernel_rfl) (fun _ _ _ h => h) (Or.inl ⟨by rfl, ?hyy11⟩) hS ?resty11
          case hyy11 => (intro w hSw; (try dsimp only at hSw); (first | (go_simp; done) | (go_simp; with_reducible rfl)))
          try simp only [Act.put, List.getElem_toArray, List.getElem_cons_succ, List.getElem_cons_zero, List.setIfInBounds_toArray, List.set_cons_zero, List.set_cons_succ]
          refine wpAnyH_take (i := 12) (v := ?vy12) rfl (by kernel_rfl) (by kernel_rfl) (by kernel_rfl) (fun _ _ _ h => h) (Or.inl ⟨by rfl, ?hyy12⟩) hS ?resty12
          case hyy12 => (intro w hSw; (try dsimp only at hSw); (first | (go_simp; done) | (go_simp; with_reducible rfl)))
          try simp only [Act.put, List.getElem_toArray, List.getElem_cons_succ, List.getElem_cons_zero, List.setIfInBounds_toArray, List.set_cons_zero, List.set_cons_succ]
          refine wpAnyH_take (i := 13) (v := ?vy13) rfl (by kernel_rfl) (by kernel_rfl) (by kernel_rfl) (fun _ _ _ h => h) (Or.inl ⟨by rfl, ?hyy13⟩) hS ?resty13
          case hyy13 => (intro w hSw; (try dsimp only at hSw); (first | (go_simp; done) | (go_simp; with_reducible rfl)))
          try simp only [Act.put, List.getElem_toArray, List.getElem_cons_succ, List.getElem_cons_zero, List.setIfInBounds_toArray, List.set_cons_zero, List.set_cons_succ]
          refine wpAnyH_take (i := 14) (v := ?vy14) rfl (by kernel_rfl) (by kernel_rfl) (by kernel_rfl) (fun _ _ _ h => h) (Or.inl ⟨by rfl, ?hyy14⟩) hS ?resty14
          case hyy14 => (intro w hSw; (try dsimp only at hSw); (first | (go_simp; done) | (go_simp; with_reducible rfl)))
          try simp only [Act.put, List.getElem_toArray, List.getElem_cons_succ, List.getElem_cons_zero, List.setIfInBounds_toArray, List.set_cons_zero, List.set_cons_succ]
          refine wpAnyH_take (i := 15) (v := ?vy15) rfl (by kernel_rfl) (by kernel_rfl) (by kernel_rfl) (fun _ _ _ h => h) (Or.inl ⟨by rfl, ?hyy15⟩) hS ?resty15
          case hyy15 => (intro w hSw; (try dsimp only at hSw); (first | (go_simp; done) | (go_simp; with_reducible rfl)))
          try simp only [Act.put, List.getElem_toArray, List.getElem_cons_succ, List.getElem_cons_zero, List.setIfInBounds_toArray, List.set_cons_zero, List.set_cons_succ]
          refine wpAnyH_take (i := 16) (v := ?vy16) rfl (by kernel_rfl) (by kernel_rfl) (by kernel_rfl) (fun _ _ _ h => h) (Or.inl ⟨by rfl, ?hyy16⟩) hS ?resty16
          case hyy16 => (intro w hSw; (try dsimp only at hSw); (first | (go_simp; done) | (go_simp; with_reducible rfl)))
          try simp only [Act.put, List.getElem_toArray, List.getElem_cons_succ, List.getElem_cons_zero, List.setIfInBounds_toArray, List.set_cons_zero, List.set_cons_succ]
          refine wpAnyH_ready (rs := [17]) (by kernel_rfl) (by simp) ?_
          refine AllReadyH.cons rfl (fun K hK => ?_) AllReadyH.nil
          try go_simp
          go_at_call 55
          refine (meets_any a0 a1 d0 d1 _).mono ?_
          rintro e w1 ⟨rfl, hb⟩
          rw [HM.out]
          obtain ⟨z0, z1, z2, z3, z4, z5, z6⟩ := hS
          have HBR := Lib.hid (HBr.out.trans (((drew_below wr).trans hb).mono HBr.out.size))
          have x0 := cell_later hb z0
          have x1 := cell_later hb z1
          have x2 := cell_later hb z2
          have x3 := cell_later hb z3
          have x4 := cell_later hb z4
          have x5 := cell_later hb z5
          have x6 := cell_later hb z6
          clear hb z0 z1 z2 z3 z4 z5 z6
          refine hK.out _ _ ⟨x0, x1, x2, x3, x4, x5, x6⟩ (fun hS => ?_)
          clear hK K
          try simp only [Act.put, List.getElem_toArray, List.getElem_cons_succ, List.getElem_cons_zero, List.setIfInBounds_toArray, List.set_cons_zero, List.set_cons_succ]
          clear x0 x1 x2 x3 x4 x5 x6
          refine wpAnyH_take (i := 18) (v := ?vy18) rfl (by kernel_rfl) (by kernel_rfl) (by kernel_rfl) (fun _ _ _ h => h) (Or.inl ⟨by rfl, ?hyy18⟩) hS ?resty18
          case hyy18 => (intro w hSw; (try dsimp only at hSw); (first | (go_simp; done) | (go_simp; with_reducible rfl)))
          try simp only [Act.put, List.getElem_toArray, List.getElem_cons_succ, List.getElem_cons_zero, List.setIfInBounds_toArray, List.set_cons_zero, List.set_cons_succ]
          refine wpAnyH_done (by kernel_rfl) ?_ _
          all_goals go_wp2_with fail
          all_goals go_ret
          all_goals exact ⟨(congrArg (fun b => Ending.returned (.bool b)) (clash_yes (by rw [RL1.out]; exact h1) HK2.out)).symm, HVW.out.trans (HBR.out.mono HVW.out.size)⟩
        | false =>
          rw [hm] at HK2
          have HM := Lib.hid hm
          clear hm HK
          go_wp2_with fail
          refine wp_region_held_drew (S := fun w' => w'.cell? ⟨W.heap.size, 2, none⟩ = some (.slice (some ⟨gY, oy, none⟩) yl yc) ∧ w'.cell? ⟨gY, oy + pj, none⟩ = some (.slice (some ⟨gc, oc, none⟩) rl2 rc2) ∧ w'.cell? ⟨gc, oc + k, none⟩ = some (.int .i64 x) ∧ w'.cell? ⟨bA, k * 2, none⟩ = some (.int .i64 a0) ∧ w'.cell? ⟨bA, k * 2 + 1, none⟩ = some (.int .i64 a1) ∧ w'.cell? ⟨bB, k * 2, none⟩ = some (.int .i64 d0) ∧ w'.cell? ⟨bB, k * 2 + 1, none⟩ = some (.int .i64 d1)) (by kernel_rfl) ⟨p2, pr, pc, pa0, pa1, pd0, pd1⟩ (fun hS => ?_)
          clear p2 pr pc pa0 pa1 pd0 pd1
          refine wpAnyH_take (i := 0) (v := ?vn0) rfl (by kernel_rfl) (by kernel_rfl) (by kernel_rfl) (fun _ _ _ h => h) (Or.inl ⟨by rfl, ?hyn0⟩) hS ?restn0
          case hyn0 => (intro w hSw; (try dsimp only at hSw); (first | (go_simp; done) | (go_simp; with_reducible rfl)))
          try simp only [Act.put, List.getElem_toArray, List.getElem_cons_succ, List.getElem_cons_zero, List.setIfInBounds_toArray, List.set_cons_zero, List.set_cons_succ]
          refine wpAnyH_take (i := 1) (v := ?vn1) rfl (by kernel_rfl) (by kernel_rfl) (by kernel_rfl) (fun _ _ _ h => h) (Or.inl ⟨by rfl, ?hyn1⟩) hS ?restn1
          case hyn1 => (intro w hSw; (try dsimp only at hSw); (first | (go_simp; done) | (go_simp; with_reducible rfl)))
          try simp only [Act.put, List.getElem_toArray, List.getElem_cons_succ, List.getElem_cons_zero, List.setIfInBounds_toArray, List.set_cons_zero, List.set_cons_succ]
          refine wpAnyH_take (i := 2) (v := ?vn2) rfl (by kernel_rfl) (by kernel_rfl) (by kernel_rfl) (fun _ _ _ h => h) (Or.inl ⟨by rfl, ?hyn2⟩) hS ?restn2
          case hyn2 => (intro w hSw; (try dsimp only at hSw); (first | (go_simp; done) | (go_simp; with_reducible rfl)))
          try simp only [Act.put, List.getElem_toArray, List.getElem_cons_succ, List.getElem_cons_zero, List.setIfInBounds_toArray, List.set_cons_zero, List.set_cons_succ]
          refine wpAnyH_take (i := 3) (v := ?vn3) rfl (by kernel_rfl) (by kernel_rfl) (by kernel_rfl) (fun _ _ _ h => h) (Or.inl ⟨by rfl, ?hyn3⟩) hS ?restn3
          case hyn3 => (intro w hSw; (try dsimp only at hSw); (first | (go_simp; done) | (go_simp; with_reducible rfl)))
          try simp only [Act.put, List.getElem_toArray, List.getElem_cons_succ, List.getElem_cons_zero, List.setIfInBounds_toArray, List.set_cons_zero, List.set_cons_succ]
          refine wpAnyH_take (i := 4) (v := ?vn4) rfl (by kernel_rfl) (by kernel_rfl) (by kernel_rfl) (fun _ _ _ h => h) (Or.inl ⟨by rfl, ?hyn4⟩) hS ?restn4
          case hyn4 => (intro w hSw; (try dsimp only at hSw); (first | (go_simp; done) | (go_simp; with_reducible rfl)))
          try simp only [Act.put, List.getElem_toArray, List.getElem_cons_succ, List.getElem_cons_zero, List.setIfInBounds_toArray, List.set_cons_zero, List.set_cons_succ]
          refine wpAnyH_take (i := 5) (v := ?vn5) rfl (by kernel_rfl) (by kernel_rfl) (by kernel_rfl) (fun _ _ _ h => h) (Or.inl ⟨by rfl, ?hyn5⟩) hS ?restn5
          case hyn5 => (intro w hSw; (try dsimp only at hSw); (first | (go_simp; done) | (go_simp; with_reducible rfl)))
          try simp only [Act.put, List.getElem_toArray, List.getElem_cons_succ, List.getElem_cons_zero, List.setIfInBounds_toArray, List.set_cons_zero, List.set_cons_succ]
          refine wpAnyH_take (i := 6) (v := ?vn6) rfl (by kernel_rfl) (by kernel_rfl) (by kernel_rfl) (fun _ _ _ h => h) (Or.inl ⟨by rfl, ?hyn6⟩) hS ?restn6
          case hyn6 => (intro w hSw; (try dsimp only at hSw); (first | (go_simp; done) | (go_simp; with_reducible rfl)))
          try simp only [Act.put, List.getElem_toArray, List.getElem_cons_succ, List.getElem_cons_zero, List.setIfInBounds_toArray, List.set_cons_zero, List.set_cons_succ]
          refine wpAnyH_take (i := 7) (v := ?vn7) rfl (by kernel_rfl) (by kernel_rfl) (by kernel_rfl) (fun _ _ _ h => h) (Or.inl ⟨by rfl, ?hyn7⟩) hS ?restn7
          case hyn7 => (intro w hSw; (try dsimp only at hSw); (first | (go_simp; done) | (go_simp; with_reducible rfl)))
          try simp only [Act.put, List.getElem_toArray, List.getElem_cons_succ, List.getElem_cons_zero, List.setIfInBounds_toArray, List.set_cons_zero, List.set_cons_succ]
          refine wpAnyH_take (i := 8) (v := ?vn8) rfl (by kernel_rfl) (by kernel_rfl) (by kernel_rfl) (fun _ _ _ h => h) (Or.inl ⟨by rfl, ?hyn8⟩) hS ?restn8
          case hyn8 => (intro w hSw; (try dsimp only at hSw); (first | (go_simp; done) | (go_simp; with_reducible rfl)))
          try simp only [Act.put, List.getElem_toArray, List.getElem_cons_succ, List.getElem_cons_zero, List.setIfInBounds_toArray, List.set_cons_zero, List.set_cons_succ]
          refine wpAnyH_take (i := 9) (v := ?vn9) rfl (by kernel_rfl) (by kernel_rfl) (by kernel_rfl) (fun _ _ _ h => h) (Or.inl ⟨by rfl, ?hyn9⟩) hS ?restn9
          case hyn9 => (intro w hSw; (try dsimp only at hSw); (first | (go_simp; done) | (go_simp; with_reducible rfl)))
          try simp only [Act.put, List.getElem_toArray, List.getElem_cons_succ, List.getElem_cons_zero, List.setIfInBounds_toArray, List.set_cons_zero, List.set_cons_succ]
          refine wpAnyH_take (i := 10) (v := ?vn10) rfl (by kernel_rfl) (by kernel_rfl) (by kernel_rfl) (fun _ _ _ h => h) (Or.inl ⟨by rfl, ?hyn10⟩) hS ?restn10
          case hyn10 => (intro w hSw; (try dsimp only at hSw); (first | (go_simp; done) | (go_simp; with_reducible rfl)))
          try simp only [Act.put, List.getElem_toArray, List.getElem_cons_succ, List.getElem_cons_zero, List.setIfInBounds_toArray, List.set_cons_zero, List.set_cons_succ]
          refine wpAnyH_take (i := 11) (v := ?vn11) rfl (by kernel_rfl) (by kernel_rfl) (by kernel_rfl) (fun _ _ _ h => h) (Or.inl ⟨by rfl, ?hyn11⟩) hS ?restn11
          case hyn11 => (intro w hSw; (try dsimp only at hSw); (first | (go_simp; done) | (go_simp; with_reducible rfl)))
          try simp only [Act.put, List.getElem_toArray, List.getElem_cons_succ, List.getElem_cons_zero, List.setIfInBounds_toArray, List.set_cons_zero, List.set_cons_succ]
          refine wpAnyH_take (i := 12) (v := ?vn12) rfl (by kernel_rfl) (by kernel_rfl) (by kernel_rfl) (fun _ _ _ h => h) (Or.inl ⟨by rfl, ?hyn12⟩) hS ?restn12
          case hyn12 => (intro w hSw; (try dsimp only at hSw); (first | (go_simp; done) | (go_simp; with_reducible rfl)))
          try simp only [Act.put, List.getElem_toArray, List.getElem_cons_succ, List.getElem_cons_zero, List.setIfInBounds_toArray, List.set_cons_zero, List.set_cons_succ]
          refine wpAnyH_take (i := 13) (v := ?vn13) rfl (by kernel_rfl) (by kernel_rfl) (by kernel_rfl) (fun _ _ _ h => h) (Or.inl ⟨by rfl, ?hyn13⟩) hS ?restn13
          case hyn13 => (intro w hSw; (try dsimp only at hSw); (first | (go_simp; done) | (go_simp; with_reducible rfl)))
          try simp only [Act.put, List.getElem_toArray, List.getElem_cons_succ, List.getElem_cons_zero, List.setIfInBounds_toArray, List.set_cons_zero, List.set_cons_succ]
          refine wpAnyH_take (i := 14) (v := ?vn14) rfl (by kernel_rfl) (by kernel_rfl) (by kernel_rfl) (fun _ _ _ h => h) (Or.inl ⟨by rfl, ?hyn14⟩) hS ?restn14
          case hyn14 => (intro w hSw; (try dsimp only at hSw); (first | (go_simp; done) | (go_simp; with_reducible rfl)))
          try simp only [Act.put, List.getElem_toArray, List.getElem_cons_succ, List.getElem_cons_zero, List.setIfInBounds_toArray, List.set_cons_zero, List.set_cons_succ]
          refine wpAnyH_take (i := 15) (v := ?vn15) rfl (by kernel_rfl) (by kernel_rfl) (by kernel_rfl) (fun _ _ _ h => h) (Or.inl ⟨by rfl, ?hyn15⟩) hS ?restn15
          case hyn15 => (intro w hSw; (try dsimp only at hSw); (first | (go_simp; done) | (go_simp; with_reducible rfl)))
          try simp only [Act.put, List.getElem_toArray, List.getElem_cons_succ, List.getElem_cons_zero, List.setIfInBounds_toArray, List.set_cons_zero, List.set_cons_succ]
          refine wpAnyH_take (i := 16) (v := ?vn16) rfl (by kernel_rfl) (by kernel_rfl) (by kernel_rfl) (fun _ _ _ h => h) (Or.inl ⟨by rfl, ?hyn16⟩) hS ?restn16
          case hyn16 => (intro w hSw; (try dsimp only at hSw); (first | (go_simp; done) | (go_simp; with_reducible rfl)))
          try simp only [Act.put, List.getElem_toArray, List.getElem_cons_succ, List.getElem_cons_zero, List.setIfInBounds_toArray, List.set_cons_zero, List.set_cons_succ]
          refine wpAnyH_ready (rs := [17]) (by kernel_rfl) (by simp) ?_
          refine AllReadyH.cons rfl (fun K hK => ?_) AllReadyH.nil
          try go_simp
          go_at_call 55
          refine (meets_any a0 a1 d0 d1 _).mono ?_
          rintro e w1 ⟨rfl, hb⟩
          rw [HM.out]
          obtain ⟨z0, z1, z2, z3, z4, z5, z6⟩ := hS
          have HBR := Lib.hid (HBr.out.trans (((drew_below wr).trans hb).mono HBr.out.size))
          have x0 := cell_later hb z0
          have x1 := cell_later hb z1
          have x2 := cell_later hb z2
          have x3 := cell_later hb z3
          have x4 := cell_later hb z4
          have x5 := cell_later hb z5
          have x6 := cell_later hb z6
          clear hb z0 z1 z2 z3 z4 z5 z6
          refine hK.out _ _ ⟨x0, x1, x2, x3, x4, x5, x6⟩ (fun hS => ?_)
          clear hK K
          try simp only [Act.put, List.getElem_toArray, List.getElem_cons_succ, List.getElem_cons_zero, List.setIfInBounds_toArray, List.set_cons_zero, List.set_cons_succ]
          clear x0 x1 x2 x3 x4 x5 x6
          refine wpAnyH_take (i := 18) (v := ?vn18) rfl (by kernel_rfl) (by kernel_rfl) (by kernel_rfl) (fun _ _ _ h => h) (Or.inl ⟨by rfl, ?hyn18⟩) hS ?restn18
          case hyn18 => (intro w hSw; (try dsimp only at hSw); (first | (go_simp; done) | (go_simp; with_reducible rfl)))
          try simp only [Act.put, List.getElem_toArray, List.getElem_cons_succ, List.getElem_cons_zero, List.setIfInBounds_toArray, List.set_cons_zero, List.set_cons_succ]
          refine wpAnyH_done (by kernel_rfl) ?_ _
          all_goals go_wp2_with fail
          all_goals go_roundg (rl1 - (k + 1))
          all_goals first
            | omega
            | exact ⟨k + 1, by go_num, by omega, Nat.le_refl _, Lib.hid (fun q hq => by
                rcases Nat.lt_succ_iff_lt_or_eq.1 hq with hq | rfl
                · exact HN.out q hq
                · exact HK2.out), HBR⟩
      · have t0 : (x == y) = false := by simpa using hxy
        have HK2 := Lib.hid (show clashK b1.tm b2.tm z1 z2 r1 r2 k = false by rw [HK.out]; simp [hxy])
        clear HK hxy
        go_wp2_with fail
        go_quiet (fail)
        go_wp2_with fail
        go_roundg (rl1 - (k + 1))
        case measure => omega
        case rel => exact ⟨k + 1, by go_num, by omega, Nat.le_refl _, Lib.hid (fun q hq => by
                rcases Nat.lt_succ_iff_lt_or_eq.1 hq with hq | rfl
                · exact HN.out q hq
                · exact HK2.out), Lib.hid (HBr.out.trans ((below_drewN (Below.refl _ _) _).mono HBr.out.size))⟩
    · have u1 : ¬ (k : Int) < (rl1 : Int) := by omega
      obtain rfl : k = rl1 := by omega
      go_wp2
      go_ret
      exact ⟨(congrArg (fun b => Ending.returned (.bool b)) (clash_no (fun q hq => HN.out q (by rw [RL1.out] at hq; exact hq)))).symm, HVW.out.trans (HBr.out.mono HVW.out.size)⟩
end Go.Proofs.YtbidadkcdchomaaDoor

/- A search in memory. No function of the program is walked here. -/
set_option linter.unusedVariables false
set_option linter.unusedSimpArgs false
namespace Go.Proofs.YtbidadkcdchomaaDoor
open Go.RowKit

/-- the cells of a search: vessels, jobs, order, five starts, 24 sets -/
def srC (v j o : Value) (st : List Int) (C : List Nat) : Array Value := ([v, j, o] ++ (st.map (fun z => Value.int .i64 z) ++ C.map (fun n => Value.int .u64 ((n : Nat) : Int)))).toArray
/-- a search lies in block B -/
structure SrM (w : World) (B : Nat) (v j o : Value) (st : List Int) (C : List Nat) : Prop where
  row : w.heap[B]? = some (.cells (srC v j o st C) 67 (0, 0))
  ls : st.length = 5
  lc : C.length = 24
section
variable {w w' : World} {B : Nat} {v j o : Value} {st : List Int} {C : List Nat}
theorem SrM.keep (h : SrM w B v j o st C) (hb : Below w.heap.size w w') : SrM w' B v j o st C := ⟨row_keep hb h.row, h.ls, h.lc⟩
theorem SrM.lt (h : SrM w B v j o st C) : B < w.heap.size := (Array.getElem?_eq_some_iff.1 h.row).1
theorem SrM.head (h : SrM w B v j o st C) : w.cell? ⟨B, 0, none⟩ = some v ∧ w.cell? ⟨B, 1, none⟩ = some j ∧ w.cell? ⟨B, 2, none⟩ = some o := by
  refine ⟨?_, ?_, ?_⟩ <;> (rw [cell_row h.row]; rfl)
theorem SrM.start (h : SrM w B v j o st C) {i : Nat} (hi : i < 5) : w.cell? ⟨B, 3 + i, none⟩ = some (.int .i64 (st[i]?.getD 0)) := by
  rw [cell_row h.row]
  unfold srC
  rw [List.getElem?_toArray, List.getElem?_append_right (by first | (simp; done) | (simp; omega)), List.getElem?_append_left (by rw [List.length_map, h.ls]; simp; omega)]
  have hl := h.ls
  have : i < st.length := by omega
  simp [List.getElem?_eq_getElem this]
theorem SrM.crowd (h : SrM w B v j o st C) {i : Nat} (hi : i < 24) : w.cell? ⟨B, 8 + i, none⟩ = some (.int .u64 ((C[i]! : Nat) : Int)) := by
  rw [cell_row h.row]
  unfold srC
  rw [List.getElem?_toArray, List.getElem?_append_right (by first | (simp; done) | (simp; omega)), List.getElem?_append_right (by rw [List.length_map, h.ls]; simp; omega)]
  have hl := h.lc
  have : i < C.length := by omega
  have e : 8 + i - [v, j, o].length - (st.map fun z => Value.int .i64 z).length = i := by rw [List.length_map, h.ls]; simp; omega
  rw [e, List.getElem?_map, List.getElem?_eq_getElem this, getElem!_pos C i this]
  rfl
theorem SrM.free (h : SrM w B v j o st C) (i : Nat) : w.frozen? ⟨B, i, none⟩ = false := free_row h.row i
theorem set_cell_row {w : World} {b : Nat} {c : Array Value} {T : TypeId} (h : w.heap[b]? = some (.cells c T (0, 0))) (i : Nat) (u : Value) : (w.setCell ⟨b, i, none⟩ u).heap[b]? = some (.cells (c.setIfInBounds i u) T (0, 0)) := by
  simp only [World.setCell, Array.getElem?_modify]
  rw [h]
  simp
theorem SrM.setStart (h : SrM w B v j o st C) {i : Nat} (hi : i < 5) (z : Int) : SrM (w.setCell ⟨B, 3 + i, none⟩ (.int .i64 z)) B v j o (st.set i z) C := by
  refine ⟨?_, by simpa using h.ls, h.lc⟩
  rw [set_cell_row h.row]
  unfold srC
  rw [List.setIfInBounds_toArray]
  congr 3
  rw [List.set_append_right _ _ (by first | (simp; done) | (simp; omega)), List.set_append_left _ _ (by rw [List.length_map, h.ls]; simp; omega), List.map_set]
  congr 3
  simp
theorem SrM.setCrowd (h : SrM w B v j o st C) {i : Nat} (hi : i < 24) (n : Nat) : SrM (w.setCell ⟨B, 8 + i, none⟩ (.int .u64 ((n : Nat) : Int))) B v j o st (C.set i n) := by
  refine ⟨?_, h.ls, by simpa using h.lc⟩
  rw [set_cell_row h.row]
  unfold srC
  rw [List.setIfInBounds_toArray]
  congr 3
  have e : 8 + i - [v, j, o].length - (st.map fun z => Value.int .i64 z).length = i := by rw [List.length_map, h.ls]; simp; omega
  rw [List.set_append_right _ _ (by first | (simp; done) | (simp; omega)), List.set_append_right _ _ (by rw [List.length_map, h.ls]; simp; omega), e, List.map_set]
theorem SrM.setOrder (h : SrM w B v j o st C) (o' : Value) : SrM (w.setCell ⟨B, 2, none⟩ o') B v j o' st C := by
  refine ⟨?_, h.ls, h.lc⟩
  rw [set_cell_row h.row]
  rfl
end
/-- jobs in memory -/
structure JobsAt (w : World) (gj : Nat) (js : List JobN) : Prop where
  lt : gj < w.heap.size
  at_ : ∀ i, i < js.length → w.cell? ⟨gj, i * 5, none⟩ = some (.int .i64 (js[i]!).fst) ∧ w.cell? ⟨gj, i * 5 + 1, none⟩ = some (.int .i64 (js[i]!).lst) ∧
    w.cell? ⟨gj, i * 5 + 2, none⟩ = some (.int .u64 (((js[i]!).ms 0 : Nat) : Int)) ∧ w.cell? ⟨gj, i * 5 + 3, none⟩ = some (.int .u64 (((js[i]!).ms 1 : Nat) : Int)) ∧ w.cell? ⟨gj, i * 5 + 4, none⟩ = some (.int .u64 (((js[i]!).ms 2 : Nat) : Int))
theorem JobsAt.mask {w : World} {gj : Nat} {js : List JobN} (h : JobsAt w gj js) {i k : Nat} (hi : i < js.length) (hk : k < 3) : w.cell? ⟨gj, i * 5 + 2 + k, none⟩ = some (.int .u64 (((js[i]!).ms k : Nat) : Int)) := by
  obtain ⟨_, _, a, b, c⟩ := h.at_ i hi
  have : k = 0 ∨ k = 1 ∨ k = 2 := by omega
  rcases this with rfl | rfl | rfl
  · exact a
  · exact b
  · exact c
theorem JobsAt.far {w w' : World} {gj : Nat} {js : List JobN} (h : JobsAt w gj js) (hb : w'.heap[gj]? = w.heap[gj]?) (hs : w.heap.size ≤ w'.heap.size) : JobsAt w' gj js :=
  ⟨Nat.lt_of_lt_of_le h.lt hs, fun i hi => by
    obtain ⟨a, b, c, d, e⟩ := h.at_ i hi
    have hk : ∀ o, w'.cell? ⟨gj, o, none⟩ = w.cell? ⟨gj, o, none⟩ := fun o => World.cell?_of_block (a := ⟨gj, o, none⟩) hb
    exact ⟨(hk _).trans a, (hk _).trans b, (hk _).trans c, (hk _).trans d, (hk _).trans e⟩⟩
theorem JobsAt.keep {w w' : World} {gj : Nat} {js : List JobN} (h : JobsAt w gj js) (hb : Below w.heap.size w w') : JobsAt w' gj js := h.far (hb.block gj h.lt) hb.size
end Go.Proofs.YtbidadkcdchomaaDoor
