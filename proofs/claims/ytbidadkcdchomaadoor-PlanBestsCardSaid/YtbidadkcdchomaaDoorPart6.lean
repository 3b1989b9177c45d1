/- Part 6 of the contracts: PPlaceR, PPlace, PPlaceW, PInd. -/
import Derived.Deep.MidRow
import Derived.Test.YtbidadkcdchomaaDoorPart5

/- place's region 3; lists of 24. (By gen_pplacer.py.) -/
set_option linter.unusedVariables false
set_option linter.unusedSimpArgs false
namespace Go.Proofs.YtbidadkcdchomaaDoor
open Go.RowKit Go.Proofs

def IsC (nn0 nn1 nn2 nn3 nn4 nn5 nn6 nn7 nn8 nn9 nn10 nn11 nn12 nn13 nn14 nn15 nn16 nn17 nn18 nn19 nn20 nn21 nn22 nn23 : Nat) (v : Value) (w : World) : Prop := ∃ b : Nat, v = .agg #[.int .u64 (nn0 : Int), .int .u64 (nn1 : Int), .int .u64 (nn2 : Int), .int .u64 (nn3 : Int), .int .u64 (nn4 : Int), .int .u64 (nn5 : Int), .int .u64 (nn6 : Int), .int .u64 (nn7 : Int), .int .u64 (nn8 : Int), .int .u64 (nn9 : Int), .int .u64 (nn10 : Int), .int .u64 (nn11 : Int), .int .u64 (nn12 : Int), .int .u64 (nn13 : Int), .int .u64 (nn14 : Int), .int .u64 (nn15 : Int), .int .u64 (nn16 : Int), .int .u64 (nn17 : Int), .int .u64 (nn18 : Int), .int .u64 (nn19 : Int), .int .u64 (nn20 : Int), .int .u64 (nn21 : Int), .int .u64 (nn22 : Int), .int .u64 (nn23 : Int)] ∧ b = 0
theorem Stable.isC (base : Nat) (nn0 nn1 nn2 nn3 nn4 nn5 nn6 nn7 nn8 nn9 nn10 nn11 nn12 nn13 nn14 nn15 nn16 nn17 nn18 nn19 nn20 nn21 nn22 nn23 : Nat) (v : Value) : Stable base (IsC nn0 nn1 nn2 nn3 nn4 nn5 nn6 nn7 nn8 nn9 nn10 nn11 nn12 nn13 nn14 nn15 nn16 nn17 nn18 nn19 nn20 nn21 nn22 nn23 v) := Stable.ex fun _ => (Stable.const base _).and (Stable.const base _)
theorem setFrom_cells (b : Nat) : ∀ (vs : List Value) (i : Nat) (w : World), setFrom w b i vs = w.setCells b i vs
  | [], _, _ => rfl
  | v :: vs, i, w => setFrom_cells b vs (i + 1) _
set_option maxHeartbeats 8000000 in
theorem exec_load24 {ρ : Operand → Value} {nn0 nn1 nn2 nn3 nn4 nn5 nn6 nn7 nn8 nn9 nn10 nn11 nn12 nn13 nn14 nn15 nn16 nn17 nn18 nn19 nn20 nn21 nn22 nn23 : Nat} {w : World} (g : Nat) (o : Oper) (x : Operand) (ho : o.op = .load 65 x) (hx : ρ x = .pointer (some ⟨g, 8, none⟩)) (k0 : w.cell? ⟨g, 8, none⟩ = some (.int .u64 (nn0 : Int))) (k1 : w.cell? ⟨g, 9, none⟩ = some (.int .u64 (nn1 : Int))) (k2 : w.cell? ⟨g, 10, none⟩ = some (.int .u64 (nn2 : Int))) (k3 : w.cell? ⟨g, 11, none⟩ = some (.int .u64 (nn3 : Int))) (k4 : w.cell? ⟨g, 12, none⟩ = some (.int .u64 (nn4 : Int))) (k5 : w.cell? ⟨g, 13, none⟩ = some (.int .u64 (nn5 : Int))) (k6 : w.cell? ⟨g, 14, none⟩ = some (.int .u64 (nn6 : Int))) (k7 : w.cell? ⟨g, 15, none⟩ = some (.int .u64 (nn7 : Int))) (k8 : w.cell? ⟨g, 16, none⟩ = some (.int .u64 (nn8 : Int))) (k9 : w.cell? ⟨g, 17, none⟩ = some (.int .u64 (nn9 : Int))) (k10 : w.cell? ⟨g, 18, none⟩ = some (.int .u64 (nn10 : Int))) (k11 : w.cell? ⟨g, 19, none⟩ = some (.int .u64 (nn11 : Int))) (k12 : w.cell? ⟨g, 20, none⟩ = some (.int .u64 (nn12 : Int))) (k13 : w.cell? ⟨g, 21, none⟩ = some (.int .u64 (nn13 : Int))) (k14 : w.cell? ⟨g, 22, none⟩ = some (.int .u64 (nn14 : Int))) (k15 : w.cell? ⟨g, 23, none⟩ = some (.int .u64 (nn15 : Int))) (k16 : w.cell? ⟨g, 24, none⟩ = some (.int .u64 (nn16 : Int))) (k17 : w.cell? ⟨g, 25, none⟩ = some (.int .u64 (nn17 : Int))) (k18 : w.cell? ⟨g, 26, none⟩ = some (.int .u64 (nn18 : Int))) (k19 : w.cell? ⟨g, 27, none⟩ = some (.int .u64 (nn19 : Int))) (k20 : w.cell? ⟨g, 28, none⟩ = some (.int .u64 (nn20 : Int))) (k21 : w.cell? ⟨g, 29, none⟩ = some (.int .u64 (nn21 : Int))) (k22 : w.cell? ⟨g, 30, none⟩ = some (.int .u64 (nn22 : Int))) (k23 : w.cell? ⟨g, 31, none⟩ = some (.int .u64 (nn23 : Int))) :
    (execOp ρ o).run Tryd.prog w = .ok (.value (.agg #[.int .u64 (nn0 : Int), .int .u64 (nn1 : Int), .int .u64 (nn2 : Int), .int .u64 (nn3 : Int), .int .u64 (nn4 : Int), .int .u64 (nn5 : Int), .int .u64 (nn6 : Int), .int .u64 (nn7 : Int), .int .u64 (nn8 : Int), .int .u64 (nn9 : Int), .int .u64 (nn10 : Int), .int .u64 (nn11 : Int), .int .u64 (nn12 : Int), .int .u64 (nn13 : Int), .int .u64 (nn14 : Int), .int .u64 (nn15 : Int), .int .u64 (nn16 : Int), .int .u64 (nn17 : Int), .int .u64 (nn18 : Int), .int .u64 (nn19 : Int), .int .u64 (nn20 : Int), .int .u64 (nn21 : Int), .int .u64 (nn22 : Int), .int .u64 (nn23 : Int)])) w := by
  have hc : w.rangeAt g 8 [.int .u64 (nn0 : Int), .int .u64 (nn1 : Int), .int .u64 (nn2 : Int), .int .u64 (nn3 : Int), .int .u64 (nn4 : Int), .int .u64 (nn5 : Int), .int .u64 (nn6 : Int), .int .u64 (nn7 : Int), .int .u64 (nn8 : Int), .int .u64 (nn9 : Int), .int .u64 (nn10 : Int), .int .u64 (nn11 : Int), .int .u64 (nn12 : Int), .int .u64 (nn13 : Int), .int .u64 (nn14 : Int), .int .u64 (nn15 : Int), .int .u64 (nn16 : Int), .int .u64 (nn17 : Int), .int .u64 (nn18 : Int), .int .u64 (nn19 : Int), .int .u64 (nn20 : Int), .int .u64 (nn21 : Int), .int .u64 (nn22 : Int), .int .u64 (nn23 : Int)] := fun j v hj => by
    have hj24 : j < 24 := (List.getElem?_eq_some_iff.1 hj).1
    have : j = 0 ∨ j = 1 ∨ j = 2 ∨ j = 3 ∨ j = 4 ∨ j = 5 ∨ j = 6 ∨ j = 7 ∨ j = 8 ∨ j = 9 ∨ j = 10 ∨ j = 11 ∨ j = 12 ∨ j = 13 ∨ j = 14 ∨ j = 15 ∨ j = 16 ∨ j = 17 ∨ j = 18 ∨ j = 19 ∨ j = 20 ∨ j = 21 ∨ j = 22 ∨ j = 23 := by omega
    rcases this with rfl | rfl | rfl | rfl | rfl | rfl | rfl | rfl | rfl | rfl | rfl | rfl | rfl | rfl | rfl | rfl | rfl | rfl | rfl | rfl | rfl | rfl | rfl | rfl
    · cases hj; exact k0
    · cases hj; exact k1
    · cases hj; exact k2
    · cases hj; exact k3
    · cases hj; exact k4
    · cases hj; exact k5
    · cases hj; exact k6
    · cases hj; exact k7
    · cases hj; exact k8
    · cases hj; exact k9
    · cases hj; exact k10
    · cases hj; exact k11
    · cases hj; exact k12
    · cases hj; exact k13
    · cases hj; exact k14
    · cases hj; exact k15
    · cases hj; exact k16
    · cases hj; exact k17
    · cases hj; exact k18
    · cases hj; exact k19
    · cases hj; exact k20
    · cases hj; exact k21
    · cases hj; exact k22
    · cases hj; exact k23
  unfold execOp
  rw [ho]
  dsimp only
  rw [hx]
  have hr := run_loadAt_mid (P := Tryd.prog) w g 8 65 [.int .u64 (nn0 : Int), .int .u64 (nn1 : Int), .int .u64 (nn2 : Int), .int .u64 (nn3 : Int), .int .u64 (nn4 : Int), .int .u64 (nn5 : Int), .int .u64 (nn6 : Int), .int .u64 (nn7 : Int), .int .u64 (nn8 : Int), .int .u64 (nn9 : Int), .int .u64 (nn10 : Int), .int .u64 (nn11 : Int), .int .u64 (nn12 : Int), .int .u64 (nn13 : Int), .int .u64 (nn14 : Int), .int .u64 (nn15 : Int), .int .u64 (nn16 : Int), .int .u64 (nn17 : Int), .int .u64 (nn18 : Int), .int .u64 (nn19 : Int), .int .u64 (nn20 : Int), .int .u64 (nn21 : Int), .int .u64 (nn22 : Int), .int .u64 (nn23 : Int)] _ hc Tryd.underlying65 rfl (by kernel_rfl)
  simp only [Sem.run_bind, hr, Result.andThen_ok, Sem.run_pure]
set_option maxHeartbeats 8000000 in
theorem exec_store24 {ρ : Operand → Value} {nn0 nn1 nn2 nn3 nn4 nn5 nn6 nn7 nn8 nn9 nn10 nn11 nn12 nn13 nn14 nn15 nn16 nn17 nn18 nn19 nn20 nn21 nn22 nn23 : Nat} {w : World} (b : Nat) (o : Oper) (p x : Operand) (ho : o.op = .store 65 p x) (hp : ρ p = .pointer (some ⟨b, 0, none⟩)) (hx : ρ x = .agg #[.int .u64 (nn0 : Int), .int .u64 (nn1 : Int), .int .u64 (nn2 : Int), .int .u64 (nn3 : Int), .int .u64 (nn4 : Int), .int .u64 (nn5 : Int), .int .u64 (nn6 : Int), .int .u64 (nn7 : Int), .int .u64 (nn8 : Int), .int .u64 (nn9 : Int), .int .u64 (nn10 : Int), .int .u64 (nn11 : Int), .int .u64 (nn12 : Int), .int .u64 (nn13 : Int), .int .u64 (nn14 : Int), .int .u64 (nn15 : Int), .int .u64 (nn16 : Int), .int .u64 (nn17 : Int), .int .u64 (nn18 : Int), .int .u64 (nn19 : Int), .int .u64 (nn20 : Int), .int .u64 (nn21 : Int), .int .u64 (nn22 : Int), .int .u64 (nn23 : Int)]) (hbx : Box w b 65 #[.int .u64 0, .int .u64 0, .int .u64 0, .int .u64 0, .int .u64 0, .int .u64 0, .int .u64 0, .int .u64 0, .int .u64 0, .int .u64 0, .int .u64 0, .int .u64 0, .int .u64 0, .int .u64 0, .int .u64 0, .int .u64 0, .int .u64 0, .int .u64 0, .int .u64 0, .int .u64 0, .int .u64 0, .int .u64 0, .int .u64 0, .int .u64 0]) :
    (execOp ρ o).run Tryd.prog w = .ok .skip (setFrom w b 0 [.int .u64 (nn0 : Int), .int .u64 (nn1 : Int), .int .u64 (nn2 : Int), .int .u64 (nn3 : Int), .int .u64 (nn4 : Int), .int .u64 (nn5 : Int), .int .u64 (nn6 : Int), .int .u64 (nn7 : Int), .int .u64 (nn8 : Int), .int .u64 (nn9 : Int), .int .u64 (nn10 : Int), .int .u64 (nn11 : Int), .int .u64 (nn12 : Int), .int .u64 (nn13 : Int), .int .u64 (nn14 : Int), .int .u64 (nn15 : Int), .int .u64 (nn16 : Int), .int .u64 (nn17 : Int), .int .u64 (nn18 : Int), .int .u64 (nn19 : Int), .int .u64 (nn20 : Int), .int .u64 (nn21 : Int), .int .u64 (nn22 : Int), .int .u64 (nn23 : Int)]) := by
  have ht : w.there b 0 24 := fun j hj => ⟨by rw [hbx.cell]; simp; omega, hbx.frozen _⟩
  unfold execOp
  rw [ho]
  dsimp only
  rw [hp, hx]
  have hr := run_storeAt_mid (P := Tryd.prog) w b 0 65 #[.int .u64 (nn0 : Int), .int .u64 (nn1 : Int), .int .u64 (nn2 : Int), .int .u64 (nn3 : Int), .int .u64 (nn4 : Int), .int .u64 (nn5 : Int), .int .u64 (nn6 : Int), .int .u64 (nn7 : Int), .int .u64 (nn8 : Int), .int .u64 (nn9 : Int), .int .u64 (nn10 : Int), .int .u64 (nn11 : Int), .int .u64 (nn12 : Int), .int .u64 (nn13 : Int), .int .u64 (nn14 : Int), .int .u64 (nn15 : Int), .int .u64 (nn16 : Int), .int .u64 (nn17 : Int), .int .u64 (nn18 : Int), .int .u64 (nn19 : Int), .int .u64 (nn20 : Int), .int .u64 (nn21 : Int), .int .u64 (nn22 : Int), .int .u64 (nn23 : Int)] ht (by kernel_rfl) (by rw [List.all_toArray]; rfl)
  simp only [Sem.run_bind, hr, Result.andThen_ok, Sem.run_pure]
  rw [setFrom_cells]
theorem uncons {n : Nat} {l : List Nat} (h : l.length = n + 1) : ∃ a t, l = a :: t ∧ t.length = n := by
  cases l with
  | nil => cases h
  | cons a t => exact ⟨a, t, rfl, by simpa using h⟩
theorem len24 {C : List Nat} (h : C.length = 24) : ∃ nn0 nn1 nn2 nn3 nn4 nn5 nn6 nn7 nn8 nn9 nn10 nn11 nn12 nn13 nn14 nn15 nn16 nn17 nn18 nn19 nn20 nn21 nn22 nn23 : Nat, C = [nn0, nn1, nn2, nn3, nn4, nn5, nn6, nn7, nn8, nn9, nn10, nn11, nn12, nn13, nn14, nn15, nn16, nn17, nn18, nn19, nn20, nn21, nn22, nn23] := by
  obtain ⟨nn0, C0, rfl, h0⟩ := uncons h
  obtain ⟨nn1, C1, rfl, h1⟩ := uncons h0
  obtain ⟨nn2, C2, rfl, h2⟩ := uncons h1
  obtain ⟨nn3, C3, rfl, h3⟩ := uncons h2
  obtain ⟨nn4, C4, rfl, h4⟩ := uncons h3
  obtain ⟨nn5, C5, rfl, h5⟩ := uncons h4
  obtain ⟨nn6, C6, rfl, h6⟩ := uncons h5
  obtain ⟨nn7, C7, rfl, h7⟩ := uncons h6
  obtain ⟨nn8, C8, rfl, h8⟩ := uncons h7
  obtain ⟨nn9, C9, rfl, h9⟩ := uncons h8
  obtain ⟨nn10, C10, rfl, h10⟩ := uncons h9
  obtain ⟨nn11, C11, rfl, h11⟩ := uncons h10
  obtain ⟨nn12, C12, rfl, h12⟩ := uncons h11
  obtain ⟨nn13, C13, rfl, h13⟩ := uncons h12
  obtain ⟨nn14, C14, rfl, h14⟩ := uncons h13
  obtain ⟨nn15, C15, rfl, h15⟩ := uncons h14
  obtain ⟨nn16, C16, rfl, h16⟩ := uncons h15
  obtain ⟨nn17, C17, rfl, h17⟩ := uncons h16
  obtain ⟨nn18, C18, rfl, h18⟩ := uncons h17
  obtain ⟨nn19, C19, rfl, h19⟩ := uncons h18
  obtain ⟨nn20, C20, rfl, h20⟩ := uncons h19
  obtain ⟨nn21, C21, rfl, h21⟩ := uncons h20
  obtain ⟨nn22, C22, rfl, h22⟩ := uncons h21
  obtain ⟨nn23, C23, rfl, h23⟩ := uncons h22
  obtain rfl := List.eq_nil_of_length_eq_zero h23
  exact ⟨nn0, nn1, nn2, nn3, nn4, nn5, nn6, nn7, nn8, nn9, nn10, nn11, nn12, nn13, nn14, nn15, nn16, nn17, nn18, nn19, nn20, nn21, nn22, nn23, rfl⟩

def place_regS : Shape where
  f := fun i => match i with | 0 => 15 | 1 => 16 | 2 => 17 | 3 => 18 | 4 => 19 | 5 => 20 | 6 => 21 | 7 => 22 | 8 => 23 | 9 => 24 | 10 => 25 | 11 => 6 | 12 => 5 | _ => 0
  kd := fun i => match i with | 11 => .box 65 #[.int .u64 0, .int .u64 0, .int .u64 0, .int .u64 0, .int .u64 0, .int .u64 0, .int .u64 0, .int .u64 0, .int .u64 0, .int .u64 0, .int .u64 0, .int .u64 0, .int .u64 0, .int .u64 0, .int .u64 0, .int .u64 0, .int .u64 0, .int .u64 0, .int .u64 0, .int .u64 0, .int .u64 0, .int .u64 0, .int .u64 0, .int .u64 0] | 13 => .put 11 10 | _ => .val
  need := fun i => match i with | 1 => [0] | 2 => [1] | 3 => [2] | 5 => [3, 4] | 6 => [5] | 8 => [7] | 9 => [8] | 10 => [9] | 12 => [6] | 13 => [11, 10] | _ => []
  st := fun i => match i with | 11 => 13 | _ => 0
  src := fun i => match i with | 11 => 10 | _ => 0

set_option maxRecDepth 4000 in
set_option maxHeartbeats 16000000 in
/-- the next of the order; the crowds as they are -/
theorem place_reg {Q : Exit → Act → World → Prop} {id : Nat} {a0 : Act} {W : World} {o0 o1 o2 o3 o4 o5 o6 o7 o8 o9 o10 o11 o12 o13 : Oper} (oo ol oc pk x nn0 nn1 nn2 nn3 nn4 nn5 nn6 nn7 nn8 nn9 nn10 nn11 nn12 nn13 nn14 nn15 nn16 nn17 nn18 nn19 nn20 nn21 nn22 nn23 : Nat) (gB : Nat) (gO : Nat)
    (hok : place_regS.ok #[o0, o1, o2, o3, o4, o5, o6, o7, o8, o9, o10, o11, o12, o13] a0.tmps.size = true)
    (h0 : o0.op = .move (.tmp 0)) (h1 : o1.op = .nilCheck (.tmp 15)) (h2 : o2.op = .fieldAddr 67 (.tmp 16) 2) (h3 : o3.op = .load 22 (.tmp 17)) (h4 : o4.op = .move (.tmp 1)) (h5 : o5.op = .indexAddr 22 (.tmp 18) (.tmp 19)) (h6 : o6.op = .load 3 (.tmp 20)) (h7 : o7.op = .move (.tmp 0)) (h8 : o8.op = .nilCheck (.tmp 22)) (h9 : o9.op = .fieldAddr 67 (.tmp 23) 4) (h10 : o10.op = .load 65 (.tmp 24)) (h11 : o11.op = .alloc 65) (h12 : o12.op = .assign (.tmp 21)) (h13 : o13.op = .store 65 (.tmp 6) (.tmp 25))
    (hgO : gB < W.heap.size) (cO_0 : W.cell? ⟨gB, 2, none⟩ = some (.slice (some ⟨gO, oo, none⟩) ol oc))
    (hgX : gO < W.heap.size) (cX_0 : W.cell? ⟨gO, oo + pk, none⟩ = some (.int .i64 (x : Int)))
    (hgC : gB < W.heap.size) (cC_0 : W.cell? ⟨gB, 8, none⟩ = some (.int .u64 (nn0 : Int))) (cC_1 : W.cell? ⟨gB, 9, none⟩ = some (.int .u64 (nn1 : Int))) (cC_2 : W.cell? ⟨gB, 10, none⟩ = some (.int .u64 (nn2 : Int))) (cC_3 : W.cell? ⟨gB, 11, none⟩ = some (.int .u64 (nn3 : Int))) (cC_4 : W.cell? ⟨gB, 12, none⟩ = some (.int .u64 (nn4 : Int))) (cC_5 : W.cell? ⟨gB, 13, none⟩ = some (.int .u64 (nn5 : Int))) (cC_6 : W.cell? ⟨gB, 14, none⟩ = some (.int .u64 (nn6 : Int))) (cC_7 : W.cell? ⟨gB, 15, none⟩ = some (.int .u64 (nn7 : Int))) (cC_8 : W.cell? ⟨gB, 16, none⟩ = some (.int .u64 (nn8 : Int))) (cC_9 : W.cell? ⟨gB, 17, none⟩ = some (.int .u64 (nn9 : Int))) (cC_10 : W.cell? ⟨gB, 18, none⟩ = some (.int .u64 (nn10 : Int))) (cC_11 : W.cell? ⟨gB, 19, none⟩ = some (.int .u64 (nn11 : Int))) (cC_12 : W.cell? ⟨gB, 20, none⟩ = some (.int .u64 (nn12 : Int))) (cC_13 : W.cell? ⟨gB, 21, none⟩ = some (.int .u64 (nn13 : Int))) (cC_14 : W.cell? ⟨gB, 22, none⟩ = some (.int .u64 (nn14 : Int))) (cC_15 : W.cell? ⟨gB, 23, none⟩ = some (.int .u64 (nn15 : Int))) (cC_16 : W.cell? ⟨gB, 24, none⟩ = some (.int .u64 (nn16 : Int))) (cC_17 : W.cell? ⟨gB, 25, none⟩ = some (.int .u64 (nn17 : Int))) (cC_18 : W.cell? ⟨gB, 26, none⟩ = some (.int .u64 (nn18 : Int))) (cC_19 : W.cell? ⟨gB, 27, none⟩ = some (.int .u64 (nn19 : Int))) (cC_20 : W.cell? ⟨gB, 28, none⟩ = some (.int .u64 (nn20 : Int))) (cC_21 : W.cell? ⟨gB, 29, none⟩ = some (.int .u64 (nn21 : Int))) (cC_22 : W.cell? ⟨gB, 30, none⟩ = some (.int .u64 (nn22 : Int))) (cC_23 : W.cell? ⟨gB, 31, none⟩ = some (.int .u64 (nn23 : Int)))
    (hmM : a0.eval (.tmp 0) = .pointer (some ⟨gB, 0, none⟩))
    (hmK : a0.eval (.tmp 1) = .int .i64 (pk : Int))
    (hpk : pk < ol) (hol : ol ≤ 1000)
    (hend : ∀ w b11 b10 , Below W.heap.size W w → W.heap.size ≤ b11 → Box w b11 65 #[.int .u64 (nn0 : Int), .int .u64 (nn1 : Int), .int .u64 (nn2 : Int), .int .u64 (nn3 : Int), .int .u64 (nn4 : Int), .int .u64 (nn5 : Int), .int .u64 (nn6 : Int), .int .u64 (nn7 : Int), .int .u64 (nn8 : Int), .int .u64 (nn9 : Int), .int .u64 (nn10 : Int), .int .u64 (nn11 : Int), .int .u64 (nn12 : Int), .int .u64 (nn13 : Int), .int .u64 (nn14 : Int), .int .u64 (nn15 : Int), .int .u64 (nn16 : Int), .int .u64 (nn17 : Int), .int .u64 (nn18 : Int), .int .u64 (nn19 : Int), .int .u64 (nn20 : Int), .int .u64 (nn21 : Int), .int .u64 (nn22 : Int), .int .u64 (nn23 : Int)] → b10 = (0 : Nat) → 
      Q .normal (puts a0 [(15, .pointer (some ⟨gB, 0, none⟩)), (16, .pointer (some ⟨gB, 0, none⟩)), (17, .pointer (some ⟨gB, 2, none⟩)), (18, .slice (some ⟨gO, oo, none⟩) ol oc), (19, .int .i64 (pk : Int)), (20, .pointer (some ⟨gO, oo + pk, none⟩)), (21, .int .i64 (x : Int)), (22, .pointer (some ⟨gB, 0, none⟩)), (23, .pointer (some ⟨gB, 0, none⟩)), (24, .pointer (some ⟨gB, 8, none⟩)), (25, .agg #[.int .u64 (nn0 : Int), .int .u64 (nn1 : Int), .int .u64 (nn2 : Int), .int .u64 (nn3 : Int), .int .u64 (nn4 : Int), .int .u64 (nn5 : Int), .int .u64 (nn6 : Int), .int .u64 (nn7 : Int), .int .u64 (nn8 : Int), .int .u64 (nn9 : Int), .int .u64 (nn10 : Int), .int .u64 (nn11 : Int), .int .u64 (nn12 : Int), .int .u64 (nn13 : Int), .int .u64 (nn14 : Int), .int .u64 (nn15 : Int), .int .u64 (nn16 : Int), .int .u64 (nn17 : Int), .int .u64 (nn18 : Int), .int .u64 (nn19 : Int), .int .u64 (nn20 : Int), .int .u64 (nn21 : Int), .int .u64 (nn22 : Int), .int .u64 (nn23 : Int)]), (6, .pointer (some ⟨b11, 0, none⟩)), (5, .int .i64 (x : Int))]) w) :
    (Code.region id #[o0, o1, o2, o3, o4, o5, o6, o7, o8, o9, o10, o11, o12, o13] true).wp Tryd.prog Q a0 W := by
  refine Shape.region place_regS (fun i v w => (fun (v : Value) => (match i with | 0 => v = .pointer (some ⟨gB, 0, none⟩) | 1 => v = .pointer (some ⟨gB, 0, none⟩) | 2 => v = .pointer (some ⟨gB, 2, none⟩) | 3 => v = .slice (some ⟨gO, oo, none⟩) ol oc | 4 => v = .int .i64 (pk : Int) | 5 => v = .pointer (some ⟨gO, oo + pk, none⟩) | 6 => v = .int .i64 (x : Int) | 7 => v = .pointer (some ⟨gB, 0, none⟩) | 8 => v = .pointer (some ⟨gB, 0, none⟩) | 9 => v = .pointer (some ⟨gB, 8, none⟩) | 10 => IsC (nn0) (nn1) (nn2) (nn3) (nn4) (nn5) (nn6) (nn7) (nn8) (nn9) (nn10) (nn11) (nn12) (nn13) (nn14) (nn15) (nn16) (nn17) (nn18) (nn19) (nn20) (nn21) (nn22) (nn23) v w | 12 => v = .int .i64 (x : Int) | _ => True : Prop)) (v i)) (by kernel_rfl) hok
    (fun i v v' w _ hj hΦ => by rw [← hj i (.inl rfl)]; exact hΦ) ?stab ?val ?box ?put rfl ?fin
  case stab =>
    intro i v hi
    match i with
    | 0 => exact Stable.const _ _
    | 1 => exact Stable.const _ _
    | 2 => exact Stable.const _ _
    | 3 => exact Stable.const _ _
    | 4 => exact Stable.const _ _
    | 5 => exact Stable.const _ _
    | 6 => exact Stable.const _ _
    | 7 => exact Stable.const _ _
    | 8 => exact Stable.const _ _
    | 9 => exact Stable.const _ _
    | 10 => exact Stable.isC _ _ _ _ _ _ _ _ _ _ _ _ _ _ _ _ _ _ _ _ _ _ _ _ _ _
    | 11 => exact Stable.const _ _
    | 12 => exact Stable.const _ _
    | 13 => exact Stable.const _ _
    | i + 14 => exact Stable.const _ _
  case val =>
    intro i o ho hv a w hA hb hz hn K' hK
    have hw := below_undrew hb
    have kO_0 := (hb.cell (p := ⟨gB, 2, none⟩) hgO).trans cO_0
    have kX_0 := (hb.cell (p := ⟨gO, oo + pk, none⟩) hgX).trans cX_0
    have kC_0 := (hb.cell (p := ⟨gB, 8, none⟩) hgC).trans cC_0
    have kC_1 := (hb.cell (p := ⟨gB, 9, none⟩) hgC).trans cC_1
    have kC_2 := (hb.cell (p := ⟨gB, 10, none⟩) hgC).trans cC_2
    have kC_3 := (hb.cell (p := ⟨gB, 11, none⟩) hgC).trans cC_3
    have kC_4 := (hb.cell (p := ⟨gB, 12, none⟩) hgC).trans cC_4
    have kC_5 := (hb.cell (p := ⟨gB, 13, none⟩) hgC).trans cC_5
    have kC_6 := (hb.cell (p := ⟨gB, 14, none⟩) hgC).trans cC_6
    have kC_7 := (hb.cell (p := ⟨gB, 15, none⟩) hgC).trans cC_7
    have kC_8 := (hb.cell (p := ⟨gB, 16, none⟩) hgC).trans cC_8
    have kC_9 := (hb.cell (p := ⟨gB, 17, none⟩) hgC).trans cC_9
    have kC_10 := (hb.cell (p := ⟨gB, 18, none⟩) hgC).trans cC_10
    have kC_11 := (hb.cell (p := ⟨gB, 19, none⟩) hgC).trans cC_11
    have kC_12 := (hb.cell (p := ⟨gB, 20, none⟩) hgC).trans cC_12
    have kC_13 := (hb.cell (p := ⟨gB, 21, none⟩) hgC).trans cC_13
    have kC_14 := (hb.cell (p := ⟨gB, 22, none⟩) hgC).trans cC_14
    have kC_15 := (hb.cell (p := ⟨gB, 23, none⟩) hgC).trans cC_15
    have kC_16 := (hb.cell (p := ⟨gB, 24, none⟩) hgC).trans cC_16
    have kC_17 := (hb.cell (p := ⟨gB, 25, none⟩) hgC).trans cC_17
    have kC_18 := (hb.cell (p := ⟨gB, 26, none⟩) hgC).trans cC_18
    have kC_19 := (hb.cell (p := ⟨gB, 27, none⟩) hgC).trans cC_19
    have kC_20 := (hb.cell (p := ⟨gB, 28, none⟩) hgC).trans cC_20
    have kC_21 := (hb.cell (p := ⟨gB, 29, none⟩) hgC).trans cC_21
    have kC_22 := (hb.cell (p := ⟨gB, 30, none⟩) hgC).trans cC_22
    have kC_23 := (hb.cell (p := ⟨gB, 31, none⟩) hgC).trans cC_23
    have emM : a.eval (.tmp 0) = .pointer (some ⟨gB, 0, none⟩) := (hA.eval (show 0 ∉ place_regS.slots 14 by decide)).trans hmM
    have emK : a.eval (.tmp 1) = .int .i64 (pk : Int) := (hA.eval (show 1 ∉ place_regS.slots 14 by decide)).trans hmK
    match i, ho, hv with
    | 0, ho, _ =>
      have ho' : o0 = o := by simpa using ho
      subst ho'
      exact wp_value (run_move h0 a w) (hK _ _ (Below.refl _ _) (by simp [updV, emM]))
    | 1, ho, _ =>
      have ho' : o1 = o := by simpa using ho
      subst ho'
      have e : a.eval (.tmp 15) = .pointer (some ⟨gB, 0, none⟩) := hn 0 (by simp [place_regS]) rfl
      refine wp_value (v := .pointer (some ⟨gB, 0, none⟩)) (w' := w) ?_ (hK _ _ (Below.refl _ _) (by simp [updV]))
      unfold execOp
      rw [h1]
      dsimp only
      rw [e]
      simp [go_sem]
    | 2, ho, _ =>
      have ho' : o2 = o := by simpa using ho
      subst ho'
      have e : a.eval (.tmp 16) = .pointer (some ⟨gB, 0, none⟩) := hn 1 (by simp [place_regS]) rfl
      refine wp_value (v := .pointer (some ⟨gB, 2, none⟩)) (w' := w) ?_ (hK _ _ (Below.refl _ _) (by simp [updV]))
      unfold execOp
      rw [h2]
      dsimp only
      rw [e]
      simp [go_sem]
    | 3, ho, _ =>
      have ho' : o3 = o := by simpa using ho
      subst ho'
      have e : a.eval (.tmp 17) = .pointer (some ⟨gB, 2, none⟩) := hn 2 (by simp [place_regS]) rfl
      refine wp_value (v := .slice (some ⟨gO, oo, none⟩) ol oc) (w' := w) ?_ (hK _ _ (Below.refl _ _) (by simp [updV]))
      unfold execOp
      rw [h3]
      dsimp only
      rw [e]
      simp [go_sem, kO_0]
    | 4, ho, _ =>
      have ho' : o4 = o := by simpa using ho
      subst ho'
      exact wp_value (run_move h4 a w) (hK _ _ (Below.refl _ _) (by simp [updV, emK]))
    | 5, ho, _ =>
      have ho' : o5 = o := by simpa using ho
      subst ho'
      have e1 : a.eval (.tmp 18) = .slice (some ⟨gO, oo, none⟩) ol oc := hn 3 (by simp [place_regS]) rfl
      have e2 : a.eval (.tmp 19) = .int .i64 (pk : Int) := hn 4 (by simp [place_regS]) rfl
      refine wp_value (v := .pointer (some ⟨gO, oo + pk, none⟩)) (w' := w) ?_ (hK _ _ (Below.refl _ _) (by simp [updV]))
      unfold execOp
      rw [h5]
      dsimp only
      rw [e1, e2]
      simp [go_sem, at_runI pk ol gO oo oc hpk hol w]
    | 6, ho, _ =>
      have ho' : o6 = o := by simpa using ho
      subst ho'
      have e : a.eval (.tmp 20) = .pointer (some ⟨gO, oo + pk, none⟩) := hn 5 (by simp [place_regS]) rfl
      refine wp_value (v := .int .i64 (x : Int)) (w' := w) ?_ (hK _ _ (Below.refl _ _) (by simp [updV]))
      unfold execOp
      rw [h6]
      dsimp only
      rw [e]
      simp [go_sem, kX_0]
    | 7, ho, _ =>
      have ho' : o7 = o := by simpa using ho
      subst ho'
      exact wp_value (run_move h7 a w) (hK _ _ (Below.refl _ _) (by simp [updV, emM]))
    | 8, ho, _ =>
      have ho' : o8 = o := by simpa using ho
      subst ho'
      have e : a.eval (.tmp 22) = .pointer (some ⟨gB, 0, none⟩) := hn 7 (by simp [place_regS]) rfl
      refine wp_value (v := .pointer (some ⟨gB, 0, none⟩)) (w' := w) ?_ (hK _ _ (Below.refl _ _) (by simp [updV]))
      unfold execOp
      rw [h8]
      dsimp only
      rw [e]
      simp [go_sem]
    | 9, ho, _ =>
      have ho' : o9 = o := by simpa using ho
      subst ho'
      have e : a.eval (.tmp 23) = .pointer (some ⟨gB, 0, none⟩) := hn 8 (by simp [place_regS]) rfl
      refine wp_value (v := .pointer (some ⟨gB, 8, none⟩)) (w' := w) ?_ (hK _ _ (Below.refl _ _) (by simp [updV]))
      unfold execOp
      rw [h9]
      dsimp only
      rw [e]
      simp [go_sem]
    | 10, ho, _ =>
      have ho' : o10 = o := by simpa using ho
      subst ho'
      have e : a.eval (.tmp 24) = .pointer (some ⟨gB, 8, none⟩) := hn 9 (by simp [place_regS]) rfl
      refine wp_value (v := .agg #[.int .u64 (nn0 : Int), .int .u64 (nn1 : Int), .int .u64 (nn2 : Int), .int .u64 (nn3 : Int), .int .u64 (nn4 : Int), .int .u64 (nn5 : Int), .int .u64 (nn6 : Int), .int .u64 (nn7 : Int), .int .u64 (nn8 : Int), .int .u64 (nn9 : Int), .int .u64 (nn10 : Int), .int .u64 (nn11 : Int), .int .u64 (nn12 : Int), .int .u64 (nn13 : Int), .int .u64 (nn14 : Int), .int .u64 (nn15 : Int), .int .u64 (nn16 : Int), .int .u64 (nn17 : Int), .int .u64 (nn18 : Int), .int .u64 (nn19 : Int), .int .u64 (nn20 : Int), .int .u64 (nn21 : Int), .int .u64 (nn22 : Int), .int .u64 (nn23 : Int)]) (w' := w) ?_ (hK _ _ (Below.refl _ _) (by simp only [updV, if_true]; exact ⟨0, rfl, rfl⟩))
      exact exec_load24 gB _ _ h10 e kC_0 kC_1 kC_2 kC_3 kC_4 kC_5 kC_6 kC_7 kC_8 kC_9 kC_10 kC_11 kC_12 kC_13 kC_14 kC_15 kC_16 kC_17 kC_18 kC_19 kC_20 kC_21 kC_22 kC_23
    | 12, ho, _ =>
      have ho' : o12 = o := by simpa using ho
      subst ho'
      have e : a.eval (.tmp 21) = .int .i64 (x : Int) := hn 6 (by simp [place_regS]) rfl
      exact wp_value (run_assign h12 a w) (hK _ _ (Below.refl _ _) (by simp [updV, e]))
    | 11, _, hv => cases hv
    | 13, _, hv => cases hv
    | i + 14, ho, _ => simp at ho
  case box =>
    intro i o T z ho hk a w
    match i, ho, hk with
    | 0, _, hk => cases hk
    | 1, _, hk => cases hk
    | 2, _, hk => cases hk
    | 3, _, hk => cases hk
    | 4, _, hk => cases hk
    | 5, _, hk => cases hk
    | 6, _, hk => cases hk
    | 7, _, hk => cases hk
    | 8, _, hk => cases hk
    | 9, _, hk => cases hk
    | 10, _, hk => cases hk
    | 11, ho, hk =>
      have ho' : o11 = o := by simpa using ho
      subst ho'; cases hk; unfold execOp; rw [h11]; simp [go_sem]
    | 12, _, hk => cases hk
    | 13, _, hk => cases hk
    | i + 14, ho, _ => simp at ho
  case put =>
    intro i o p' s' T z ho hk hp a w b hva hφ hbx
    match i, ho, hk with
    | 0, _, hk => cases hk
    | 1, _, hk => cases hk
    | 2, _, hk => cases hk
    | 3, _, hk => cases hk
    | 4, _, hk => cases hk
    | 5, _, hk => cases hk
    | 6, _, hk => cases hk
    | 7, _, hk => cases hk
    | 8, _, hk => cases hk
    | 9, _, hk => cases hk
    | 10, _, hk => cases hk
    | 11, _, hk => cases hk
    | 12, _, hk => cases hk
    | 13, ho, hk =>
      have ho' : o13 = o := by simpa using ho
      subst ho'; cases hk; cases hp
      obtain ⟨b10, e10, x10⟩ := hφ
      have q1 : a.eval (.tmp 25) = .agg #[.int .u64 (nn0 : Int), .int .u64 (nn1 : Int), .int .u64 (nn2 : Int), .int .u64 (nn3 : Int), .int .u64 (nn4 : Int), .int .u64 (nn5 : Int), .int .u64 (nn6 : Int), .int .u64 (nn7 : Int), .int .u64 (nn8 : Int), .int .u64 (nn9 : Int), .int .u64 (nn10 : Int), .int .u64 (nn11 : Int), .int .u64 (nn12 : Int), .int .u64 (nn13 : Int), .int .u64 (nn14 : Int), .int .u64 (nn15 : Int), .int .u64 (nn16 : Int), .int .u64 (nn17 : Int), .int .u64 (nn18 : Int), .int .u64 (nn19 : Int), .int .u64 (nn20 : Int), .int .u64 (nn21 : Int), .int .u64 (nn22 : Int), .int .u64 (nn23 : Int)] := e10
      have q2 : a.eval (.tmp 6) = .pointer (some ⟨b, 0, none⟩) := hva
      have u0 := hbx.cell 0
      have f0 := hbx.frozen 0
      have u1 := hbx.cell 1
      have f1 := hbx.frozen 1
      have u2 := hbx.cell 2
      have f2 := hbx.frozen 2
      have u3 := hbx.cell 3
      have f3 := hbx.frozen 3
      have u4 := hbx.cell 4
      have f4 := hbx.frozen 4
      have u5 := hbx.cell 5
      have f5 := hbx.frozen 5
      have u6 := hbx.cell 6
      have f6 := hbx.frozen 6
      have u7 := hbx.cell 7
      have f7 := hbx.frozen 7
      have u8 := hbx.cell 8
      have f8 := hbx.frozen 8
      have u9 := hbx.cell 9
      have f9 := hbx.frozen 9
      have u10 := hbx.cell 10
      have f10 := hbx.frozen 10
      have u11 := hbx.cell 11
      have f11 := hbx.frozen 11
      have u12 := hbx.cell 12
      have f12 := hbx.frozen 12
      have u13 := hbx.cell 13
      have f13 := hbx.frozen 13
      have u14 := hbx.cell 14
      have f14 := hbx.frozen 14
      have u15 := hbx.cell 15
      have f15 := hbx.frozen 15
      have u16 := hbx.cell 16
      have f16 := hbx.frozen 16
      have u17 := hbx.cell 17
      have f17 := hbx.frozen 17
      have u18 := hbx.cell 18
      have f18 := hbx.frozen 18
      have u19 := hbx.cell 19
      have f19 := hbx.frozen 19
      have u20 := hbx.cell 20
      have f20 := hbx.frozen 20
      have u21 := hbx.cell 21
      have f21 := hbx.frozen 21
      have u22 := hbx.cell 22
      have f22 := hbx.frozen 22
      have u23 := hbx.cell 23
      have f23 := hbx.frozen 23
      refine ⟨[.int .u64 (nn0 : Int), .int .u64 (nn1 : Int), .int .u64 (nn2 : Int), .int .u64 (nn3 : Int), .int .u64 (nn4 : Int), .int .u64 (nn5 : Int), .int .u64 (nn6 : Int), .int .u64 (nn7 : Int), .int .u64 (nn8 : Int), .int .u64 (nn9 : Int), .int .u64 (nn10 : Int), .int .u64 (nn11 : Int), .int .u64 (nn12 : Int), .int .u64 (nn13 : Int), .int .u64 (nn14 : Int), .int .u64 (nn15 : Int), .int .u64 (nn16 : Int), .int .u64 (nn17 : Int), .int .u64 (nn18 : Int), .int .u64 (nn19 : Int), .int .u64 (nn20 : Int), .int .u64 (nn21 : Int), .int .u64 (nn22 : Int), .int .u64 (nn23 : Int)], e10, rfl, by simp [isInt], ?_⟩
      exact exec_store24 b _ _ _ h13 q2 q1 hbx
    | i + 14, ho, _ => simp at ho
  case fin =>
    intro a w blk hI
    have n8 : (#[o0, o1, o2, o3, o4, o5, o6, o7, o8, o9, o10, o11, o12, o13] : Array Oper).size = 14 := rfl
    rw [n8] at hI
    have hf := hI.agree.form
    have e0 : a.eval (.tmp 15) = .pointer (some ⟨gB, 0, none⟩) := hI.vals 0 (by decide) (by decide) rfl
    have e1 : a.eval (.tmp 16) = .pointer (some ⟨gB, 0, none⟩) := hI.vals 1 (by decide) (by decide) rfl
    have e2 : a.eval (.tmp 17) = .pointer (some ⟨gB, 2, none⟩) := hI.vals 2 (by decide) (by decide) rfl
    have e3 : a.eval (.tmp 18) = .slice (some ⟨gO, oo, none⟩) ol oc := hI.vals 3 (by decide) (by decide) rfl
    have e4 : a.eval (.tmp 19) = .int .i64 (pk : Int) := hI.vals 4 (by decide) (by decide) rfl
    have e5 : a.eval (.tmp 20) = .pointer (some ⟨gO, oo + pk, none⟩) := hI.vals 5 (by decide) (by decide) rfl
    have e6 : a.eval (.tmp 21) = .int .i64 (x : Int) := hI.vals 6 (by decide) (by decide) rfl
    have e7 : a.eval (.tmp 22) = .pointer (some ⟨gB, 0, none⟩) := hI.vals 7 (by decide) (by decide) rfl
    have e8 : a.eval (.tmp 23) = .pointer (some ⟨gB, 0, none⟩) := hI.vals 8 (by decide) (by decide) rfl
    have e9 : a.eval (.tmp 24) = .pointer (some ⟨gB, 8, none⟩) := hI.vals 9 (by decide) (by decide) rfl
    obtain ⟨b10, e10, x10⟩ : IsC (nn0) (nn1) (nn2) (nn3) (nn4) (nn5) (nn6) (nn7) (nn8) (nn9) (nn10) (nn11) (nn12) (nn13) (nn14) (nn15) (nn16) (nn17) (nn18) (nn19) (nn20) (nn21) (nn22) (nn23) (a.eval (.tmp 25)) w := hI.vals 10 (by decide) (by decide) rfl
    have e12 : a.eval (.tmp 5) = .int .i64 (x : Int) := hI.vals 12 (by decide) (by decide) rfl
    obtain ⟨p11, r11, _, k11⟩ := hI.boxes 11 65 #[.int .u64 0, .int .u64 0, .int .u64 0, .int .u64 0, .int .u64 0, .int .u64 0, .int .u64 0, .int .u64 0, .int .u64 0, .int .u64 0, .int .u64 0, .int .u64 0, .int .u64 0, .int .u64 0, .int .u64 0, .int .u64 0, .int .u64 0, .int .u64 0, .int .u64 0, .int .u64 0, .int .u64 0, .int .u64 0, .int .u64 0, .int .u64 0] (by decide) (by decide) rfl
    obtain ⟨us11, i11, _, _, j11⟩ := k11 (show (13 : Nat) < 14 by decide)
    have y_11 : a.eval (.tmp 25) = .agg us11.toArray := i11
    rw [e10] at y_11
    cases y_11
    have e11 : a.eval (.tmp 6) = .pointer (some ⟨blk 11, 0, none⟩) := p11
    have hsl : place_regS.slots 14 = [15, 16, 17, 18, 19, 20, 21, 22, 23, 24, 25, 6, 5] := rfl
    rw [hsl] at hf
    simp only [List.map_cons, List.map_nil, e0, e1, e2, e3, e4, e5, e6, e7, e8, e9, e10, e12, e11] at hf
    rw [hf]
    exact hend w (blk 11) b10  (below_undrew hI.below) r11 j11 x10
end Go.Proofs.YtbidadkcdchomaaDoor

/- package plan: place. (By gen_pplace.py.) -/
set_option linter.unusedVariables false
set_option linter.unusedSimpArgs false
namespace Go.Proofs.YtbidadkcdchomaaDoor
open Go.RowKit

def AgreeOut (o : List Nat) (st st' : List Int) : Prop := st'.length = st.length ∧ ∀ i, i ∉ o → st'[i]?.getD 0 = st[i]?.getD 0
def SetAt (o ss : List Nat) (st' : List Int) : Prop := ∀ q, q < ss.length → st'[o[q]!]?.getD 0 = ((ss[q]! : Nat) : Int)
theorem AgreeOut.refl (o : List Nat) (st : List Int) : AgreeOut o st st := ⟨rfl, fun _ _ => rfl⟩
theorem AgreeOut.set {o : List Nat} {x : Nat} {st st1 : List Int} (h : AgreeOut (x :: o) st st1) (z : Int) : AgreeOut (x :: o) st (st1.set x z) := by
  refine ⟨by rw [List.length_set]; exact h.1, fun i hi => ?_⟩
  have : x ≠ i := fun e => hi (by rw [e]; exact List.mem_cons_self)
  rw [List.getElem?_set_ne this]
  exact h.2 i hi
theorem AgreeOut.more {o : List Nat} {x : Nat} {st st1 st2 : List Int} (h : AgreeOut (x :: o) st st1) (h2 : AgreeOut o st1 st2) : AgreeOut (x :: o) st st2 :=
  ⟨h2.1.trans h.1, fun i hi => (h2.2 i (fun e => hi (List.mem_cons_of_mem _ e))).trans (h.2 i hi)⟩
/-- what one start of a job comes to -/
def tryN (vs : List Nat) (js : List JobN) (o C : List Nat) (j : JobN) (s : Nat) : Option (List Nat) :=
  if eachN vs (enterN j.ms s C) js o then (placeN vs js o (enterN j.ms s C)).map (s :: ·) else none
theorem place_cons (vs : List Nat) (js : List JobN) (x : Nat) (o C : List Nat) : placeN vs js (x :: o) C = (candsN vs C js[x]!).findSome? (tryN vs js o C js[x]!) := rfl
theorem first_some {L : List Nat} (hs : L.Pairwise (· < ·)) {F : Nat → Option (List Nat)} {s : Nat} {y : List Nat} (hm : s ∈ L) (hy : F s = some y) (hb : ∀ t ∈ L, t < s → F t = none) : L.findSome? F = some y := by
  obtain ⟨pre, post, rfl⟩ := List.append_of_mem hm
  rw [List.findSome?_append]
  have hpre : pre.findSome? F = none := by
    rw [List.findSome?_eq_none_iff]
    intro t ht
    exact hb t (List.mem_append_left _ ht) ((List.pairwise_append.1 hs).2.2 t ht s List.mem_cons_self)
  rw [hpre]
  simp [List.findSome?_cons, hy]
theorem next_spec {vs C : List Nat} {j : JobN} {f s : Nat} (h : nextN vs C j f = some s) : s ∈ candsN vs C j ∧ f ≤ s ∧ ∀ t ∈ candsN vs C j, t < s → t < f := by
  unfold nextN at h
  obtain ⟨hp, pre, post, hl, has⟩ := List.find?_eq_some_iff_append.1 h
  refine ⟨List.mem_of_find?_eq_some h, by simpa using hp, fun t ht hts => ?_⟩
  have hs := cands_sorted vs C j
  rw [hl] at ht hs
  rcases List.mem_append.1 ht with h1 | h1
  · have := has t h1
    simp at this
    omega
  · rcases List.mem_cons.1 h1 with rfl | h1
    · omega
    · have := (List.pairwise_cons.1 (List.pairwise_append.1 hs).2.1).1 t h1
      omega
theorem next_over {vs C : List Nat} {j : JobN} {f : Nat} (h : nextN vs C j f = none) : ∀ t ∈ candsN vs C j, t < f := fun t ht => by
  unfold nextN at h
  have := List.find?_eq_none.1 h t ht
  simp at this
  omega
theorem SrM.there24 {w : World} {B : Nat} {v j o : Value} {st : List Int} {C : List Nat} (h : SrM w B v j o st C) : w.there B 8 24 := fun i hi => ⟨by rw [h.crowd hi]; rfl, h.free _⟩
/-- all sets are written -/
theorem SrM.all24 {B : Nat} {v j o : Value} {st : List Int} : ∀ (es pre old : List Nat) (w : World), SrM w B v j o st (pre ++ old) → old.length = es.length → SrM (w.setCells B (8 + pre.length) (es.map fun n => Value.int .u64 ((n : Nat) : Int))) B v j o st (pre ++ es)
  | [], pre, old, w, h, hl => by
    have : old = [] := List.eq_nil_of_length_eq_zero hl
    subst this
    exact h
  | e :: es, pre, old, w, h, hl => by
    match old, hl with
    | o' :: old, hl =>
      have hlc := h.lc
      have h2 := h.setCrowd (i := pre.length) (by rw [List.length_append, List.length_cons] at hlc; omega) e
      have e1 : (pre ++ o' :: old).set pre.length e = (pre ++ [e]) ++ old := by simp
      rw [e1] at h2
      have h3 := SrM.all24 es (pre ++ [e]) old _ h2 (by simpa using hl)
      rw [List.length_append] at h3
      simpa [World.setCells, Nat.add_assoc] using h3
theorem grownBy_setCells (B : Nat) : ∀ (vs : List Value) (i : Nat) (w : World), w.grownBy (w.setCells B i vs) (some B)
  | [], _, w => grownBy_refl w _
  | v :: vs, i, w => grownBy_trans (grownBy_set w B i v) (grownBy_setCells B vs (i + 1) _)
theorem SrR.restore {w : World} {B : Nat} {va : Option Addr} {vl vc gj jl jc : Nat} {o : Value} {vn : List Nat} {js : List JobN} {st : List Int} {C D : List Nat} (h : SrR w B va vl vc gj jl jc o vn js st C) (hl : D.length = 24) (hd : ∀ i, i < 24 → D[i]! < 2 ^ 64) :
    SrR (w.setCells B 8 (D.map fun n => Value.int .u64 ((n : Nat) : Int))) B va vl vc gj jl jc o vn js st D :=
  h.write (grownBy_setCells B _ _ _) (SrM.all24 D [] C w h.m (by rw [h.m.lc, hl])) hd

/-- what place comes to -/
def PlaceOut (B : Nat) (va : Option Addr) (vl vc gj jl jc : Nat) (oa : Option Addr) (ol oc : Nat) (vn : List Nat) (js : List JobN) (os : List Nat) (k : Nat) (st : List Int) (C : List Nat) (W : World) (e : Ending) (w' : World) : Prop :=
  ∃ st' C', SrR w' B va vl vc gj jl jc (.slice oa ol oc) vn js st' C' ∧ W.grownBy w' (some B) ∧ AgreeOut (os.drop k) st st' ∧
    ((∃ ss, placeN vn js (os.drop k) C = some ss ∧ e = .returned (.bool true) ∧ SetAt (os.drop k) ss st') ∨ (placeN vn js (os.drop k) C = none ∧ e = .returned (.bool false) ∧ C' = C))

end Go.Proofs.YtbidadkcdchomaaDoor

/- package plan: place's walk. (By gen_pplacew.py.) -/
set_option linter.unusedVariables false
set_option linter.unusedSimpArgs false
namespace Go.Proofs.YtbidadkcdchomaaDoor
open Go.RowKit

set_option maxRecDepth 100000 in
set_option maxHeartbeats 16000000 in
theorem place_any (B : Nat) (va : Option Addr) (vl vc gj jl jc : Nat) (oa : Option Addr) (ol oc : Nat) (vn : List Nat) (js : List JobN) (os : List Nat) (hos : ∀ i, i < os.length → os[i]! < jl) (hnd : os.Nodup) (hol : ol ≤ oc) (hoc : oc ≤ 1000) (hjl : jl ≤ 5) (hno : ∀ a, oa = some a → a.block ≠ B) :
    ∀ n k, k + n = ol → ∀ (st : List Int) (C : List Nat) (W : World), SrR W B va vl vc gj jl jc (.slice oa ol oc) vn js st C → Il W oa ol (vI os) →
    Calls Tryd.prog 38 #[.pointer (some ⟨B, 0, none⟩), .int .i64 (k : Int)] W (PlaceOut B va vl vc gj jl jc oa ol oc vn js os k st C W)
  | 0, k, hk, st, C, W, h, ho => by
    have hlo : os.length = ol := by have := ho.len; rwa [vI_len] at this
    obtain rfl : k = ol := by omega
    have e0 : os.drop k = [] := List.drop_of_length_le (by omega)
    have HP : Hid (PlaceOut B va vl vc gj jl jc oa k oc vn js os k st C W (.returned (.bool true)) W) := Lib.hid ⟨st, C, h, grownBy_refl _ _, AgreeOut.refl _ _, .inl ⟨[], by rw [e0]; rfl, rfl, fun q hq => absurd hq (Nat.not_lt_zero _)⟩⟩
    have m2 := h.m.head.2.2
    have q2 : ((k : Int) == (k : Int)) = true := beq_iff_eq.2 rfl
    clear e0 hlo h ho
    go_enter Tryd.func38, Tryd.ntmps38
    go_wp2
    go_ret
    exact HP.out
  | n + 1, k, hk, st, C, W, h, ho => by
    have ih := place_any B va vl vc gj jl jc oa ol oc vn js os hos hnd hol hoc hjl hno n (k + 1) (by omega)
    have IH := Lib.hid ih
    have hlo : os.length = ol := by have := ho.len; rwa [vI_len] at this
    have hkl : k < ol := by omega
    have edrop : os.drop k = os[k]! :: os.drop (k + 1) := by rw [List.drop_eq_getElem_cons (by omega), getElem!_pos os k (by omega)]
    have hxj := hos k (by omega)
    obtain ⟨bo, oo, rfl, hoc2⟩ := ho.at (by omega)
    have ci := hoc2 k hkl
    rw [vI_get] at ci
    obtain ⟨x, hx⟩ : ∃ x, x = os[k]! := ⟨_, rfl⟩
    rw [← hx] at ci hxj edrop
    have hxn : x ∉ os.drop (k + 1) := by
      have := hnd
      rw [← List.take_append_drop k os, edrop, List.nodup_append] at this
      exact (List.nodup_cons.1 this.2.1).1
    obtain ⟨jb, hjb⟩ : ∃ jb, jb = js[x]! := ⟨_, rfl⟩
    obtain ⟨r, hr1, hr2, hr3, hr4⟩ := h.jok x hxj
    rw [← hjb] at hr1 hr3 hr4
    obtain ⟨nn0, nn1, nn2, nn3, nn4, nn5, nn6, nn7, nn8, nn9, nn10, nn11, nn12, nn13, nn14, nn15, nn16, nn17, nn18, nn19, nn20, nn21, nn22, nn23, hC⟩ := len24 h.m.lc
    have q0 : (0 : Int) ≤ (k : Int) := by omega
    have q1 : (k : Int) < (ol : Int) := by omega
    have q2 : ((k : Int) == (ol : Int)) = false := by simp; omega
    have m2 := h.m.head.2.2
    have c0 : W.cell? ⟨B, 8, none⟩ = some (.int .u64 ((nn0 : Nat) : Int)) := by have := h.m.crowd (i := 0) (by omega); rw [hC] at this; exact this
    have c1 : W.cell? ⟨B, 9, none⟩ = some (.int .u64 ((nn1 : Nat) : Int)) := by have := h.m.crowd (i := 1) (by omega); rw [hC] at this; exact this
    have c2 : W.cell? ⟨B, 10, none⟩ = some (.int .u64 ((nn2 : Nat) : Int)) := by have := h.m.crowd (i := 2) (by omega); rw [hC] at this; exact this
    have c3 : W.cell? ⟨B, 11, none⟩ = some (.int .u64 ((nn3 : Nat) : Int)) := by have := h.m.crowd (i := 3) (by omega); rw [hC] at this; exact this
    have c4 : W.cell? ⟨B, 12, none⟩ = some (.int .u64 ((nn4 : Nat) : Int)) := by have := h.m.crowd (i := 4) (by omega); rw [hC] at this; exact this
    have c5 : W.cell? ⟨B, 13, none⟩ = some (.int .u64 ((nn5 : Nat) : Int)) := by have := h.m.crowd (i := 5) (by omega); rw [hC] at this; exact this
    have c6 : W.cell? ⟨B, 14, none⟩ = some (.int .u64 ((nn6 : Nat) : Int)) := by have := h.m.crowd (i := 6) (by omega); rw [hC] at this; exact this
    have c7 : W.cell? ⟨B, 15, none⟩ = some (.int .u64 ((nn7 : Nat) : Int)) := by have := h.m.crowd (i := 7) (by omega); rw [hC] at this; exact this
    have c8 : W.cell? ⟨B, 16, none⟩ = some (.int .u64 ((nn8 : Nat) : Int)) := by have := h.m.crowd (i := 8) (by omega); rw [hC] at this; exact this
    have c9 : W.cell? ⟨B, 17, none⟩ = some (.int .u64 ((nn9 : Nat) : Int)) := by have := h.m.crowd (i := 9) (by omega); rw [hC] at this; exact this
    have c10 : W.cell? ⟨B, 18, none⟩ = some (.int .u64 ((nn10 : Nat) : Int)) := by have := h.m.crowd (i := 10) (by omega); rw [hC] at this; exact this
    have c11 : W.cell? ⟨B, 19, none⟩ = some (.int .u64 ((nn11 : Nat) : Int)) := by have := h.m.crowd (i := 11) (by omega); rw [hC] at this; exact this
    have c12 : W.cell? ⟨B, 20, none⟩ = some (.int .u64 ((nn12 : Nat) : Int)) := by have := h.m.crowd (i := 12) (by omega); rw [hC] at this; exact this
    have c13 : W.cell? ⟨B, 21, none⟩ = some (.int .u64 ((nn13 : Nat) : Int)) := by have := h.m.crowd (i := 13) (by omega); rw [hC] at this; exact this
    have c14 : W.cell? ⟨B, 22, none⟩ = some (.int .u64 ((nn14 : Nat) : Int)) := by have := h.m.crowd (i := 14) (by omega); rw [hC] at this; exact this
    have c15 : W.cell? ⟨B, 23, none⟩ = some (.int .u64 ((nn15 : Nat) : Int)) := by have := h.m.crowd (i := 15) (by omega); rw [hC] at this; exact this
    have c16 : W.cell? ⟨B, 24, none⟩ = some (.int .u64 ((nn16 : Nat) : Int)) := by have := h.m.crowd (i := 16) (by omega); rw [hC] at this; exact this
    have c17 : W.cell? ⟨B, 25, none⟩ = some (.int .u64 ((nn17 : Nat) : Int)) := by have := h.m.crowd (i := 17) (by omega); rw [hC] at this; exact this
    have c18 : W.cell? ⟨B, 26, none⟩ = some (.int .u64 ((nn18 : Nat) : Int)) := by have := h.m.crowd (i := 18) (by omega); rw [hC] at this; exact this
    have c19 : W.cell? ⟨B, 27, none⟩ = some (.int .u64 ((nn19 : Nat) : Int)) := by have := h.m.crowd (i := 19) (by omega); rw [hC] at this; exact this
    have c20 : W.cell? ⟨B, 28, none⟩ = some (.int .u64 ((nn20 : Nat) : Int)) := by have := h.m.crowd (i := 20) (by omega); rw [hC] at this; exact this
    have c21 : W.cell? ⟨B, 29, none⟩ = some (.int .u64 ((nn21 : Nat) : Int)) := by have := h.m.crowd (i := 21) (by omega); rw [hC] at this; exact this
    have c22 : W.cell? ⟨B, 30, none⟩ = some (.int .u64 ((nn22 : Nat) : Int)) := by have := h.m.crowd (i := 22) (by omega); rw [hC] at this; exact this
    have c23 : W.cell? ⟨B, 31, none⟩ = some (.int .u64 ((nn23 : Nat) : Int)) := by have := h.m.crowd (i := 23) (by omega); rw [hC] at this; exact this
    have HR := Lib.hid h
    have HO := Lib.hid ho
    have HLO := Lib.hid hlo
    have HE := Lib.hid edrop
    have HX := Lib.hid hx
    have HXN := Lib.hid hxn
    have HJB := Lib.hid hjb
    have HC := Lib.hid hC
    have HR1 := Lib.hid hr1
    have HNX : Hid (∀ (f : Nat) (hf : f ≤ 31) (st' : List Int) (w : World), SrR w B va vl vc gj jl jc (.slice (some ⟨bo, oo, none⟩) ol oc) vn js st' C → Calls Tryd.prog 46 #[.pointer (some ⟨B, 0, none⟩), .int .i64 (x : Int), .int .i64 (f : Int)] w fun e w' => e = .returned (.int .i64 (optZ (nextN vn C jb f))) ∧ Drew w w') :=
      Lib.hid fun f hf st' w hw => next_any B va vl vc gj jl jc _ vn js st' C jb x f r w hjb hw hxj hf hr1 hr2 hr3 hr4 hjl
    have ol1 : ol ≤ 1000 := by omega
    clear ih h ho hlo edrop hx hxn hjb hC hr1 hr2 hr3 hr4 hoc2
    go_enter Tryd.func38, Tryd.ntmps38
    go_wp2
    refine place_reg oo ol oc k x nn0 nn1 nn2 nn3 nn4 nn5 nn6 nn7 nn8 nn9 nn10 nn11 nn12 nn13 nn14 nn15 nn16 nn17 nn18 nn19 nn20 nn21 nn22 nn23 B bo (by kernel_rfl) rfl rfl rfl rfl rfl rfl rfl rfl rfl rfl rfl rfl rfl rfl (block_lt_of_cell m2) m2 (block_lt_of_cell ci) ci (block_lt_of_cell c0) c0 c1 c2 c3 c4 c5 c6 c7 c8 c9 c10 c11 c12 c13 c14 c15 c16 c17 c18 c19 c20 c21 c22 c23 rfl rfl hkl ol1 ?_
    intro w1 bb b10 hw1 hbb hBx hb10
    have HW1 := Lib.hid hw1
    have HBX := Lib.hid hBx
    have HRa := Lib.hid (HR.out.keep hw1)
    have HOa := Lib.hid (HO.out.keep hw1)
    have HBB := Lib.hid (show bb ≠ B from fun e => by have := HR.out.m.lt; omega)
    have N0 := HNX.out 0 (by omega) _ w1 HRa.out
    rw [show ((0 : Nat) : Int) = 0 from rfl] at N0
    have HN0 := Lib.hid N0
    clear hw1 hBx hb10 N0 m2 ci c0 c1 c2 c3 c4 c5 c6 c7 c8 c9 c10 c11 c12 c13 c14 c15 c16 c17 c18 c19 c20 c21 c22 c23
    simp only [puts, Act.put]
    go_wp2_with (go_at_call 46; refine HN0.out.mono ?_; rintro e w2 ⟨rfl, hd⟩; have HD2 := Lib.hid hd; clear hd)
    go_loopg [7] 40 (fun gg s7 wr => ∃ (f : Nat) (st1 : List Int), s7 = .int .i64 (optZ (nextN vn C jb f)) ∧ f ≤ 31 ∧ 31 - f ≤ gg ∧ Hid (∀ s ∈ candsN vn C jb, s < f → tryN vn js (os.drop (k + 1)) C jb s = none) ∧ Hid (SrR wr B va vl vc gj jl jc (.slice (some ⟨bo, oo, none⟩) ol oc) vn js st1 C) ∧ Hid (AgreeOut (os.drop k) st st1) ∧ Hid (w1.grownBy wr (some B)))
    case atStart => exact ⟨0, st, rfl, by omega, by omega, Lib.hid (fun s hs hs0 => absurd hs0 (Nat.not_lt_zero _)), Lib.hid (HRa.out.keep HD2.out.below), Lib.hid (AgreeOut.refl _ _), Lib.hid (grownBy_of_below HD2.out.below)⟩
    case round =>
      obtain ⟨f, st1, rfl, hf, hgg, HF, HRr, HA, HG⟩ := hrel
      have HGW := Lib.hid (grownBy_trans (grownBy_of_below (row := some B) HW1.out) HG.out)
      cases hn : nextN vn C jb f with
      | none =>
        have HN := Lib.hid hn
        clear hn
        rw [show optZ none = -1 from rfl]
        go_wp2
        go_ret
        exact ⟨st1, C, HRr.out, HGW.out, HA.out, .inr ⟨by
          rw [HE.out, place_cons, ← HJB.out, List.findSome?_eq_none_iff]
          exact fun t ht => HF.out t ht (next_over HN.out t ht), rfl, rfl⟩⟩
      | some s =>
        obtain ⟨hs1, hs2, hs3⟩ := next_spec hn
        have hs31 : s ≤ 30 := by have := (in_cands.1 hs1).1; omega
        have HS1 := Lib.hid hs1
        have HS3 := Lib.hid hs3
        have s0 : (0 : Int) ≤ (s : Int) := by omega
        clear hn hs1 hs3
        rw [show optZ (some s) = (s : Int) from rfl]
        have x0 : (0 : Int) ≤ (x : Int) := by omega
        have x5 : (x : Int) < 5 := by omega
        have HEN := Lib.hid (enter_any B va vl vc gj jl jc _ vn js st1 C jb x s wr HJB.out HRr.out hxj hs31 hjl)
        go_upto_region 8 with (go_at_call 47; refine HEN.out.mono ?_; rintro e w2 ⟨rfl, hR2, hg2, hz2⟩; have HR2 := Lib.hid hR2; have HG2 := Lib.hid hg2; clear hR2 hg2 hz2)
        have cs := HR2.out.m.start (show x < 5 by omega)
        have fs := HR2.out.m.free (3 + x)
        go_upto_region 9 with fail
        obtain ⟨w3, hw3⟩ : ∃ w3, w3 = w2.setCell ⟨B, 3 + x, none⟩ (.int .i64 (s : Int)) := ⟨_, rfl⟩
        have HR3 : Hid (SrR w3 B va vl vc gj jl jc (.slice (some ⟨bo, oo, none⟩) ol oc) vn js (st1.set x (s : Int)) (enterN jb.ms s C)) := Lib.hid (by rw [hw3]; exact HR2.out.write (grownBy_set _ _ _ _) (HR2.out.m.setStart (by omega) _) HR2.out.cl)
        have HG3 : Hid (w1.grownBy w3 (some B)) := Lib.hid (by rw [hw3]; exact grownBy_trans HG.out (grownBy_trans HG2.out (grownBy_set _ _ _ _)))
        have HO3 : Hid (Il w3 (some ⟨bo, oo, none⟩) ol (vI os)) := Lib.hid (HOa.out.grown HG3.out hno)
        rw [← hw3]
        have HAS : Hid (AgreeOut (os.drop k) st (st1.set x (s : Int))) := Lib.hid (by have := HA.out; rw [HE.out] at this ⊢; exact this.set _)
        have EA := each_any B va vl vc gj jl jc (some ⟨bo, oo, none⟩) ol oc vn js os (st1.set x (s : Int)) (enterN jb.ms s C) (k + 1) w3 HR3.out HO3.out hos hol hoc (by omega) hjl
        rw [show (((k + 1 : Nat)) : Int) = (k : Int) + 1 from by omega] at EA
        clear hw3 cs fs
        cases he : eachN vn (enterN jb.ms s C) js (os.drop (k + 1)) with
        | false =>
          rw [he] at EA
          have HEA := Lib.hid EA
          have HFE := Lib.hid he
          have HT : Hid (tryN vn js (os.drop (k + 1)) C jb s = none) := Lib.hid (by unfold tryN; rw [he]; rfl)
          clear EA he
          go_upto_region 11 with (go_at_call 48; refine HEA.out.mono ?_; rintro e w4 ⟨rfl, hd⟩; have HD4 := Lib.hid hd; clear hd)
          have HR4 := Lib.hid (HR3.out.keep HD4.out.below)
          have HG4 : Hid (w1.grownBy w4 (some B)) := Lib.hid (grownBy_trans HG3.out (grownBy_of_below HD4.out.below))
          have HST := HAS
          have HBX4 : Hid (Box w4 bb 65 #[.int .u64 (nn0 : Int), .int .u64 (nn1 : Int), .int .u64 (nn2 : Int), .int .u64 (nn3 : Int), .int .u64 (nn4 : Int), .int .u64 (nn5 : Int), .int .u64 (nn6 : Int), .int .u64 (nn7 : Int), .int .u64 (nn8 : Int), .int .u64 (nn9 : Int), .int .u64 (nn10 : Int), .int .u64 (nn11 : Int), .int .u64 (nn12 : Int), .int .u64 (nn13 : Int), .int .u64 (nn14 : Int), .int .u64 (nn15 : Int), .int .u64 (nn16 : Int), .int .u64 (nn17 : Int), .int .u64 (nn18 : Int), .int .u64 (nn19 : Int), .int .u64 (nn20 : Int), .int .u64 (nn21 : Int), .int .u64 (nn22 : Int), .int .u64 (nn23 : Int)]) := Lib.hid ((HG4.out.block bb (Box.lt HBX.out) (by have := HBB.out; simp [this])).trans HBX.out)
          go_upto_region 6 with (first | (refine wpList_load_row rfl 65 (.tmp 6) rfl bb rfl 65 #[.int .u64 (nn0 : Int), .int .u64 (nn1 : Int), .int .u64 (nn2 : Int), .int .u64 (nn3 : Int), .int .u64 (nn4 : Int), .int .u64 (nn5 : Int), .int .u64 (nn6 : Int), .int .u64 (nn7 : Int), .int .u64 (nn8 : Int), .int .u64 (nn9 : Int), .int .u64 (nn10 : Int), .int .u64 (nn11 : Int), .int .u64 (nn12 : Int), .int .u64 (nn13 : Int), .int .u64 (nn14 : Int), .int .u64 (nn15 : Int), .int .u64 (nn16 : Int), .int .u64 (nn17 : Int), .int .u64 (nn18 : Int), .int .u64 (nn19 : Int), .int .u64 (nn20 : Int), .int .u64 (nn21 : Int), .int .u64 (nn22 : Int), .int .u64 (nn23 : Int)] (0, 0) _ HBX4.out Tryd.underlying65 rfl (by kernel_rfl) ?_) | (refine wpList_store_mid rfl 65 (.tmp 59) (.tmp 57) rfl B 8 #[.int .u64 (nn0 : Int), .int .u64 (nn1 : Int), .int .u64 (nn2 : Int), .int .u64 (nn3 : Int), .int .u64 (nn4 : Int), .int .u64 (nn5 : Int), .int .u64 (nn6 : Int), .int .u64 (nn7 : Int), .int .u64 (nn8 : Int), .int .u64 (nn9 : Int), .int .u64 (nn10 : Int), .int .u64 (nn11 : Int), .int .u64 (nn12 : Int), .int .u64 (nn13 : Int), .int .u64 (nn14 : Int), .int .u64 (nn15 : Int), .int .u64 (nn16 : Int), .int .u64 (nn17 : Int), .int .u64 (nn18 : Int), .int .u64 (nn19 : Int), .int .u64 (nn20 : Int), .int .u64 (nn21 : Int), .int .u64 (nn22 : Int), .int .u64 (nn23 : Int)] rfl rfl HR4.out.m.there24 (by kernel_rfl) (by rw [List.all_toArray]; rfl) ?_))
          obtain ⟨w5, hw5⟩ : ∃ w5, w5 = w4.setCells B 8 [.int .u64 (nn0 : Int), .int .u64 (nn1 : Int), .int .u64 (nn2 : Int), .int .u64 (nn3 : Int), .int .u64 (nn4 : Int), .int .u64 (nn5 : Int), .int .u64 (nn6 : Int), .int .u64 (nn7 : Int), .int .u64 (nn8 : Int), .int .u64 (nn9 : Int), .int .u64 (nn10 : Int), .int .u64 (nn11 : Int), .int .u64 (nn12 : Int), .int .u64 (nn13 : Int), .int .u64 (nn14 : Int), .int .u64 (nn15 : Int), .int .u64 (nn16 : Int), .int .u64 (nn17 : Int), .int .u64 (nn18 : Int), .int .u64 (nn19 : Int), .int .u64 (nn20 : Int), .int .u64 (nn21 : Int), .int .u64 (nn22 : Int), .int .u64 (nn23 : Int)] := ⟨_, rfl⟩
          have HR5 := HR4.out.restore (D := C) (by rw [HC.out]; rfl) HR.out.cl
          have HM : (C.map fun n => Value.int .u64 ((n : Nat) : Int)) = [.int .u64 (nn0 : Int), .int .u64 (nn1 : Int), .int .u64 (nn2 : Int), .int .u64 (nn3 : Int), .int .u64 (nn4 : Int), .int .u64 (nn5 : Int), .int .u64 (nn6 : Int), .int .u64 (nn7 : Int), .int .u64 (nn8 : Int), .int .u64 (nn9 : Int), .int .u64 (nn10 : Int), .int .u64 (nn11 : Int), .int .u64 (nn12 : Int), .int .u64 (nn13 : Int), .int .u64 (nn14 : Int), .int .u64 (nn15 : Int), .int .u64 (nn16 : Int), .int .u64 (nn17 : Int), .int .u64 (nn18 : Int), .int .u64 (nn19 : Int), .int .u64 (nn20 : Int), .int .u64 (nn21 : Int), .int .u64 (nn22 : Int), .int .u64 (nn23 : Int)] := by rw [HC.out]; rfl
          rw [HM, ← hw5] at HR5
          have HR5 := Lib.hid HR5
          have HG5 : Hid (w1.grownBy w5 (some B)) := Lib.hid (by rw [hw5]; exact grownBy_trans HG4.out (grownBy_setCells _ _ _ _))
          first | rw [← hw5] | (trace_state; fail)
          have N1 := HNX.out (s + 1) (by omega) _ w5 HR5.out
          rw [show (((s + 1 : Nat)) : Int) = (s : Int) + 1 from by omega] at N1
          have HN1 := Lib.hid N1
          clear N1 hw5 HM
          go_wp2_with (go_at_call 46; refine HN1.out.mono ?_; rintro e w6 ⟨rfl, hd⟩; have HD6 := Lib.hid hd; clear hd)
          go_roundg (31 - (s + 1))
          case measure => omega
          case rel => exact ⟨s + 1, _, rfl, by omega, Nat.le_refl _, Lib.hid (fun t ht hts => by
              by_cases e : t = s
              · subst e; exact HT.out
              · exact HF.out t ht (HS3.out t ht (by omega))), Lib.hid (HR5.out.keep HD6.out.below), HST, Lib.hid (grownBy_trans HG5.out (grownBy_of_below HD6.out.below))⟩
        | true =>
          rw [he] at EA
          have HEA := Lib.hid EA
          have HFE := Lib.hid he
          clear EA he
          go_wp2_with (go_at_call 48; refine HEA.out.mono ?_; rintro e w4 ⟨rfl, hd⟩; have HD4 := Lib.hid hd; clear hd)
          have ihc := IH.out (st1.set x (s : Int)) (enterN jb.ms s C) w4 (HR3.out.keep HD4.out.below) (HO3.out.keep HD4.out.below)
          rw [show (((k + 1 : Nat)) : Int) = (k : Int) + 1 from by omega] at ihc
          refine ihc.mono ?_
          clear ihc
          rintro e w5 ⟨st2, C2, hR5, hg5, ha5, ⟨ss, hss, rfl, hset⟩ | ⟨hnone, rfl, rfl⟩⟩
          · have HR5 := Lib.hid hR5
            have HG5 := Lib.hid (grownBy_trans HG3.out (grownBy_trans (grownBy_of_below HD4.out.below) hg5))
            have HA5 := Lib.hid ha5
            have HSS := Lib.hid hss
            have HSE := Lib.hid hset
            clear hR5 hg5 ha5 hss hset
            go_wp2
            go_ret
            refine ⟨st2, C2, HR5.out, grownBy_trans (grownBy_of_below (row := some B) HW1.out) HG5.out, ?_, .inl ⟨s :: ss, ?_, rfl, ?_⟩⟩
            · have := HAS.out
              rw [HE.out] at this ⊢
              exact this.more HA5.out
            · rw [HE.out, place_cons, ← HJB.out]
              refine first_some (cands_sorted _ _ _) HS1.out ?_ (fun t ht hts => HF.out t ht (HS3.out t ht hts))
              unfold tryN
              rw [HFE.out, if_pos rfl, HSS.out]; rfl
            · intro q hq
              rw [HE.out]
              cases q with
              | zero =>
                have e1 := HA5.out.2 x HXN.out
                have l1 : x < st1.length := by have := HRr.out.m.ls; omega
                rw [List.getElem?_set_self l1] at e1
                exact e1
              | succ q => exact HSE.out q (by simpa using hq)
          · have HR4 := Lib.hid hR5
            have HG4 := Lib.hid (grownBy_trans HG3.out (grownBy_trans (grownBy_of_below HD4.out.below) hg5))
            have HST : Hid (AgreeOut (os.drop k) st st2) := Lib.hid (by have := HAS.out; rw [HE.out] at this ⊢; exact this.more ha5)
            have HT : Hid (tryN vn js (os.drop (k + 1)) C jb s = none) := Lib.hid (by unfold tryN; rw [HFE.out, if_pos rfl, hnone]; rfl)
            clear hR5 hg5 ha5 hnone
            go_upto_region 11 with fail
            have HBX4 : Hid (Box w5 bb 65 #[.int .u64 (nn0 : Int), .int .u64 (nn1 : Int), .int .u64 (nn2 : Int), .int .u64 (nn3 : Int), .int .u64 (nn4 : Int), .int .u64 (nn5 : Int), .int .u64 (nn6 : Int), .int .u64 (nn7 : Int), .int .u64 (nn8 : Int), .int .u64 (nn9 : Int), .int .u64 (nn10 : Int), .int .u64 (nn11 : Int), .int .u64 (nn12 : Int), .int .u64 (nn13 : Int), .int .u64 (nn14 : Int), .int .u64 (nn15 : Int), .int .u64 (nn16 : Int), .int .u64 (nn17 : Int), .int .u64 (nn18 : Int), .int .u64 (nn19 : Int), .int .u64 (nn20 : Int), .int .u64 (nn21 : Int), .int .u64 (nn22 : Int), .int .u64 (nn23 : Int)]) := Lib.hid ((HG4.out.block bb (Box.lt HBX.out) (by have := HBB.out; simp [this])).trans HBX.out)
            go_upto_region 6 with (first | (refine wpList_load_row rfl 65 (.tmp 6) rfl bb rfl 65 #[.int .u64 (nn0 : Int), .int .u64 (nn1 : Int), .int .u64 (nn2 : Int), .int .u64 (nn3 : Int), .int .u64 (nn4 : Int), .int .u64 (nn5 : Int), .int .u64 (nn6 : Int), .int .u64 (nn7 : Int), .int .u64 (nn8 : Int), .int .u64 (nn9 : Int), .int .u64 (nn10 : Int), .int .u64 (nn11 : Int), .int .u64 (nn12 : Int), .int .u64 (nn13 : Int), .int .u64 (nn14 : Int), .int .u64 (nn15 : Int), .int .u64 (nn16 : Int), .int .u64 (nn17 : Int), .int .u64 (nn18 : Int), .int .u64 (nn19 : Int), .int .u64 (nn20 : Int), .int .u64 (nn21 : Int), .int .u64 (nn22 : Int), .int .u64 (nn23 : Int)] (0, 0) _ HBX4.out Tryd.underlying65 rfl (by kernel_rfl) ?_) | (refine wpList_store_mid rfl 65 (.tmp 59) (.tmp 57) rfl B 8 #[.int .u64 (nn0 : Int), .int .u64 (nn1 : Int), .int .u64 (nn2 : Int), .int .u64 (nn3 : Int), .int .u64 (nn4 : Int), .int .u64 (nn5 : Int), .int .u64 (nn6 : Int), .int .u64 (nn7 : Int), .int .u64 (nn8 : Int), .int .u64 (nn9 : Int), .int .u64 (nn10 : Int), .int .u64 (nn11 : Int), .int .u64 (nn12 : Int), .int .u64 (nn13 : Int), .int .u64 (nn14 : Int), .int .u64 (nn15 : Int), .int .u64 (nn16 : Int), .int .u64 (nn17 : Int), .int .u64 (nn18 : Int), .int .u64 (nn19 : Int), .int .u64 (nn20 : Int), .int .u64 (nn21 : Int), .int .u64 (nn22 : Int), .int .u64 (nn23 : Int)] rfl rfl HR4.out.m.there24 (by kernel_rfl) (by rw [List.all_toArray]; rfl) ?_))
            obtain ⟨w7, hw7⟩ : ∃ w7, w7 = w5.setCells B 8 [.int .u64 (nn0 : Int), .int .u64 (nn1 : Int), .int .u64 (nn2 : Int), .int .u64 (nn3 : Int), .int .u64 (nn4 : Int), .int .u64 (nn5 : Int), .int .u64 (nn6 : Int), .int .u64 (nn7 : Int), .int .u64 (nn8 : Int), .int .u64 (nn9 : Int), .int .u64 (nn10 : Int), .int .u64 (nn11 : Int), .int .u64 (nn12 : Int), .int .u64 (nn13 : Int), .int .u64 (nn14 : Int), .int .u64 (nn15 : Int), .int .u64 (nn16 : Int), .int .u64 (nn17 : Int), .int .u64 (nn18 : Int), .int .u64 (nn19 : Int), .int .u64 (nn20 : Int), .int .u64 (nn21 : Int), .int .u64 (nn22 : Int), .int .u64 (nn23 : Int)] := ⟨_, rfl⟩
            have HR5 := HR4.out.restore (D := C) (by rw [HC.out]; rfl) HR.out.cl
            have HM : (C.map fun n => Value.int .u64 ((n : Nat) : Int)) = [.int .u64 (nn0 : Int), .int .u64 (nn1 : Int), .int .u64 (nn2 : Int), .int .u64 (nn3 : Int), .int .u64 (nn4 : Int), .int .u64 (nn5 : Int), .int .u64 (nn6 : Int), .int .u64 (nn7 : Int), .int .u64 (nn8 : Int), .int .u64 (nn9 : Int), .int .u64 (nn10 : Int), .int .u64 (nn11 : Int), .int .u64 (nn12 : Int), .int .u64 (nn13 : Int), .int .u64 (nn14 : Int), .int .u64 (nn15 : Int), .int .u64 (nn16 : Int), .int .u64 (nn17 : Int), .int .u64 (nn18 : Int), .int .u64 (nn19 : Int), .int .u64 (nn20 : Int), .int .u64 (nn21 : Int), .int .u64 (nn22 : Int), .int .u64 (nn23 : Int)] := by rw [HC.out]; rfl
            rw [HM, ← hw7] at HR5
            have HR5 := Lib.hid HR5
            have HG5 : Hid (w1.grownBy w7 (some B)) := Lib.hid (by rw [hw7]; exact grownBy_trans HG4.out (grownBy_setCells _ _ _ _))
            first | rw [← hw7] | (trace_state; fail)
            have N1 := HNX.out (s + 1) (by omega) _ w7 HR5.out
            rw [show (((s + 1 : Nat)) : Int) = (s : Int) + 1 from by omega] at N1
            have HN1 := Lib.hid N1
            clear N1 hw7 HM
            go_wp2_with (go_at_call 46; refine HN1.out.mono ?_; rintro e w6 ⟨rfl, hd⟩; have HD6 := Lib.hid hd; clear hd)
            go_roundg (31 - (s + 1))
            case measure => omega
            case rel => exact ⟨s + 1, _, rfl, by omega, Nat.le_refl _, Lib.hid (fun t ht hts => by
                by_cases e : t = s
                · subst e; exact HT.out
                · exact HF.out t ht (HS3.out t ht (by omega))), Lib.hid (HR5.out.keep HD6.out.below), HST, Lib.hid (grownBy_trans HG5.out (grownBy_of_below HD6.out.below))⟩
end Go.Proofs.YtbidadkcdchomaaDoor

/- package plan: indices; cmp.Compare. -/
set_option linter.unusedVariables false
set_option linter.unusedSimpArgs false
namespace Go.Proofs.YtbidadkcdchomaaDoor
open Go.RowKit

/-- 0, 1, .. up to n, zeros behind k -/
def indI (n k : Nat) : List Int := (List.range n).map fun i => if i < k then (i : Int) else 0
theorem indI_zero (n : Nat) : indI n 0 = List.replicate n 0 := by
  refine List.ext_getElem (by simp [indI]) fun i h1 h2 => by simp [indI]
theorem indI_all (n : Nat) : indI n n = vI (List.range n) := by
  refine List.ext_getElem (by simp [indI, vI]) fun i h1 h2 => ?_
  have : i < n := by simpa [indI] using h1
  simp [indI, vI, this]
theorem indI_set (n k : Nat) (hk : k < n) : (indI n k).set k (k : Int) = indI n (k + 1) := by
  refine List.ext_getElem (by simp [indI]) fun i h1 h2 => ?_
  rw [List.getElem_set]
  simp only [indI, List.getElem_map, List.getElem_range]
  by_cases h : k = i
  · subst h; simp
  · rw [if_neg h]
    by_cases h3 : i < k
    · rw [if_pos h3, if_pos (by omega)]
    · rw [if_neg h3, if_neg (by omega)]
def OutInd (n : Nat) (W : World) (e : Ending) (w' : World) : Prop := e = .returned (.slice (some ⟨W.heap.size, 0, none⟩) n n) ∧ Blk w' W.heap.size (vI (List.range n)) ∧ Below W.heap.size W w' ∧ w'.heap.size = W.heap.size + 1
set_option maxHeartbeats 1000000 in
theorem indices_any (n : Nat) (hn : n ≤ 1000) (W : World) : Calls Tryd.prog 27 #[.int .i64 (n : Int)] W (OutInd n W) := by
  go_enter Tryd.func27, Tryd.ntmps27
  go_wp2_with (at_make; refine wpList_mk rfl _ 22 rfl Tryd.underlying22 (by kernel_rfl) _ n rfl rfl (by omega) ?_; intro w1 hB1 hb1 hz1; have K1 := Lib.hid hB1; have B1 := Lib.hid hb1; have Z1 := Lib.hid hz1; clear hB1 hb1 hz1)
  go_loopg [8] n (fun gg s8 wr => ∃ k : Nat, s8 = .int .i64 (k : Int) ∧ k ≤ n ∧ n - k ≤ gg ∧ Hid (Blk wr W.heap.size (indI n k)) ∧ Hid (Below W.heap.size W wr) ∧ Hid (wr.heap.size = W.heap.size + 1))
  case atStart => exact ⟨0, rfl, Nat.zero_le _, by omega, Lib.hid (by rw [indI_zero]; exact K1.out), B1, Z1⟩
  case round =>
    obtain ⟨k, rfl, hk, hgg, HB, HW, HZ⟩ := hrel
    by_cases h1 : k < n
    · have u0 : (0 : Int) ≤ (k : Int) := by omega
      have u1 : (k : Int) < (n : Int) := by omega
      have c0 := HB.out.cell k (by simp [indI]; exact h1)
      have f0 := HB.out.frozen k
      go_wp2
      go_roundg (n - (k + 1))
      case measure => omega
      case rel => exact ⟨k + 1, by go_num, by omega, Nat.le_refl _, Lib.hid (by rw [← indI_set n k h1]; exact HB.out.set k _), Lib.hid (HW.out.setCell (p := ⟨W.heap.size, k, none⟩) (Nat.le_refl _) _), Lib.hid (by have := HZ.out; simpa using this)⟩
    · have u1 : ¬ (k : Int) < (n : Int) := by omega
      obtain rfl : k = n := by omega
      go_wp2
      go_ret
      exact ⟨rfl, by rw [← indI_all]; exact HB.out, HW.out, HZ.out⟩
def cmpZ (a b : Int) : Int := if a < b then -1 else if b < a then 1 else 0
set_option maxHeartbeats 800000 in
theorem nan_any (a : Int) (W : World) : Calls Tryd.prog 58 #[.int .i64 a] W fun e w' => e = .returned (.bool false) ∧ W = w' := by
  have t : (a != a) = false := by simp
  go_enter Tryd.func58, Tryd.ntmps58
  go_wp2
  go_ret
  exact ⟨rfl, rfl⟩
set_option maxHeartbeats 800000 in
theorem compare_any (a b : Int) (W : World) : Calls Tryd.prog 51 #[.int .i64 a, .int .i64 b] W fun e w' => e = .returned (.int .i64 (cmpZ a b)) ∧ W = w' := by
  rcases Int.lt_trichotomy a b with h | h | h
  · have e : cmpZ a b = -1 := by unfold cmpZ; rw [if_pos h]
    rw [e]
    clear e
    go_enter Tryd.func51, Tryd.ntmps51
    go_wp2_with (go_at_call 58; refine (nan_any _ _).mono ?_; rintro e w1 ⟨rfl, rfl⟩)
    go_ret
    exact ⟨rfl, rfl⟩
  · subst h
    have e : cmpZ a a = 0 := by unfold cmpZ; simp
    rw [e]
    have h1 : ¬ a < a := by omega
    clear e
    go_enter Tryd.func51, Tryd.ntmps51
    go_wp2_with (go_at_call 58; refine (nan_any _ _).mono ?_; rintro e w1 ⟨rfl, rfl⟩)
    go_ret
    exact ⟨rfl, rfl⟩
  · have e : cmpZ a b = 1 := by unfold cmpZ; rw [if_neg (by omega), if_pos h]
    rw [e]
    have h1 : ¬ a < b := by omega
    clear e
    go_enter Tryd.func51, Tryd.ntmps51
    go_wp2_with (go_at_call 58; refine (nan_any _ _).mono ?_; rintro e w1 ⟨rfl, rfl⟩)
    go_ret
    exact ⟨rfl, rfl⟩
end Go.Proofs.YtbidadkcdchomaaDoor
