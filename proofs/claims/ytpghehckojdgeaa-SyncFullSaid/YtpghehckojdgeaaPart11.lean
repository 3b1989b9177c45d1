/- Part 11 of the contracts: SPlanA. -/
import Derived.Test.YtpghehckojdgeaaPart10

/- Region 5 of SyncLattice. (By gen_splana.py.) -/
set_option linter.unusedVariables false
set_option linter.unusedSimpArgs false
namespace Go.Proofs.Ytpghehckojdgeaa
open Go.RowKit Go.Proofs

def IsT (U : Tab) (m : Nat) (v : Value) (w : World) : Prop := ∃ b o l c, v = .agg #[.int .i64 (b.seen 0 : Int), .int .i64 (b.seen 1 : Int), .int .i64 (b.seen 2 : Int), .int .i64 (b.seen 3 : Int), .int .i64 (b.seen 4 : Int), .int .i64 (b.seen 5 : Int), .int .i64 (b.seen 6 : Int), .int .i64 (b.seen 7 : Int), .slice o l c] ∧ b = U ∧ Held w m b o l
theorem Stable.isT (base : Nat) (U : Tab) (m : Nat) (v : Value) : Stable base (IsT U m v) :=
  Stable.ex fun b => Stable.ex fun o => Stable.ex fun l => Stable.ex fun c => (Stable.const base _).and ((Stable.const base _).and (Stable.held base m b o l))
theorem outT {W w' : World} {U : Tab} {m : Nat} {e : Ending} (h : ∃ b o l c, e = .returned (.agg #[.int .i64 (b.seen 0 : Int), .int .i64 (b.seen 1 : Int), .int .i64 (b.seen 2 : Int), .int .i64 (b.seen 3 : Int), .int .i64 (b.seen 4 : Int), .int .i64 (b.seen 5 : Int), .int .i64 (b.seen 6 : Int), .int .i64 (b.seen 7 : Int), .slice o l c]) ∧ Hid (b = U) ∧ Held w' m b o l ∧ Below W.heap.size W w') : ∃ v, e = .returned v ∧ IsT U m v w' ∧ Below W.heap.size W w' := by
  obtain ⟨b, o, l, c, he, h1, h2, h3⟩ := h
  exact ⟨_, he, ⟨b, o, l, c, rfl, h1.out, h2⟩, h3⟩

def lat_regionS : Shape where
  f := fun i => match i with | 0 => 45 | 1 => 46 | 2 => 47 | 3 => 48 | 4 => 49 | 5 => 50 | 6 => 13 | 7 => 14 | _ => 0
  kd := fun i => match i with | 6 => .box 34 #[.int .i64 0, .int .i64 0, .int .i64 0, .int .i64 0, .int .i64 0, .int .i64 0, .int .i64 0, .int .i64 0, .slice none 0 0] | 7 => .box 34 #[.int .i64 0, .int .i64 0, .int .i64 0, .int .i64 0, .int .i64 0, .int .i64 0, .int .i64 0, .int .i64 0, .slice none 0 0] | 8 => .put 6 2 | 9 => .put 7 5 | _ => .val
  need := fun i => match i with | 2 => [0, 1] | 5 => [3, 4] | 8 => [6, 2] | 9 => [7, 5] | _ => []
  st := fun i => match i with | 6 => 8 | 7 => 9 | _ => 0
  src := fun i => match i with | 6 => 2 | 7 => 5 | _ => 0

set_option maxRecDepth 4000 in
set_option maxHeartbeats 16000000 in
/-- two merges, whose blocks may be made at any time -/
theorem lat_region {Q : Exit → Act → World → Prop} {id : Nat} {a0 : Act} {W : World} {o0 o1 o2 o3 o4 o5 o6 o7 o8 o9 : Oper} (ta tb tc : Slot) (m : Nat) (gP : Nat) (gR : Nat) (gS : Nat) (ts2 : Array TypeId) (ts5 : Array TypeId)
    (hok : lat_regionS.ok #[o0, o1, o2, o3, o4, o5, o6, o7, o8, o9] a0.tmps.size = true)
    (h0 : o0.op = .load 34 (.tmp 10)) (h1 : o1.op = .load 34 (.tmp 11)) (h2 : o2.op = .call { callee := .value (.func 25), args := #[.tmp 45, .tmp 46], argTypes := ts2 }) (h3 : o3.op = .load 34 (.tmp 11)) (h4 : o4.op = .load 34 (.tmp 12)) (h5 : o5.op = .call { callee := .value (.func 25), args := #[.tmp 48, .tmp 49], argTypes := ts5 }) (h6 : o6.op = .alloc 34) (h7 : o7.op = .alloc 34) (h8 : o8.op = .store 34 (.tmp 13) (.tmp 47)) (h9 : o9.op = .store 34 (.tmp 14) (.tmp 50))
    (hrP : a0.eval (.tmp 10) = .pointer (some ⟨gP, 0, none⟩)) (hgP : gP < W.heap.size) (cP_0 : W.cell? ⟨gP, 0, none⟩ = some (.int .i64 (ta.T.seen 0 : Int))) (cP_1 : W.cell? ⟨gP, 1, none⟩ = some (.int .i64 (ta.T.seen 1 : Int))) (cP_2 : W.cell? ⟨gP, 2, none⟩ = some (.int .i64 (ta.T.seen 2 : Int))) (cP_3 : W.cell? ⟨gP, 3, none⟩ = some (.int .i64 (ta.T.seen 3 : Int))) (cP_4 : W.cell? ⟨gP, 4, none⟩ = some (.int .i64 (ta.T.seen 4 : Int))) (cP_5 : W.cell? ⟨gP, 5, none⟩ = some (.int .i64 (ta.T.seen 5 : Int))) (cP_6 : W.cell? ⟨gP, 6, none⟩ = some (.int .i64 (ta.T.seen 6 : Int))) (cP_7 : W.cell? ⟨gP, 7, none⟩ = some (.int .i64 (ta.T.seen 7 : Int))) (cP_8 : W.cell? ⟨gP, 8, none⟩ = some (.slice ta.ao ta.n ta.c))
    (hrR : a0.eval (.tmp 11) = .pointer (some ⟨gR, 0, none⟩)) (hgR : gR < W.heap.size) (cR_0 : W.cell? ⟨gR, 0, none⟩ = some (.int .i64 (tb.T.seen 0 : Int))) (cR_1 : W.cell? ⟨gR, 1, none⟩ = some (.int .i64 (tb.T.seen 1 : Int))) (cR_2 : W.cell? ⟨gR, 2, none⟩ = some (.int .i64 (tb.T.seen 2 : Int))) (cR_3 : W.cell? ⟨gR, 3, none⟩ = some (.int .i64 (tb.T.seen 3 : Int))) (cR_4 : W.cell? ⟨gR, 4, none⟩ = some (.int .i64 (tb.T.seen 4 : Int))) (cR_5 : W.cell? ⟨gR, 5, none⟩ = some (.int .i64 (tb.T.seen 5 : Int))) (cR_6 : W.cell? ⟨gR, 6, none⟩ = some (.int .i64 (tb.T.seen 6 : Int))) (cR_7 : W.cell? ⟨gR, 7, none⟩ = some (.int .i64 (tb.T.seen 7 : Int))) (cR_8 : W.cell? ⟨gR, 8, none⟩ = some (.slice tb.ao tb.n tb.c))
    (hrS : a0.eval (.tmp 12) = .pointer (some ⟨gS, 0, none⟩)) (hgS : gS < W.heap.size) (cS_0 : W.cell? ⟨gS, 0, none⟩ = some (.int .i64 (tc.T.seen 0 : Int))) (cS_1 : W.cell? ⟨gS, 1, none⟩ = some (.int .i64 (tc.T.seen 1 : Int))) (cS_2 : W.cell? ⟨gS, 2, none⟩ = some (.int .i64 (tc.T.seen 2 : Int))) (cS_3 : W.cell? ⟨gS, 3, none⟩ = some (.int .i64 (tc.T.seen 3 : Int))) (cS_4 : W.cell? ⟨gS, 4, none⟩ = some (.int .i64 (tc.T.seen 4 : Int))) (cS_5 : W.cell? ⟨gS, 5, none⟩ = some (.int .i64 (tc.T.seen 5 : Int))) (cS_6 : W.cell? ⟨gS, 6, none⟩ = some (.int .i64 (tc.T.seen 6 : Int))) (cS_7 : W.cell? ⟨gS, 7, none⟩ = some (.int .i64 (tc.T.seen 7 : Int))) (cS_8 : W.cell? ⟨gS, 8, none⟩ = some (.slice tc.ao tc.n tc.c))
    (tA : Held W m ta.T ta.ao ta.n) (tB : Held W m tb.T tb.ao tb.n) (tC : Held W m tc.T tc.ao tc.n) (hm : m ≤ 40000)
    (hend : ∀ w b6 b7 b2 o2 l2 c2 b5 o5 l5 c5 , Below W.heap.size W w → W.heap.size ≤ b6 → Box w b6 34 #[.int .i64 (b2.seen 0 : Int), .int .i64 (b2.seen 1 : Int), .int .i64 (b2.seen 2 : Int), .int .i64 (b2.seen 3 : Int), .int .i64 (b2.seen 4 : Int), .int .i64 (b2.seen 5 : Int), .int .i64 (b2.seen 6 : Int), .int .i64 (b2.seen 7 : Int), .slice o2 l2 c2] → W.heap.size ≤ b7 → Box w b7 34 #[.int .i64 (b5.seen 0 : Int), .int .i64 (b5.seen 1 : Int), .int .i64 (b5.seen 2 : Int), .int .i64 (b5.seen 3 : Int), .int .i64 (b5.seen 4 : Int), .int .i64 (b5.seen 5 : Int), .int .i64 (b5.seen 6 : Int), .int .i64 (b5.seen 7 : Int), .slice o5 l5 c5] → b6 ≠ b7 → b2 = (merT ta.T tb.T) → Held w (m) b2 o2 l2 → b5 = (merT tb.T tc.T) → Held w (m) b5 o5 l5 → 
      Q .normal (puts a0 [(45, .agg #[.int .i64 (ta.T.seen 0 : Int), .int .i64 (ta.T.seen 1 : Int), .int .i64 (ta.T.seen 2 : Int), .int .i64 (ta.T.seen 3 : Int), .int .i64 (ta.T.seen 4 : Int), .int .i64 (ta.T.seen 5 : Int), .int .i64 (ta.T.seen 6 : Int), .int .i64 (ta.T.seen 7 : Int), .slice ta.ao ta.n ta.c]), (46, .agg #[.int .i64 (tb.T.seen 0 : Int), .int .i64 (tb.T.seen 1 : Int), .int .i64 (tb.T.seen 2 : Int), .int .i64 (tb.T.seen 3 : Int), .int .i64 (tb.T.seen 4 : Int), .int .i64 (tb.T.seen 5 : Int), .int .i64 (tb.T.seen 6 : Int), .int .i64 (tb.T.seen 7 : Int), .slice tb.ao tb.n tb.c]), (47, .agg #[.int .i64 (b2.seen 0 : Int), .int .i64 (b2.seen 1 : Int), .int .i64 (b2.seen 2 : Int), .int .i64 (b2.seen 3 : Int), .int .i64 (b2.seen 4 : Int), .int .i64 (b2.seen 5 : Int), .int .i64 (b2.seen 6 : Int), .int .i64 (b2.seen 7 : Int), .slice o2 l2 c2]), (48, .agg #[.int .i64 (tb.T.seen 0 : Int), .int .i64 (tb.T.seen 1 : Int), .int .i64 (tb.T.seen 2 : Int), .int .i64 (tb.T.seen 3 : Int), .int .i64 (tb.T.seen 4 : Int), .int .i64 (tb.T.seen 5 : Int), .int .i64 (tb.T.seen 6 : Int), .int .i64 (tb.T.seen 7 : Int), .slice tb.ao tb.n tb.c]), (49, .agg #[.int .i64 (tc.T.seen 0 : Int), .int .i64 (tc.T.seen 1 : Int), .int .i64 (tc.T.seen 2 : Int), .int .i64 (tc.T.seen 3 : Int), .int .i64 (tc.T.seen 4 : Int), .int .i64 (tc.T.seen 5 : Int), .int .i64 (tc.T.seen 6 : Int), .int .i64 (tc.T.seen 7 : Int), .slice tc.ao tc.n tc.c]), (50, .agg #[.int .i64 (b5.seen 0 : Int), .int .i64 (b5.seen 1 : Int), .int .i64 (b5.seen 2 : Int), .int .i64 (b5.seen 3 : Int), .int .i64 (b5.seen 4 : Int), .int .i64 (b5.seen 5 : Int), .int .i64 (b5.seen 6 : Int), .int .i64 (b5.seen 7 : Int), .slice o5 l5 c5]), (13, .pointer (some ⟨b6, 0, none⟩)), (14, .pointer (some ⟨b7, 0, none⟩))]) w) :
    (Code.region id #[o0, o1, o2, o3, o4, o5, o6, o7, o8, o9] true).wp Try.prog Q a0 W := by
  refine Shape.region lat_regionS (fun i v w => (fun (v : Value) => (match i with | 0 => v = .agg #[.int .i64 (ta.T.seen 0 : Int), .int .i64 (ta.T.seen 1 : Int), .int .i64 (ta.T.seen 2 : Int), .int .i64 (ta.T.seen 3 : Int), .int .i64 (ta.T.seen 4 : Int), .int .i64 (ta.T.seen 5 : Int), .int .i64 (ta.T.seen 6 : Int), .int .i64 (ta.T.seen 7 : Int), .slice ta.ao ta.n ta.c] | 1 => v = .agg #[.int .i64 (tb.T.seen 0 : Int), .int .i64 (tb.T.seen 1 : Int), .int .i64 (tb.T.seen 2 : Int), .int .i64 (tb.T.seen 3 : Int), .int .i64 (tb.T.seen 4 : Int), .int .i64 (tb.T.seen 5 : Int), .int .i64 (tb.T.seen 6 : Int), .int .i64 (tb.T.seen 7 : Int), .slice tb.ao tb.n tb.c] | 2 => IsT (merT ta.T tb.T) (m) v w | 3 => v = .agg #[.int .i64 (tb.T.seen 0 : Int), .int .i64 (tb.T.seen 1 : Int), .int .i64 (tb.T.seen 2 : Int), .int .i64 (tb.T.seen 3 : Int), .int .i64 (tb.T.seen 4 : Int), .int .i64 (tb.T.seen 5 : Int), .int .i64 (tb.T.seen 6 : Int), .int .i64 (tb.T.seen 7 : Int), .slice tb.ao tb.n tb.c] | 4 => v = .agg #[.int .i64 (tc.T.seen 0 : Int), .int .i64 (tc.T.seen 1 : Int), .int .i64 (tc.T.seen 2 : Int), .int .i64 (tc.T.seen 3 : Int), .int .i64 (tc.T.seen 4 : Int), .int .i64 (tc.T.seen 5 : Int), .int .i64 (tc.T.seen 6 : Int), .int .i64 (tc.T.seen 7 : Int), .slice tc.ao tc.n tc.c] | 5 => IsT (merT tb.T tc.T) (m) v w | _ => True : Prop)) (v i)) (by kernel_rfl) hok
    (fun i v v' w _ hj hΦ => by rw [← hj i (.inl rfl)]; exact hΦ) ?stab ?val ?box ?put rfl ?fin
  case stab =>
    intro i v hi
    match i with
    | 0 => exact Stable.const _ _
    | 1 => exact Stable.const _ _
    | 2 => exact Stable.isT _ _ _ _
    | 3 => exact Stable.const _ _
    | 4 => exact Stable.const _ _
    | 5 => exact Stable.isT _ _ _ _
    | 6 => exact Stable.const _ _
    | 7 => exact Stable.const _ _
    | 8 => exact Stable.const _ _
    | 9 => exact Stable.const _ _
    | i + 10 => exact Stable.const _ _
  case val =>
    intro i o ho hv a w hA hb hz hn K' hK
    have hw := below_undrew hb
    have erP : a.eval (.tmp 10) = .pointer (some ⟨gP, 0, none⟩) := (hA.eval (show 10 ∉ lat_regionS.slots 10 by decide)).trans hrP
    have kP_0 := (hb.cell (p := ⟨gP, 0, none⟩) hgP).trans cP_0
    have kP_1 := (hb.cell (p := ⟨gP, 1, none⟩) hgP).trans cP_1
    have kP_2 := (hb.cell (p := ⟨gP, 2, none⟩) hgP).trans cP_2
    have kP_3 := (hb.cell (p := ⟨gP, 3, none⟩) hgP).trans cP_3
    have kP_4 := (hb.cell (p := ⟨gP, 4, none⟩) hgP).trans cP_4
    have kP_5 := (hb.cell (p := ⟨gP, 5, none⟩) hgP).trans cP_5
    have kP_6 := (hb.cell (p := ⟨gP, 6, none⟩) hgP).trans cP_6
    have kP_7 := (hb.cell (p := ⟨gP, 7, none⟩) hgP).trans cP_7
    have kP_8 := (hb.cell (p := ⟨gP, 8, none⟩) hgP).trans cP_8
    have erR : a.eval (.tmp 11) = .pointer (some ⟨gR, 0, none⟩) := (hA.eval (show 11 ∉ lat_regionS.slots 10 by decide)).trans hrR
    have kR_0 := (hb.cell (p := ⟨gR, 0, none⟩) hgR).trans cR_0
    have kR_1 := (hb.cell (p := ⟨gR, 1, none⟩) hgR).trans cR_1
    have kR_2 := (hb.cell (p := ⟨gR, 2, none⟩) hgR).trans cR_2
    have kR_3 := (hb.cell (p := ⟨gR, 3, none⟩) hgR).trans cR_3
    have kR_4 := (hb.cell (p := ⟨gR, 4, none⟩) hgR).trans cR_4
    have kR_5 := (hb.cell (p := ⟨gR, 5, none⟩) hgR).trans cR_5
    have kR_6 := (hb.cell (p := ⟨gR, 6, none⟩) hgR).trans cR_6
    have kR_7 := (hb.cell (p := ⟨gR, 7, none⟩) hgR).trans cR_7
    have kR_8 := (hb.cell (p := ⟨gR, 8, none⟩) hgR).trans cR_8
    have erS : a.eval (.tmp 12) = .pointer (some ⟨gS, 0, none⟩) := (hA.eval (show 12 ∉ lat_regionS.slots 10 by decide)).trans hrS
    have kS_0 := (hb.cell (p := ⟨gS, 0, none⟩) hgS).trans cS_0
    have kS_1 := (hb.cell (p := ⟨gS, 1, none⟩) hgS).trans cS_1
    have kS_2 := (hb.cell (p := ⟨gS, 2, none⟩) hgS).trans cS_2
    have kS_3 := (hb.cell (p := ⟨gS, 3, none⟩) hgS).trans cS_3
    have kS_4 := (hb.cell (p := ⟨gS, 4, none⟩) hgS).trans cS_4
    have kS_5 := (hb.cell (p := ⟨gS, 5, none⟩) hgS).trans cS_5
    have kS_6 := (hb.cell (p := ⟨gS, 6, none⟩) hgS).trans cS_6
    have kS_7 := (hb.cell (p := ⟨gS, 7, none⟩) hgS).trans cS_7
    have kS_8 := (hb.cell (p := ⟨gS, 8, none⟩) hgS).trans cS_8
    match i, ho, hv with
    | 0, ho, _ =>
      have ho' : o0 = o := by simpa using ho
      subst ho'
      refine wp_value (v := .agg #[.int .i64 (ta.T.seen 0 : Int), .int .i64 (ta.T.seen 1 : Int), .int .i64 (ta.T.seen 2 : Int), .int .i64 (ta.T.seen 3 : Int), .int .i64 (ta.T.seen 4 : Int), .int .i64 (ta.T.seen 5 : Int), .int .i64 (ta.T.seen 6 : Int), .int .i64 (ta.T.seen 7 : Int), .slice ta.ao ta.n ta.c]) (w' := w) ?_ (hK _ _ (Below.refl _ _) (by simp [updV]))
      unfold execOp
      rw [h0]
      dsimp only
      rw [erP]
      simp [go_sem, kP_0, kP_1, kP_2, kP_3, kP_4, kP_5, kP_6, kP_7, kP_8]
    | 1, ho, _ =>
      have ho' : o1 = o := by simpa using ho
      subst ho'
      refine wp_value (v := .agg #[.int .i64 (tb.T.seen 0 : Int), .int .i64 (tb.T.seen 1 : Int), .int .i64 (tb.T.seen 2 : Int), .int .i64 (tb.T.seen 3 : Int), .int .i64 (tb.T.seen 4 : Int), .int .i64 (tb.T.seen 5 : Int), .int .i64 (tb.T.seen 6 : Int), .int .i64 (tb.T.seen 7 : Int), .slice tb.ao tb.n tb.c]) (w' := w) ?_ (hK _ _ (Below.refl _ _) (by simp [updV]))
      unfold execOp
      rw [h1]
      dsimp only
      rw [erR]
      simp [go_sem, kR_0, kR_1, kR_2, kR_3, kR_4, kR_5, kR_6, kR_7, kR_8]
    | 2, ho, _ =>
      have ho' : o2 = o := by simpa using ho
      subst ho'
      have e0 : a.eval (.tmp 45) = .agg #[.int .i64 (ta.T.seen 0 : Int), .int .i64 (ta.T.seen 1 : Int), .int .i64 (ta.T.seen 2 : Int), .int .i64 (ta.T.seen 3 : Int), .int .i64 (ta.T.seen 4 : Int), .int .i64 (ta.T.seen 5 : Int), .int .i64 (ta.T.seen 6 : Int), .int .i64 (ta.T.seen 7 : Int), .slice ta.ao ta.n ta.c] := hn 0 (by simp [lat_regionS]) rfl
      have e1 : a.eval (.tmp 46) = .agg #[.int .i64 (tb.T.seen 0 : Int), .int .i64 (tb.T.seen 1 : Int), .int .i64 (tb.T.seen 2 : Int), .int .i64 (tb.T.seen 3 : Int), .int .i64 (tb.T.seen 4 : Int), .int .i64 (tb.T.seen 5 : Int), .int .i64 (tb.T.seen 6 : Int), .int .i64 (tb.T.seen 7 : Int), .slice tb.ao tb.n tb.c] := hn 1 (by simp [lat_regionS]) rfl
      refine wp_call (run_call Try.func25 (by kernel_rfl) rfl h2 a w) ?_ (fun v w' hb' hφ => hK v w' hb' (by simpa [updV] using hφ))
      have em : Array.map a.eval #[Operand.tmp 45, Operand.tmp 46] = #[a.eval (.tmp 45), a.eval (.tmp 46)] := by first | (simp only [List.map_toArray, List.map_cons, List.map_nil]; done) | (simp only [List.map_toArray, List.map_cons, List.map_nil]; rfl) | rfl
      rw [em, e0, e1]
      exact (mergeA ta.c tb.c (tA.keep hw) (tB.keep hw) hm).mono fun e w h => outT h
    | 3, ho, _ =>
      have ho' : o3 = o := by simpa using ho
      subst ho'
      refine wp_value (v := .agg #[.int .i64 (tb.T.seen 0 : Int), .int .i64 (tb.T.seen 1 : Int), .int .i64 (tb.T.seen 2 : Int), .int .i64 (tb.T.seen 3 : Int), .int .i64 (tb.T.seen 4 : Int), .int .i64 (tb.T.seen 5 : Int), .int .i64 (tb.T.seen 6 : Int), .int .i64 (tb.T.seen 7 : Int), .slice tb.ao tb.n tb.c]) (w' := w) ?_ (hK _ _ (Below.refl _ _) (by simp [updV]))
      unfold execOp
      rw [h3]
      dsimp only
      rw [erR]
      simp [go_sem, kR_0, kR_1, kR_2, kR_3, kR_4, kR_5, kR_6, kR_7, kR_8]
    | 4, ho, _ =>
      have ho' : o4 = o := by simpa using ho
      subst ho'
      refine wp_value (v := .agg #[.int .i64 (tc.T.seen 0 : Int), .int .i64 (tc.T.seen 1 : Int), .int .i64 (tc.T.seen 2 : Int), .int .i64 (tc.T.seen 3 : Int), .int .i64 (tc.T.seen 4 : Int), .int .i64 (tc.T.seen 5 : Int), .int .i64 (tc.T.seen 6 : Int), .int .i64 (tc.T.seen 7 : Int), .slice tc.ao tc.n tc.c]) (w' := w) ?_ (hK _ _ (Below.refl _ _) (by simp [updV]))
      unfold execOp
      rw [h4]
      dsimp only
      rw [erS]
      simp [go_sem, kS_0, kS_1, kS_2, kS_3, kS_4, kS_5, kS_6, kS_7, kS_8]
    | 5, ho, _ =>
      have ho' : o5 = o := by simpa using ho
      subst ho'
      have e3 : a.eval (.tmp 48) = .agg #[.int .i64 (tb.T.seen 0 : Int), .int .i64 (tb.T.seen 1 : Int), .int .i64 (tb.T.seen 2 : Int), .int .i64 (tb.T.seen 3 : Int), .int .i64 (tb.T.seen 4 : Int), .int .i64 (tb.T.seen 5 : Int), .int .i64 (tb.T.seen 6 : Int), .int .i64 (tb.T.seen 7 : Int), .slice tb.ao tb.n tb.c] := hn 3 (by simp [lat_regionS]) rfl
      have e4 : a.eval (.tmp 49) = .agg #[.int .i64 (tc.T.seen 0 : Int), .int .i64 (tc.T.seen 1 : Int), .int .i64 (tc.T.seen 2 : Int), .int .i64 (tc.T.seen 3 : Int), .int .i64 (tc.T.seen 4 : Int), .int .i64 (tc.T.seen 5 : Int), .int .i64 (tc.T.seen 6 : Int), .int .i64 (tc.T.seen 7 : Int), .slice tc.ao tc.n tc.c] := hn 4 (by simp [lat_regionS]) rfl
      refine wp_call (run_call Try.func25 (by kernel_rfl) rfl h5 a w) ?_ (fun v w' hb' hφ => hK v w' hb' (by simpa [updV] using hφ))
      have em : Array.map a.eval #[Operand.tmp 48, Operand.tmp 49] = #[a.eval (.tmp 48), a.eval (.tmp 49)] := by first | (simp only [List.map_toArray, List.map_cons, List.map_nil]; done) | (simp only [List.map_toArray, List.map_cons, List.map_nil]; rfl) | rfl
      rw [em, e3, e4]
      exact (mergeA tb.c tc.c (tB.keep hw) (tC.keep hw) hm).mono fun e w h => outT h
    | 6, _, hv => cases hv
    | 7, _, hv => cases hv
    | 8, _, hv => cases hv
    | 9, _, hv => cases hv
    | i + 10, ho, _ => simp at ho
  case box =>
    intro i o T z ho hk a w
    match i, ho, hk with
    | 0, _, hk => cases hk
    | 1, _, hk => cases hk
    | 2, _, hk => cases hk
    | 3, _, hk => cases hk
    | 4, _, hk => cases hk
    | 5, _, hk => cases hk
    | 6, ho, hk =>
      have ho' : o6 = o := by simpa using ho
      subst ho'; cases hk; unfold execOp; rw [h6]; simp [go_sem]
    | 7, ho, hk =>
      have ho' : o7 = o := by simpa using ho
      subst ho'; cases hk; unfold execOp; rw [h7]; simp [go_sem]
    | 8, _, hk => cases hk
    | 9, _, hk => cases hk
    | i + 10, ho, _ => simp at ho
  case put =>
    intro i o p' s' T z ho hk hp a w b hva hφ hbx
    match i, ho, hk with
    | 0, _, hk => cases hk
    | 1, _, hk => cases hk
    | 2, _, hk => cases hk
    | 3, _, hk => cases hk
    | 4, _, hk => cases hk
    | 5, _, hk => cases hk
    | 6, _, hk => cases hk
    | 7, _, hk => cases hk
    | 8, ho, hk =>
      have ho' : o8 = o := by simpa using ho
      subst ho'; cases hk; cases hp
      obtain ⟨b2, o2, l2, c2, e2, x2, y2⟩ := hφ
      have q1 : a.eval (.tmp 47) = .agg #[.int .i64 (b2.seen 0 : Int), .int .i64 (b2.seen 1 : Int), .int .i64 (b2.seen 2 : Int), .int .i64 (b2.seen 3 : Int), .int .i64 (b2.seen 4 : Int), .int .i64 (b2.seen 5 : Int), .int .i64 (b2.seen 6 : Int), .int .i64 (b2.seen 7 : Int), .slice o2 l2 c2] := e2
      have q2 : a.eval (.tmp 13) = .pointer (some ⟨b, 0, none⟩) := hva
      have u0 := hbx.cell 0
      have f0 := hbx.frozen 0
      have u1 := hbx.cell 1
      have f1 := hbx.frozen 1
      have u2 := hbx.cell 2
      have f2 := hbx.frozen 2
      have u3 := hbx.cell 3
      have f3 := hbx.frozen 3
      have u4 := hbx.cell 4
      have f4 := hbx.frozen 4
      have u5 := hbx.cell 5
      have f5 := hbx.frozen 5
      have u6 := hbx.cell 6
      have f6 := hbx.frozen 6
      have u7 := hbx.cell 7
      have f7 := hbx.frozen 7
      have u8 := hbx.cell 8
      have f8 := hbx.frozen 8
      refine ⟨[.int .i64 (b2.seen 0 : Int), .int .i64 (b2.seen 1 : Int), .int .i64 (b2.seen 2 : Int), .int .i64 (b2.seen 3 : Int), .int .i64 (b2.seen 4 : Int), .int .i64 (b2.seen 5 : Int), .int .i64 (b2.seen 6 : Int), .int .i64 (b2.seen 7 : Int), .slice o2 l2 c2], e2, rfl, by simp [isInt], ?_⟩
      unfold execOp; rw [h8]
      dsimp only
      rw [q1, q2]
      simp [go_sem, u0, f0, u1, f1, u2, f2, u3, f3, u4, f4, u5, f5, u6, f6, u7, f7, u8, f8, setFrom]
    | 9, ho, hk =>
      have ho' : o9 = o := by simpa using ho
      subst ho'; cases hk; cases hp
      obtain ⟨b5, o5, l5, c5, e5, x5, y5⟩ := hφ
      have q1 : a.eval (.tmp 50) = .agg #[.int .i64 (b5.seen 0 : Int), .int .i64 (b5.seen 1 : Int), .int .i64 (b5.seen 2 : Int), .int .i64 (b5.seen 3 : Int), .int .i64 (b5.seen 4 : Int), .int .i64 (b5.seen 5 : Int), .int .i64 (b5.seen 6 : Int), .int .i64 (b5.seen 7 : Int), .slice o5 l5 c5] := e5
      have q2 : a.eval (.tmp 14) = .pointer (some ⟨b, 0, none⟩) := hva
      have u0 := hbx.cell 0
      have f0 := hbx.frozen 0
      have u1 := hbx.cell 1
      have f1 := hbx.frozen 1
      have u2 := hbx.cell 2
      have f2 := hbx.frozen 2
      have u3 := hbx.cell 3
      have f3 := hbx.frozen 3
      have u4 := hbx.cell 4
      have f4 := hbx.frozen 4
      have u5 := hbx.cell 5
      have f5 := hbx.frozen 5
      have u6 := hbx.cell 6
      have f6 := hbx.frozen 6
      have u7 := hbx.cell 7
      have f7 := hbx.frozen 7
      have u8 := hbx.cell 8
      have f8 := hbx.frozen 8
      refine ⟨[.int .i64 (b5.seen 0 : Int), .int .i64 (b5.seen 1 : Int), .int .i64 (b5.seen 2 : Int), .int .i64 (b5.seen 3 : Int), .int .i64 (b5.seen 4 : Int), .int .i64 (b5.seen 5 : Int), .int .i64 (b5.seen 6 : Int), .int .i64 (b5.seen 7 : Int), .slice o5 l5 c5], e5, rfl, by simp [isInt], ?_⟩
      unfold execOp; rw [h9]
      dsimp only
      rw [q1, q2]
      simp [go_sem, u0, f0, u1, f1, u2, f2, u3, f3, u4, f4, u5, f5, u6, f6, u7, f7, u8, f8, setFrom]
    | i + 10, ho, _ => simp at ho
  case fin =>
    intro a w blk hI
    have n8 : (#[o0, o1, o2, o3, o4, o5, o6, o7, o8, o9] : Array Oper).size = 10 := rfl
    rw [n8] at hI
    have hf := hI.agree.form
    have e0 : a.eval (.tmp 45) = .agg #[.int .i64 (ta.T.seen 0 : Int), .int .i64 (ta.T.seen 1 : Int), .int .i64 (ta.T.seen 2 : Int), .int .i64 (ta.T.seen 3 : Int), .int .i64 (ta.T.seen 4 : Int), .int .i64 (ta.T.seen 5 : Int), .int .i64 (ta.T.seen 6 : Int), .int .i64 (ta.T.seen 7 : Int), .slice ta.ao ta.n ta.c] := hI.vals 0 (by decide) (by decide) rfl
    have e1 : a.eval (.tmp 46) = .agg #[.int .i64 (tb.T.seen 0 : Int), .int .i64 (tb.T.seen 1 : Int), .int .i64 (tb.T.seen 2 : Int), .int .i64 (tb.T.seen 3 : Int), .int .i64 (tb.T.seen 4 : Int), .int .i64 (tb.T.seen 5 : Int), .int .i64 (tb.T.seen 6 : Int), .int .i64 (tb.T.seen 7 : Int), .slice tb.ao tb.n tb.c] := hI.vals 1 (by decide) (by decide) rfl
    obtain ⟨b2, o2, l2, c2, e2, x2, y2⟩ : IsT (merT ta.T tb.T) (m) (a.eval (.tmp 47)) w := hI.vals 2 (by decide) (by decide) rfl
    have e3 : a.eval (.tmp 48) = .agg #[.int .i64 (tb.T.seen 0 : Int), .int .i64 (tb.T.seen 1 : Int), .int .i64 (tb.T.seen 2 : Int), .int .i64 (tb.T.seen 3 : Int), .int .i64 (tb.T.seen 4 : Int), .int .i64 (tb.T.seen 5 : Int), .int .i64 (tb.T.seen 6 : Int), .int .i64 (tb.T.seen 7 : Int), .slice tb.ao tb.n tb.c] := hI.vals 3 (by decide) (by decide) rfl
    have e4 : a.eval (.tmp 49) = .agg #[.int .i64 (tc.T.seen 0 : Int), .int .i64 (tc.T.seen 1 : Int), .int .i64 (tc.T.seen 2 : Int), .int .i64 (tc.T.seen 3 : Int), .int .i64 (tc.T.seen 4 : Int), .int .i64 (tc.T.seen 5 : Int), .int .i64 (tc.T.seen 6 : Int), .int .i64 (tc.T.seen 7 : Int), .slice tc.ao tc.n tc.c] := hI.vals 4 (by decide) (by decide) rfl
    obtain ⟨b5, o5, l5, c5, e5, x5, y5⟩ : IsT (merT tb.T tc.T) (m) (a.eval (.tmp 50)) w := hI.vals 5 (by decide) (by decide) rfl
    obtain ⟨p6, r6, _, k6⟩ := hI.boxes 6 34 #[.int .i64 0, .int .i64 0, .int .i64 0, .int .i64 0, .int .i64 0, .int .i64 0, .int .i64 0, .int .i64 0, .slice none 0 0] (by decide) (by decide) rfl
    obtain ⟨us6, i6, _, _, j6⟩ := k6 (show (8 : Nat) < 10 by decide)
    have y_6 : a.eval (.tmp 47) = .agg us6.toArray := i6
    rw [e2] at y_6
    cases y_6
    have e6 : a.eval (.tmp 13) = .pointer (some ⟨blk 6, 0, none⟩) := p6
    obtain ⟨p7, r7, _, k7⟩ := hI.boxes 7 34 #[.int .i64 0, .int .i64 0, .int .i64 0, .int .i64 0, .int .i64 0, .int .i64 0, .int .i64 0, .int .i64 0, .slice none 0 0] (by decide) (by decide) rfl
    obtain ⟨us7, i7, _, _, j7⟩ := k7 (show (9 : Nat) < 10 by decide)
    have y_7 : a.eval (.tmp 50) = .agg us7.toArray := i7
    rw [e5] at y_7
    cases y_7
    have e7 : a.eval (.tmp 14) = .pointer (some ⟨blk 7, 0, none⟩) := p7
    have hsl : lat_regionS.slots 10 = [45, 46, 47, 48, 49, 50, 13, 14] := rfl
    rw [hsl] at hf
    simp only [List.map_cons, List.map_nil, e0, e1, e2, e3, e4, e5, e6, e7] at hf
    rw [hf]
    exact hend w (blk 6) (blk 7) b2 o2 l2 c2 b5 o5 l5 c5  (below_undrew hI.below) r6 j6 r7 j7 (hI.apart 6 7 _ _ _ _ (by decide) (by decide) (by decide) (by decide) rfl rfl (by decide)) x2 y2 x5 y5
end Go.Proofs.Ytpghehckojdgeaa
