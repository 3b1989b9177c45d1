/- Part 11 of the contracts: TwoTwo, Nested, Fine, Ring, Whole2, Floor, Preds, PlanC. -/
import Derived.Test.YtcgnmihabkgecaaGreatPart10

/- Two more regions whose blocks may be made in any order: 'x, y, ok := two(of(a, n), of(b, n))' and 'i, e := x.f(y.g())'. -/
set_option linter.unusedVariables false
namespace Go.Proofs.YtcgnmihabkgecaaGreat
open Go.RowKit Go.Proofs

/-- v is an integer of the program, not long -/
def IsS (z : Int) (v : Value) (w : World) : Prop := ∃ n o l c, v = .agg #[.bool n, .slice o l c] ∧ l ≤ 512 ∧ Z32 w n o l z
def IsTwo (x y : Int) (v : Value) (w : World) : Prop := ∃ na ao la ca nb bo lb cb, v = .tuple #[.agg #[.bool na, .slice ao la ca], .agg #[.bool nb, .slice bo lb cb], .bool true] ∧ la ≤ 512 ∧ lb ≤ 512 ∧ Z32 w na ao la x ∧ Z32 w nb bo lb y
/-- v is an integer and no error -/
def IsE (z : Int) (v : Value) (w : World) : Prop := ∃ n o l c, v = .tuple #[.agg #[.bool n, .slice o l c], .int .i64 0] ∧ l ≤ 512 ∧ Z32 w n o l z

theorem Stable.isS (base : Nat) (z : Int) (v : Value) : Stable base (IsS z v) :=
  Stable.ex fun n => Stable.ex fun o => Stable.ex fun l => Stable.ex fun c => (Stable.const base _).and ((Stable.const base _).and (Stable.z32 base n o l z))
theorem Stable.isE (base : Nat) (z : Int) (v : Value) : Stable base (IsE z v) :=
  Stable.ex fun n => Stable.ex fun o => Stable.ex fun l => Stable.ex fun c => (Stable.const base _).and ((Stable.const base _).and (Stable.z32 base n o l z))
theorem Stable.isTwo (base : Nat) (x y : Int) (v : Value) : Stable base (IsTwo x y v) :=
  Stable.ex fun na => Stable.ex fun ao => Stable.ex fun la => Stable.ex fun ca => Stable.ex fun nb => Stable.ex fun bo => Stable.ex fun lb => Stable.ex fun cb =>
    (Stable.const base _).and ((Stable.const base _).and ((Stable.const base _).and ((Stable.z32 base na ao la x).and (Stable.z32 base nb bo lb y))))

theorem OutF.noErr {W w' : World} {z : Int} {e : Ending} (h : OutF W z e w') (hf : Fits z) : ∃ v, e = .returned v ∧ IsE z v w' ∧ Below W.heap.size W w' := by
  rcases h with ⟨_, n, o, l, c, rfl, hz, hb⟩ | ⟨hn, _⟩
  · exact ⟨_, rfl, ⟨n, o, l, c, rfl, fits_len hz hf, hz⟩, hb⟩
  · exact absurd hf hn

theorem Two.is {x y : Int} {W w' : World} {e : Ending} (h : Two x y W e w') : ∃ v, e = .returned v ∧ IsTwo x y v w' ∧ Below W.heap.size W w' := by
  obtain ⟨na, ao, la, ca, nb, bo, lb, cb, rfl, h1, h2, h3, h4, h5⟩ := h
  exact ⟨_, rfl, ⟨na, ao, la, ca, nb, bo, lb, cb, rfl, h1, h2, h3, h4⟩, h5⟩

theorem OutI.is {W w' : World} {z : Int} {e : Ending} (h : OutI W z e w') : ∃ v, e = .returned v ∧ IsI z v w' ∧ Below W.heap.size W w' := by
  obtain ⟨n, o, l, c, rfl, h3, h4⟩ := h
  exact ⟨_, rfl, ⟨n, o, l, c, rfl, h3⟩, h4⟩

theorem run_move {P : Program} {o : Oper} {t : Nat} (h : o.op = .move (.tmp t)) (a : Act) (w : World) : (execOp a.eval o).run P w = .ok (.value (a.eval (.tmp t))) w := by
  unfold execOp
  rw [h]
  rfl
theorem run_assign {P : Program} {o : Oper} {t : Nat} (h : o.op = .assign (.tmp t)) (a : Act) (w : World) : (execOp a.eval o).run P w = .ok (.value (a.eval (.tmp t))) w := by
  unfold execOp
  rw [h]
  rfl
theorem run_extract {P : Program} {o : Oper} {t i : Nat} {vs : Array Value} {v : Value} (h : o.op = .extract (.tmp t) i) {a : Act} (he : a.eval (.tmp t) = .tuple vs) (hv : vs[i]? = some v) (w : World) : (execOp a.eval o).run P w = .ok (.value v) w := by
  unfold execOp
  rw [h]
  dsimp only
  rw [he]
  simp [go_sem, Instr.extract, hv]

def ttS (t0 t1 t2 t3 t4 t5 t6 t7 t8 p q k : Nat) (T : Nat) (z : Array Value) : Shape where
  f := fun i => match i with | 0 => t0 | 1 => t1 | 2 => t2 | 3 => t3 | 4 => t4 | 5 => t5 | 6 => t6 | 7 => t7 | 8 => t8 | 9 => p | 10 => q | 13 => k | _ => 0
  kd := fun i => match i with | 9 => .box T z | 10 => .box T z | 11 => .put 9 6 | 12 => .put 10 7 | _ => .val
  need := fun i => match i with | 1 => [0] | 3 => [2] | 4 => [1, 3] | 5 => [4] | 6 => [5] | 7 => [5] | 8 => [5] | 11 => [9, 6] | 12 => [10, 7] | 13 => [8] | _ => []
  st := fun i => match i with | 9 => 11 | _ => 12
  src := fun i => match i with | 9 => 6 | _ => 7

def ttΦ (r1 r2 : Value) (z1 z2 : Int) (i : Nat) (v : Value) (w : World) : Prop :=
  match i with | 0 => v = r1 | 1 => IsJ z1 v w | 2 => v = r2 | 3 => IsJ z2 v w | 4 => IsTwo z1 z2 v w | 5 => IsTwo z1 z2 v w | 6 => IsS z1 v w | 7 => IsS z2 v w | _ => v = .bool true

set_option maxHeartbeats 2000000 in
theorem two_two {Q : Exit → Act → World → Prop} {id : Nat} {a0 : Act} {W : World} {o0 o1 o2 o3 o4 o5 o6 o7 o8 o9 o10 o11 o12 o13 : Oper} (t0 t1 t2 t3 t4 t5 t6 t7 t8 p q k r s : Nat) (f f2 : FuncId) (K : Value) (u1 u2 v1 v2 : Value) (g h : Nat) (z1 z2 : Int) (ts ts2 : Array TypeId) {fn fn2 : Func} {cb cb2 : Code}
    (hfn : Tryz.prog.funcs[f]? = some fn) (hname : (fn.name == "runtime.NumGoroutine") = false) (hbody : fn.body = some cb)
    (hfn2 : Tryz.prog.funcs[f2]? = some fn2) (hname2 : (fn2.name == "runtime.NumGoroutine") = false) (hbody2 : fn2.body = some cb2)
    (hok : (ttS t0 t1 t2 t3 t4 t5 t6 t7 t8 p q k 25 #[.bool false, .slice none 0 0]).ok #[o0, o1, o2, o3, o4, o5, o6, o7, o8, o9, o10, o11, o12, o13] a0.tmps.size = true)
    (h0 : o0.op = .load 43 (.tmp r)) (h1 : o1.op = .call { callee := .value (.func f), args := #[.tmp t0, .const K], argTypes := ts })
    (h2 : o2.op = .load 43 (.tmp s)) (h3 : o3.op = .call { callee := .value (.func f), args := #[.tmp t2, .const K], argTypes := ts })
    (h4 : o4.op = .call { callee := .value (.func f2), args := #[.tmp t1, .tmp t3], argTypes := ts2 }) (h5 : o5.op = .move (.tmp t4))
    (h6 : o6.op = .extract (.tmp t5) 0) (h7 : o7.op = .extract (.tmp t5) 1) (h8 : o8.op = .extract (.tmp t5) 2)
    (h9 : o9.op = .alloc 25) (h10 : o10.op = .alloc 25) (h11 : o11.op = .store 25 (.tmp p) (.tmp t6)) (h12 : o12.op = .store 25 (.tmp q) (.tmp t7)) (h13 : o13.op = .assign (.tmp t8))
    (hr : a0.eval (.tmp r) = .pointer (some ⟨g, 0, none⟩)) (hs : a0.eval (.tmp s) = .pointer (some ⟨h, 0, none⟩))
    (hrs : r ∉ [t0, t1, t2, t3, t4, t5, t6, t7, t8, p, q, k]) (hss : s ∉ [t0, t1, t2, t3, t4, t5, t6, t7, t8, p, q, k]) (hg : g < W.heap.size) (hh : h < W.heap.size)
    (c1 : W.cell? ⟨g, 0, none⟩ = some u1) (c2 : W.cell? ⟨g, 1, none⟩ = some u2) (c3 : W.cell? ⟨h, 0, none⟩ = some v1) (c4 : W.cell? ⟨h, 1, none⟩ = some v2)
    (hc1 : ∀ w, Below W.heap.size W w → W.heap.size ≤ w.heap.size → Calls Tryz.prog f #[.agg #[u1, u2], K] w (OutJ w z1))
    (hc2 : ∀ w, Below W.heap.size W w → W.heap.size ≤ w.heap.size → Calls Tryz.prog f #[.agg #[v1, v2], K] w (OutJ w z2))
    (hc3 : ∀ w n1 x1 l1 k1 n2 x2 l2 k2, Z16 w n1 x1 l1 z1 → Z16 w n2 x2 l2 z2 → Calls Tryz.prog f2 #[.agg #[.bool n1, .slice x1 l1 k1], .agg #[.bool n2, .slice x2 l2 k2]] w (Two z1 z2 w))
    (hend : ∀ w b1 b2 n1 x1 l1 k1 n2 x2 l2 k2 d1 d3 d4 d5, Below W.heap.size W w → W.heap.size ≤ b1 → W.heap.size ≤ b2 → b1 ≠ b2 → Box w b1 25 #[.bool n1, .slice x1 l1 k1] → Box w b2 25 #[.bool n2, .slice x2 l2 k2] →
      l1 ≤ 512 → l2 ≤ 512 → Z32 w n1 x1 l1 z1 → Z32 w n2 x2 l2 z2 →
      Q .normal (puts a0 [(t0, .agg #[u1, u2]), (t1, d1), (t2, .agg #[v1, v2]), (t3, d3), (t4, d4), (t5, d5), (t6, .agg #[.bool n1, .slice x1 l1 k1]), (t7, .agg #[.bool n2, .slice x2 l2 k2]), (t8, .bool true),
        (p, .pointer (some ⟨b1, 0, none⟩)), (q, .pointer (some ⟨b2, 0, none⟩)), (k, .bool true)]) w) :
    (Code.region id #[o0, o1, o2, o3, o4, o5, o6, o7, o8, o9, o10, o11, o12, o13] true).wp Tryz.prog Q a0 W := by
  refine Shape.region (ttS t0 t1 t2 t3 t4 t5 t6 t7 t8 p q k 25 #[.bool false, .slice none 0 0]) (fun i v w => ttΦ (.agg #[u1, u2]) (.agg #[v1, v2]) z1 z2 i (v i) w) (by kernel_rfl) hok
    (fun i v v' w _ hj hΦ => by rw [← hj i (.inl rfl)]; exact hΦ) ?stab ?val ?box ?put rfl ?fin
  case stab =>
    intro i v hi
    match i with
    | 0 => exact Stable.const _ _
    | 1 => exact Stable.isJ _ _ _
    | 2 => exact Stable.const _ _
    | 3 => exact Stable.isJ _ _ _
    | 4 => exact Stable.isTwo _ _ _ _
    | 5 => exact Stable.isTwo _ _ _ _
    | 6 => exact Stable.isS _ _ _
    | 7 => exact Stable.isS _ _ _
    | i + 8 => exact Stable.const _ _
  case val =>
    intro i o ho hv a w hA hb hz hn K' hK
    match i, ho, hv with
    | 0, ho, _ =>
      have ho' : o0 = o := by simpa using ho
      subst ho'
      have e : a.eval (.tmp r) = .pointer (some ⟨g, 0, none⟩) := (hA.eval hrs).trans hr
      refine wp_value (v := .agg #[u1, u2]) (w' := w) ?_ (hK _ _ (Below.refl _ _) (by simp [upd, ttΦ]))
      have d1 := (hb.cell (p := ⟨g, 0, none⟩) hg).trans c1
      have d2 := (hb.cell (p := ⟨g, 1, none⟩) hg).trans c2
      unfold execOp
      rw [h0]
      dsimp only
      rw [e]
      simp [go_sem, d1, d2]
    | 1, ho, _ =>
      have ho' : o1 = o := by simpa using ho
      subst ho'
      have e := hn 0 (by simp [ttS]) rfl
      refine wp_call (run_call hfn hname hbody h1 a w) ((?_ : Calls _ _ _ _ _).mono fun e w' h => OutJ.is h) (fun v w' hb' hφ => hK v w' hb' (by simpa [upd, ttΦ] using hφ))
      have e2 : a.eval (.tmp t0) = .agg #[u1, u2] := e
      have em : Array.map a.eval #[Operand.tmp t0, Operand.const K] = #[a.eval (.tmp t0), K] := by simp only [List.map_toArray, List.map_cons, List.map_nil]; rfl
      rw [em, e2]
      exact hc1 w (below_undrew hb) hz
    | 2, ho, _ =>
      have ho' : o2 = o := by simpa using ho
      subst ho'
      have e : a.eval (.tmp s) = .pointer (some ⟨h, 0, none⟩) := (hA.eval hss).trans hs
      refine wp_value (v := .agg #[v1, v2]) (w' := w) ?_ (hK _ _ (Below.refl _ _) (by simp [upd, ttΦ]))
      have d1 := (hb.cell (p := ⟨h, 0, none⟩) hh).trans c3
      have d2 := (hb.cell (p := ⟨h, 1, none⟩) hh).trans c4
      unfold execOp
      rw [h2]
      dsimp only
      rw [e]
      simp [go_sem, d1, d2]
    | 3, ho, _ =>
      have ho' : o3 = o := by simpa using ho
      subst ho'
      have e := hn 2 (by simp [ttS]) rfl
      refine wp_call (run_call hfn hname hbody h3 a w) ((?_ : Calls _ _ _ _ _).mono fun e w' h => OutJ.is h) (fun v w' hb' hφ => hK v w' hb' (by simpa [upd, ttΦ] using hφ))
      have e2 : a.eval (.tmp t2) = .agg #[v1, v2] := e
      have em : Array.map a.eval #[Operand.tmp t2, Operand.const K] = #[a.eval (.tmp t2), K] := by simp only [List.map_toArray, List.map_cons, List.map_nil]; rfl
      rw [em, e2]
      exact hc2 w (below_undrew hb) hz
    | 4, ho, _ =>
      have ho' : o4 = o := by simpa using ho
      subst ho'
      obtain ⟨n1, x1, l1, k1, e1, _, _, y1⟩ : IsJ z1 (a.eval (.tmp t1)) w := hn 1 (by simp [ttS]) rfl
      obtain ⟨n2, x2, l2, k2, e2, _, _, y2⟩ : IsJ z2 (a.eval (.tmp t3)) w := hn 3 (by simp [ttS]) rfl
      refine wp_call (run_call hfn2 hname2 hbody2 h4 a w) ((?_ : Calls _ _ _ _ _).mono fun e w' h => Two.is h) (fun v w' hb' hφ => hK v w' hb' (by simpa [upd, ttΦ] using hφ))
      have em : Array.map a.eval #[Operand.tmp t1, Operand.tmp t3] = #[a.eval (.tmp t1), a.eval (.tmp t3)] := by simp only [List.map_toArray, List.map_cons, List.map_nil]
      rw [em, e1, e2]
      exact hc3 w n1 x1 l1 k1 n2 x2 l2 k2 y1 y2
    | 5, ho, _ =>
      have ho' : o5 = o := by simpa using ho
      subst ho'
      have e : IsTwo z1 z2 (a.eval (.tmp t4)) w := hn 4 (by simp [ttS]) rfl
      exact wp_value (run_move h5 a w) (hK _ _ (Below.refl _ _) (by simpa [upd, ttΦ] using e))
    | 6, ho, _ =>
      have ho' : o6 = o := by simpa using ho
      subst ho'
      obtain ⟨na, ao, la, ca, nb, bo, lb, cb, e, m1, m2, y1, y2⟩ : IsTwo z1 z2 (a.eval (.tmp t5)) w := hn 5 (by simp [ttS]) rfl
      exact wp_value (run_extract h6 e rfl w) (hK _ _ (Below.refl _ _) (by simp only [upd, ttΦ, if_true]; exact ⟨na, ao, la, ca, rfl, m1, y1⟩))
    | 7, ho, _ =>
      have ho' : o7 = o := by simpa using ho
      subst ho'
      obtain ⟨na, ao, la, ca, nb, bo, lb, cb, e, m1, m2, y1, y2⟩ : IsTwo z1 z2 (a.eval (.tmp t5)) w := hn 5 (by simp [ttS]) rfl
      exact wp_value (run_extract h7 e rfl w) (hK _ _ (Below.refl _ _) (by simp only [upd, ttΦ, if_true]; exact ⟨nb, bo, lb, cb, rfl, m2, y2⟩))
    | 8, ho, _ =>
      have ho' : o8 = o := by simpa using ho
      subst ho'
      obtain ⟨na, ao, la, ca, nb, bo, lb, cb, e, m1, m2, y1, y2⟩ : IsTwo z1 z2 (a.eval (.tmp t5)) w := hn 5 (by simp [ttS]) rfl
      exact wp_value (run_extract h8 e rfl w) (hK _ _ (Below.refl _ _) (by simp [upd, ttΦ]))
    | 13, ho, _ =>
      have ho' : o13 = o := by simpa using ho
      subst ho'
      have e : a.eval (.tmp t8) = .bool true := hn 8 (by simp [ttS]) rfl
      exact wp_value (run_assign h13 a w) (hK _ _ (Below.refl _ _) (by simpa [upd, ttΦ] using e))
    | 9, _, hv => cases hv
    | 10, _, hv => cases hv
    | 11, _, hv => cases hv
    | 12, _, hv => cases hv
    | i + 14, ho, _ => simp at ho
  case box =>
    intro i o T z ho hk a w
    match i, ho, hk with
    | 9, ho, hk => have ho' : o9 = o := by simpa using ho
                   subst ho'; cases hk; unfold execOp; rw [h9]; simp [go_sem]
    | 10, ho, hk => have ho' : o10 = o := by simpa using ho
                    subst ho'; cases hk; unfold execOp; rw [h10]; simp [go_sem]
    | 0, _, hk => cases hk
    | 1, _, hk => cases hk
    | 2, _, hk => cases hk
    | 3, _, hk => cases hk
    | 4, _, hk => cases hk
    | 5, _, hk => cases hk
    | 6, _, hk => cases hk
    | 7, _, hk => cases hk
    | 8, _, hk => cases hk
    | 11, _, hk => cases hk
    | 12, _, hk => cases hk
    | 13, _, hk => cases hk
    | i + 14, ho, _ => simp at ho
  case put =>
    intro i o p' s' T z ho hk hp a w b hva hφ hbx
    match i, ho, hk with
    | 0, _, hk => cases hk
    | 1, _, hk => cases hk
    | 2, _, hk => cases hk
    | 3, _, hk => cases hk
    | 4, _, hk => cases hk
    | 5, _, hk => cases hk
    | 6, _, hk => cases hk
    | 7, _, hk => cases hk
    | 8, _, hk => cases hk
    | 9, _, hk => cases hk
    | 10, _, hk => cases hk
    | 13, _, hk => cases hk
    | i + 14, ho, _ => simp at ho
    | 11, ho, hk =>
      have ho' : o11 = o := by simpa using ho
      subst ho'; cases hk; cases hp
      obtain ⟨n, x, l, c, e, _⟩ := hφ
      have e1 : a.eval (.tmp t6) = .agg #[.bool n, .slice x l c] := e
      have e2 : a.eval (.tmp p) = .pointer (some ⟨b, 0, none⟩) := hva
      have d1 := hbx.cell 0
      have d2 := hbx.cell 1
      have f1 := hbx.frozen 0
      have f2 := hbx.frozen 1
      refine ⟨[.bool n, .slice x l c], e, rfl, by simp [isInt], ?_⟩
      unfold execOp; rw [h11]
      dsimp only
      rw [e1, e2]
      simp [go_sem, d1, d2, f1, f2, setFrom]
    | 12, ho, hk =>
      have ho' : o12 = o := by simpa using ho
      subst ho'; cases hk; cases hp
      obtain ⟨n, x, l, c, e, _⟩ := hφ
      have e1 : a.eval (.tmp t7) = .agg #[.bool n, .slice x l c] := e
      have e2 : a.eval (.tmp q) = .pointer (some ⟨b, 0, none⟩) := hva
      have d1 := hbx.cell 0
      have d2 := hbx.cell 1
      have f1 := hbx.frozen 0
      have f2 := hbx.frozen 1
      refine ⟨[.bool n, .slice x l c], e, rfl, by simp [isInt], ?_⟩
      unfold execOp; rw [h12]
      dsimp only
      rw [e1, e2]
      simp [go_sem, d1, d2, f1, f2, setFrom]
  case fin =>
    intro a w blk hI
    have n8 : (#[o0, o1, o2, o3, o4, o5, o6, o7, o8, o9, o10, o11, o12, o13] : Array Oper).size = 14 := rfl
    rw [n8] at hI
    have hf := hI.agree.form
    have e0 : a.eval (.tmp t0) = .agg #[u1, u2] := hI.vals 0 (by decide) (by decide) rfl
    have e2 : a.eval (.tmp t2) = .agg #[v1, v2] := hI.vals 2 (by decide) (by decide) rfl
    obtain ⟨n1, x1, l1, k1, e6, a1, a3⟩ : IsS z1 (a.eval (.tmp t6)) w := hI.vals 6 (by decide) (by decide) rfl
    obtain ⟨n2, x2, l2, k2, e7, b1, b3⟩ : IsS z2 (a.eval (.tmp t7)) w := hI.vals 7 (by decide) (by decide) rfl
    have e8 : a.eval (.tmp t8) = .bool true := hI.vals 8 (by decide) (by decide) rfl
    have e13 : a.eval (.tmp k) = .bool true := hI.vals 13 (by decide) (by decide) rfl
    obtain ⟨p1, p2, _, p3⟩ := hI.boxes 9 25 #[.bool false, .slice none 0 0] (by decide) (by decide) rfl
    obtain ⟨us, y1, y2, y3, y4⟩ := p3 (show (11 : Nat) < 14 by decide)
    obtain ⟨q1, q2, _, q3⟩ := hI.boxes 10 25 #[.bool false, .slice none 0 0] (by decide) (by decide) rfl
    obtain ⟨vs, w1, w2, w3, w4⟩ := q3 (show (12 : Nat) < 14 by decide)
    have y5 : a.eval (.tmp t6) = .agg us.toArray := y1
    have w5 : a.eval (.tmp t7) = .agg vs.toArray := w1
    rw [e6] at y5
    rw [e7] at w5
    cases y5
    cases w5
    have e9 : a.eval (.tmp p) = .pointer (some ⟨blk 9, 0, none⟩) := p1
    have e10 : a.eval (.tmp q) = .pointer (some ⟨blk 10, 0, none⟩) := q1
    have hsl : (ttS t0 t1 t2 t3 t4 t5 t6 t7 t8 p q k 25 #[.bool false, .slice none 0 0]).slots 14 = [t0, t1, t2, t3, t4, t5, t6, t7, t8, p, q, k] := rfl
    rw [hsl] at hf
    simp only [List.map_cons, List.map_nil, e0, e2, e6, e7, e8, e9, e10, e13] at hf
    rw [hf]
    exact hend w (blk 9) (blk 10) n1 x1 l1 k1 n2 x2 l2 k2 _ _ _ _ (below_undrew hI.below) p2 q2 (hI.apart 9 10 _ _ _ _ (by decide) (by decide) (by decide) (by decide) rfl rfl (by decide)) y4 w4 a1 b1 a3 b3
end Go.Proofs.YtcgnmihabkgecaaGreat

/- A region 'i, e := x.f(y.g())', whose block may be made at any time. -/
set_option linter.unusedVariables false
namespace Go.Proofs.YtcgnmihabkgecaaGreat
open Go.RowKit Go.Proofs

def neS (t0 t1 t2 t3 t4 t5 t6 p k : Nat) (T : Nat) (z : Array Value) : Shape where
  f := fun i => match i with | 0 => t0 | 1 => t1 | 2 => t2 | 3 => t3 | 4 => t4 | 5 => t5 | 6 => t6 | 7 => p | 9 => k | _ => 0
  kd := fun i => match i with | 7 => .box T z | 8 => .put 7 5 | _ => .val
  need := fun i => match i with | 2 => [1] | 3 => [0, 2] | 4 => [3] | 5 => [4] | 6 => [4] | 8 => [7, 5] | 9 => [6] | _ => []
  st := fun _ => 8
  src := fun _ => 5

def neΦ (r1 r2 : Value) (zn z : Int) (i : Nat) (v : Value) (w : World) : Prop :=
  match i with | 0 => v = r1 | 1 => v = r2 | 2 => IsS zn v w | 3 => IsE z v w | 4 => IsE z v w | 5 => IsS z v w | _ => v = .int .i64 0

set_option maxHeartbeats 2000000 in
theorem nested {Q : Exit → Act → World → Prop} {id : Nat} {a0 : Act} {W : World} {o0 o1 o2 o3 o4 o5 o6 o7 o8 o9 : Oper} (t0 t1 t2 t3 t4 t5 t6 p k r s : Nat) (f f2 : FuncId) (u1 u2 v1 v2 : Value) (g h : Nat) (zn z : Int) (ts ts2 : Array TypeId) {fn fn2 : Func} {cb cb2 : Code}
    (hfn : Tryz.prog.funcs[f]? = some fn) (hname : (fn.name == "runtime.NumGoroutine") = false) (hbody : fn.body = some cb)
    (hfn2 : Tryz.prog.funcs[f2]? = some fn2) (hname2 : (fn2.name == "runtime.NumGoroutine") = false) (hbody2 : fn2.body = some cb2)
    (hok : (neS t0 t1 t2 t3 t4 t5 t6 p k 25 #[.bool false, .slice none 0 0]).ok #[o0, o1, o2, o3, o4, o5, o6, o7, o8, o9] a0.tmps.size = true)
    (h0 : o0.op = .load 25 (.tmp r)) (h1 : o1.op = .load 25 (.tmp s)) (h2 : o2.op = .call { callee := .value (.func f), args := #[.tmp t1], argTypes := ts })
    (h3 : o3.op = .call { callee := .value (.func f2), args := #[.tmp t0, .tmp t2], argTypes := ts2 }) (h4 : o4.op = .move (.tmp t3))
    (h5 : o5.op = .extract (.tmp t4) 0) (h6 : o6.op = .extract (.tmp t4) 1)
    (h7 : o7.op = .alloc 25) (h8 : o8.op = .store 25 (.tmp p) (.tmp t5)) (h9 : o9.op = .assign (.tmp t6))
    (hr : a0.eval (.tmp r) = .pointer (some ⟨g, 0, none⟩)) (hs : a0.eval (.tmp s) = .pointer (some ⟨h, 0, none⟩))
    (hrs : r ∉ [t0, t1, t2, t3, t4, t5, t6, p, k]) (hss : s ∉ [t0, t1, t2, t3, t4, t5, t6, p, k]) (hg : g < W.heap.size) (hh : h < W.heap.size)
    (c1 : W.cell? ⟨g, 0, none⟩ = some u1) (c2 : W.cell? ⟨g, 1, none⟩ = some u2) (c3 : W.cell? ⟨h, 0, none⟩ = some v1) (c4 : W.cell? ⟨h, 1, none⟩ = some v2)
    (hc1 : ∀ w, Below W.heap.size W w → Calls Tryz.prog f #[.agg #[v1, v2]] w (fun e w' => ∃ v, e = .returned v ∧ IsS zn v w' ∧ Below w.heap.size w w'))
    (hc2 : ∀ w n x l c, Below W.heap.size W w → l ≤ 512 → Z32 w n x l zn → Calls Tryz.prog f2 #[.agg #[u1, u2], .agg #[.bool n, .slice x l c]] w (fun e w' => ∃ v, e = .returned v ∧ IsE z v w' ∧ Below w.heap.size w w'))
    (hend : ∀ w b1 n x l c d2 d3 d4, Below W.heap.size W w → W.heap.size ≤ b1 → Box w b1 25 #[.bool n, .slice x l c] → l ≤ 512 → Z32 w n x l z →
      Q .normal (puts a0 [(t0, .agg #[u1, u2]), (t1, .agg #[v1, v2]), (t2, d2), (t3, d3), (t4, d4), (t5, .agg #[.bool n, .slice x l c]), (t6, .int .i64 0), (p, .pointer (some ⟨b1, 0, none⟩)), (k, .int .i64 0)]) w) :
    (Code.region id #[o0, o1, o2, o3, o4, o5, o6, o7, o8, o9] true).wp Tryz.prog Q a0 W := by
  refine Shape.region (neS t0 t1 t2 t3 t4 t5 t6 p k 25 #[.bool false, .slice none 0 0]) (fun i v w => neΦ (.agg #[u1, u2]) (.agg #[v1, v2]) zn z i (v i) w) (by kernel_rfl) hok
    (fun i v v' w _ hj hΦ => by rw [← hj i (.inl rfl)]; exact hΦ) ?stab ?val ?box ?put rfl ?fin
  case stab =>
    intro i v hi
    match i with
    | 0 => exact Stable.const _ _
    | 1 => exact Stable.const _ _
    | 2 => exact Stable.isS _ _ _
    | 3 => exact Stable.isE _ _ _
    | 4 => exact Stable.isE _ _ _
    | 5 => exact Stable.isS _ _ _
    | i + 6 => exact Stable.const _ _
  case val =>
    intro i o ho hv a w hA hb hz hn K' hK
    match i, ho, hv with
    | 0, ho, _ =>
      have ho' : o0 = o := by simpa using ho
      subst ho'
      have e : a.eval (.tmp r) = .pointer (some ⟨g, 0, none⟩) := (hA.eval hrs).trans hr
      refine wp_value (v := .agg #[u1, u2]) (w' := w) ?_ (hK _ _ (Below.refl _ _) (by simp [upd, neΦ]))
      have d1 := (hb.cell (p := ⟨g, 0, none⟩) hg).trans c1
      have d2 := (hb.cell (p := ⟨g, 1, none⟩) hg).trans c2
      unfold execOp
      rw [h0]
      dsimp only
      rw [e]
      simp [go_sem, d1, d2]
    | 1, ho, _ =>
      have ho' : o1 = o := by simpa using ho
      subst ho'
      have e : a.eval (.tmp s) = .pointer (some ⟨h, 0, none⟩) := (hA.eval hss).trans hs
      refine wp_value (v := .agg #[v1, v2]) (w' := w) ?_ (hK _ _ (Below.refl _ _) (by simp [upd, neΦ]))
      have d1 := (hb.cell (p := ⟨h, 0, none⟩) hh).trans c3
      have d2 := (hb.cell (p := ⟨h, 1, none⟩) hh).trans c4
      unfold execOp
      rw [h1]
      dsimp only
      rw [e]
      simp [go_sem, d1, d2]
    | 2, ho, _ =>
      have ho' : o2 = o := by simpa using ho
      subst ho'
      have e : a.eval (.tmp t1) = .agg #[v1, v2] := hn 1 (by simp [neS]) rfl
      refine wp_call (run_call hfn hname hbody h2 a w) ?_ (fun v w' hb' hφ => hK v w' hb' (by simpa [upd, neΦ] using hφ))
      have em : Array.map a.eval #[Operand.tmp t1] = #[a.eval (.tmp t1)] := by simp only [List.map_toArray, List.map_cons, List.map_nil]
      rw [em, e]
      exact hc1 w (below_undrew hb)
    | 3, ho, _ =>
      have ho' : o3 = o := by simpa using ho
      subst ho'
      have e : a.eval (.tmp t0) = .agg #[u1, u2] := hn 0 (by simp [neS]) rfl
      obtain ⟨n, x, l, c, e2, y1, y2⟩ : IsS zn (a.eval (.tmp t2)) w := hn 2 (by simp [neS]) rfl
      refine wp_call (run_call hfn2 hname2 hbody2 h3 a w) ?_ (fun v w' hb' hφ => hK v w' hb' (by simpa [upd, neΦ] using hφ))
      have em : Array.map a.eval #[Operand.tmp t0, Operand.tmp t2] = #[a.eval (.tmp t0), a.eval (.tmp t2)] := by simp only [List.map_toArray, List.map_cons, List.map_nil]
      rw [em, e, e2]
      exact hc2 w n x l c (below_undrew hb) y1 y2
    | 4, ho, _ =>
      have ho' : o4 = o := by simpa using ho
      subst ho'
      have e : IsE z (a.eval (.tmp t3)) w := hn 3 (by simp [neS]) rfl
      exact wp_value (run_move h4 a w) (hK _ _ (Below.refl _ _) (by simpa [upd, neΦ] using e))
    | 5, ho, _ =>
      have ho' : o5 = o := by simpa using ho
      subst ho'
      obtain ⟨n, x, l, c, e, m1, y1⟩ : IsE z (a.eval (.tmp t4)) w := hn 4 (by simp [neS]) rfl
      exact wp_value (run_extract h5 e rfl w) (hK _ _ (Below.refl _ _) (by simp only [upd, neΦ, if_true]; exact ⟨n, x, l, c, rfl, m1, y1⟩))
    | 6, ho, _ =>
      have ho' : o6 = o := by simpa using ho
      subst ho'
      obtain ⟨n, x, l, c, e, m1, y1⟩ : IsE z (a.eval (.tmp t4)) w := hn 4 (by simp [neS]) rfl
      exact wp_value (run_extract h6 e rfl w) (hK _ _ (Below.refl _ _) (by simp [upd, neΦ]))
    | 9, ho, _ =>
      have ho' : o9 = o := by simpa using ho
      subst ho'
      have e : a.eval (.tmp t6) = .int .i64 0 := hn 6 (by simp [neS]) rfl
      exact wp_value (run_assign h9 a w) (hK _ _ (Below.refl _ _) (by simpa [upd, neΦ] using e))
    | 7, _, hv => cases hv
    | 8, _, hv => cases hv
    | i + 10, ho, _ => simp at ho
  case box =>
    intro i o T z ho hk a w
    match i, ho, hk with
    | 7, ho, hk => have ho' : o7 = o := by simpa using ho
                   subst ho'; cases hk; unfold execOp; rw [h7]; simp [go_sem]
    | 0, _, hk => cases hk
    | 1, _, hk => cases hk
    | 2, _, hk => cases hk
    | 3, _, hk => cases hk
    | 4, _, hk => cases hk
    | 5, _, hk => cases hk
    | 6, _, hk => cases hk
    | 8, _, hk => cases hk
    | 9, _, hk => cases hk
    | i + 10, ho, _ => simp at ho
  case put =>
    intro i o p' s' T z ho hk hp a w b hva hφ hbx
    match i, ho, hk with
    | 0, _, hk => cases hk
    | 1, _, hk => cases hk
    | 2, _, hk => cases hk
    | 3, _, hk => cases hk
    | 4, _, hk => cases hk
    | 5, _, hk => cases hk
    | 6, _, hk => cases hk
    | 7, _, hk => cases hk
    | 9, _, hk => cases hk
    | i + 10, ho, _ => simp at ho
    | 8, ho, hk =>
      have ho' : o8 = o := by simpa using ho
      subst ho'; cases hk; cases hp
      obtain ⟨n, x, l, c, e, _⟩ := hφ
      have e1 : a.eval (.tmp t5) = .agg #[.bool n, .slice x l c] := e
      have e2 : a.eval (.tmp p) = .pointer (some ⟨b, 0, none⟩) := hva
      have d1 := hbx.cell 0
      have d2 := hbx.cell 1
      have f1 := hbx.frozen 0
      have f2 := hbx.frozen 1
      refine ⟨[.bool n, .slice x l c], e, rfl, by simp [isInt], ?_⟩
      unfold execOp; rw [h8]
      dsimp only
      rw [e1, e2]
      simp [go_sem, d1, d2, f1, f2, setFrom]
  case fin =>
    intro a w blk hI
    have n8 : (#[o0, o1, o2, o3, o4, o5, o6, o7, o8, o9] : Array Oper).size = 10 := rfl
    rw [n8] at hI
    have hf := hI.agree.form
    have e0 : a.eval (.tmp t0) = .agg #[u1, u2] := hI.vals 0 (by decide) (by decide) rfl
    have e1 : a.eval (.tmp t1) = .agg #[v1, v2] := hI.vals 1 (by decide) (by decide) rfl
    obtain ⟨n, x, l, c, e5, a1, a3⟩ : IsS z (a.eval (.tmp t5)) w := hI.vals 5 (by decide) (by decide) rfl
    have e6 : a.eval (.tmp t6) = .int .i64 0 := hI.vals 6 (by decide) (by decide) rfl
    have e9 : a.eval (.tmp k) = .int .i64 0 := hI.vals 9 (by decide) (by decide) rfl
    obtain ⟨p1, p2, _, p3⟩ := hI.boxes 7 25 #[.bool false, .slice none 0 0] (by decide) (by decide) rfl
    obtain ⟨us, y1, y2, y3, y4⟩ := p3 (show (8 : Nat) < 10 by decide)
    have y5 : a.eval (.tmp t5) = .agg us.toArray := y1
    rw [e5] at y5
    cases y5
    have e7 : a.eval (.tmp p) = .pointer (some ⟨blk 7, 0, none⟩) := p1
    have hsl : (neS t0 t1 t2 t3 t4 t5 t6 p k 25 #[.bool false, .slice none 0 0]).slots 10 = [t0, t1, t2, t3, t4, t5, t6, p, k] := rfl
    rw [hsl] at hf
    simp only [List.map_cons, List.map_nil, e0, e1, e5, e6, e7, e9] at hf
    rw [hf]
    exact hend w (blk 7) n x l c _ _ _ (below_undrew hI.below) p2 y4 a1 a3
end Go.Proofs.YtcgnmihabkgecaaGreat

/- The laws' helper fine. -/
set_option linter.unusedVariables false
namespace Go.Proofs.YtcgnmihabkgecaaGreat
open Go.RowKit Go.Proofs

set_option maxHeartbeats 400000 in
theorem fine_any (ao : Option Addr) (len cap : Nat) (w : World) (h : Sl .i64 w ao len (List.replicate len 0)) (hl : len ≤ 1000000) :
    Calls Tryz.prog 18 #[.slice ao len cap] w fun e w' => e = .returned (.bool true) ∧ w = w' := by
  obtain ⟨hx, b, off, h0, hc⟩ := h
  have H0 := Lib.hid h0
  have HC : Hid (∀ i, i < len → w.cell? ⟨b, off + i, none⟩ = some (.int .i64 0)) := by
    intro i hi
    rw [hc i hi, List.getElem?_replicate, if_pos hi]; rfl
  clear hx h0 hc
  go_enter Tryz.func18, Tryz.ntmps18
  go_wp2
  go_loop [7] (fun iv => ∃ i : Nat, i ≤ len ∧ iv = .int .i64 (i : Int)) (fun iv => len - (intOf iv).toNat)
  case atStart => exact ⟨0, by omega, rfl⟩
  case round =>
    obtain ⟨i, hi, rfl⟩ := hrel
    by_cases hil : i < len
    · obtain rfl := H0.out (by omega)
      have c1 := HC.out i hil
      have b1 : (i : Int) < (len : Int) := by omega
      have b2 : (0 : Int) ≤ (i : Int) := by omega
      go_wp2
      go_round
      case rel => exact ⟨i + 1, by omega, by go_num⟩
      case measure => simp only [intOf]; omega
    · have b1 : ¬ (i : Int) < (len : Int) := by omega
      go_wp2
      go_ret
      exact ⟨rfl, rfl⟩
end Go.Proofs.YtcgnmihabkgecaaGreat

/- Facts for the laws of rings. -/
set_option linter.unusedVariables false
namespace Go.Proofs.YtcgnmihabkgecaaGreat
open Go.RowKit Go.Proofs

def Bl (k : Nat) (z : Int) : Prop := blen z.natAbs ≤ k

theorem Bl.fits {k : Nat} {z : Int} (h : Bl k z) (hk : k ≤ 16384) : Fits z := Nat.le_trans h hk
theorem Bl.mono {k j : Nat} {z : Int} (h : Bl k z) (hk : k ≤ j) : Bl j z := Nat.le_trans h hk
theorem Bl.neg {k : Nat} {z : Int} (h : Bl k z) : Bl k (-z) := by unfold Bl at *; rwa [Int.natAbs_neg]
theorem Bl.add {k : Nat} {x y : Int} (hx : Bl k x) (hy : Bl k y) : Bl (k + 1) (x + y) := by
  unfold Bl at *
  rw [blen_le] at *
  have := Int.natAbs_add_le x y
  rw [Nat.pow_succ]
  omega
theorem Bl.sub {k : Nat} {x y : Int} (hx : Bl k x) (hy : Bl k y) : Bl (k + 1) (x - y) := hx.add hy.neg
theorem Bl.mul {j k : Nat} {x y : Int} (hx : Bl j x) (hy : Bl k y) : Bl (j + k) (x * y) := by
  unfold Bl at *
  rw [blen_le] at *
  rw [Int.natAbs_mul, Nat.pow_add]
  exact Nat.mul_lt_mul'' hx hy

theorem rawZ_bl (s : Bool) (xs : List Nat) (hd : Dig B16 xs) (most : Nat) : Bl (16 * most) (rawZ s xs most) := by
  have h1 := rawZ_lt s xs hd most
  rw [B16_pow] at h1
  exact blen_le.2 h1

def OutE (W : World) (z : Int) (e : Ending) (w' : World) : Prop :=
  ∃ neg ao len cap, e = .returned (.tuple #[.agg #[.bool neg, .slice ao len cap], .int .i64 0]) ∧ len ≤ 512 ∧ Z32 w' neg ao len z ∧ Below W.heap.size W w'

theorem OutF.fine {W w' : World} {z : Int} {e : Ending} (h : OutF W z e w') (hf : Fits z) : OutE W z e w' := by
  rcases h with ⟨_, n, o, l, c, rfl, hz, hb⟩ | ⟨hn, _⟩
  · exact ⟨n, o, l, c, rfl, fits_len hz hf, hz, hb⟩
  · exact absurd hf hn

theorem OutI.small {W w' : World} {z : Int} {e : Ending} (h : OutI W z e w') (hf : Fits z) : ∃ v, e = .returned v ∧ IsS z v w' ∧ Below W.heap.size W w' := by
  obtain ⟨n, o, l, c, rfl, hz, hb⟩ := h
  exact ⟨_, rfl, ⟨n, o, l, c, rfl, fits_len hz hf, hz⟩, hb⟩

theorem MadePost.fits {z : Int} {W w' : World} {e : Ending} (h : MadePost z W e w') (hf : Fits z) :
    ∃ neg ao len cap, e = .returned (.tuple #[.agg #[.bool neg, .slice ao len cap], .bool true]) ∧ len ≤ 512 ∧ Z32 w' neg ao len z ∧ Below W.heap.size W w' := by
  obtain ⟨n, o, l, c, ok, z', rfl, hl, hz, hb, ⟨_, rfl, rfl⟩ | ⟨hn, _⟩⟩ := h
  · exact ⟨n, o, l, c, rfl, hl, hz, hb⟩
  · exact absurd hf hn

/-- a row of zeros that was just made -/
theorem zeros_sl (W : World) (e n : Nat) (c : Array Value) (hc : c = cs .i64 (List.replicate n 0)) : Sl .i64 (W.alloc (.cells c e)) (some ⟨W.heap.size, 0, none⟩) n (List.replicate n 0) :=
  (Blk.new' W .i64 e (List.replicate n 0) c hc).whole (by simp)

theorem below_made {V w' : World} {o : Obj} (hb : Below (V.drew.alloc o).heap.size (V.drew.alloc o) w') : Below V.heap.size V w' :=
  below_then (((Below.refl _ _).drew).alloc (Nat.le_refl _) o) hb
end Go.Proofs.YtcgnmihabkgecaaGreat

/- The specification's text of a fraction; Floor. -/
set_option linter.unusedVariables false
namespace Go.Proofs.YtcgnmihabkgecaaGreat
open Go.RowKit

set_option maxHeartbeats 1000000 in
theorem text16Q_any (s1 s2 : Bool) (o1 o2 : Option Addr) (l1 l2 c1 c2 : Nat) (p : Int) (q : Nat) (W : World) (h1 : Z16 W s1 o1 l1 p) (h2 : Z16 W s2 o2 l2 (q : Int)) (hl1 : l1 ≤ 100000000) (hl2 : l2 ≤ 100000000) :
    Calls Tryz.prog 42 #[.agg #[.bool s1, .slice o1 l1 c1, .bool s2, .slice o2 l2 c2]] W (StrPost (textQ p q) W) := by
  have hf : Fr W (W.alloc (.cells #[.bool s1, .slice o1 l1 c1, .bool s2, .slice o2 l2 c2] 35)) [(35, #[.bool s1, .slice o1 l1 c1, .bool s2, .slice o2 l2 c2])] := (Fr.nil W).alloc rfl _ _
  have HP := Lib.hid (h1.keep hf.below)
  have HQ := Lib.hid (h2.keep hf.below)
  have hl1' : p.natAbs < B32 ^ l1 := Nat.lt_of_lt_of_le h1.n16.lt (Nat.pow_le_pow_left (by decide) _)
  have hl2' : q < B32 ^ l2 := Nat.lt_of_lt_of_le (by have := h2.n16.lt; simpa using this) (Nat.pow_le_pow_left (by decide) _)
  have hn1 := numeralZ_len hl1'
  have hn2 := numeral_len hl2'
  have HL1 : Hid (¬ 9223372036854775807 < (numeralZ p).length + 1) := by show ¬ _; omega
  have HL2 : Hid (¬ 9223372036854775807 < (numeralZ p).length + 1 + (numeral q).length) := by show ¬ _; omega
  have HNZ : Hid (numeralZ (q : Int) = numeral q) := numeralZ_pos q
  clear h1 h2 hl1' hl2' hn1 hn2
  go_enter Tryz.func42, Tryz.ntmps42
  go_wp2_with fail
  obtain ⟨W3, hW3⟩ : ∃ W3, W3 = W.alloc (.cells #[.bool s1, .slice o1 l1 c1, .bool s2, .slice o2 l2 c2] 35) := ⟨_, rfl⟩
  rw [← hW3] at hf HP HQ ⊢
  clear hW3
  have HF := Lib.hid hf
  clear hf
  have b0 : W3.cell? ⟨W.heap.size, 0, none⟩ = some (.bool s1) := HF.out.cell 0 0 rfl rfl
  have b1 : W3.cell? ⟨W.heap.size, 1, none⟩ = some (.slice o1 l1 c1) := HF.out.cell 0 1 rfl rfl
  have b2 : W3.cell? ⟨W.heap.size, 2, none⟩ = some (.bool s2) := HF.out.cell 0 2 rfl rfl
  have b3 : W3.cell? ⟨W.heap.size, 3, none⟩ = some (.slice o2 l2 c2) := HF.out.cell 0 3 rfl rfl
  go_region_held3 (fun w' => w'.cell? ⟨W.heap.size, 2, none⟩ = some (.bool s2) ∧ w'.cell? ⟨W.heap.size, 3, none⟩ = some (.slice o2 l2 c2)) (go_keep)
    (first | (go_at_call 36; refine (refOf_any 1 W3.drew (by omega) (by omega)).mono ?_; rintro e u1 ⟨s3, o3, l3, c3, rfl, hlc3, hcm3, hz, hb1⟩; have HB1 := Lib.hid (below_of_drew hb1); have HO := Lib.hid hz; have hl3 : l3 ≤ 1000000000 := Nat.le_trans (hz.n16.len_le (k := 1) (by decide)) (by decide); have HF1 := Lib.hid (HF.out.later HB1.out); have HQ1 := Lib.hid (HQ.out.keep HB1.out); have HP1 := Lib.hid (HP.out.keep HB1.out); clear hb1 hz; have k0 : u1.cell? ⟨W.heap.size, 2, none⟩ = some (.bool s2) := HF1.out.cell 0 2 rfl rfl; have k1 : u1.cell? ⟨W.heap.size, 3, none⟩ = some (.slice o2 l2 c2) := HF1.out.cell 0 3 rfl rfl) | (go_at_call 39; refine (cmpZ16_any _ _ _ _ _ _ _ _ (q : Int) 1 _ HQ1.out HO.out (by omega) hl3 hlc3 hcm3).mono ?_; rintro e u2 ⟨rfl, hb2⟩; have HF2 := Lib.hid (HF1.out.later hb2); have HP2 := Lib.hid (HP1.out.keep hb2); have HQ2 := Lib.hid (HQ1.out.keep hb2); clear hb2; have j0 : u2.cell? ⟨W.heap.size, 2, none⟩ = some (.bool s2) := HF2.out.cell 0 2 rfl rfl; have j1 : u2.cell? ⟨W.heap.size, 3, none⟩ = some (.slice o2 l2 c2) := HF2.out.cell 0 3 rfl rfl))
  have m0 : u2.cell? ⟨W.heap.size, 0, none⟩ = some (.bool s1) := HF2.out.cell 0 0 rfl rfl
  have m1 : u2.cell? ⟨W.heap.size, 1, none⟩ = some (.slice o1 l1 c1) := HF2.out.cell 0 1 rfl rfl
  by_cases hq : q = 1
  · have hs : ((q : Int) - 1).sign = 0 := by subst hq; rfl
    have HE : Hid (textQ p q = numeralZ p) := by unfold textQ; rw [if_pos hq]; rfl
    rw [HE.out, hs]
    clear hs hq
    go_wp2_with fail
    refine (text16_any _ _ _ _ p _ HP2.out (by omega)).mono ?_
    rintro e w3 ⟨rfl, hb3⟩
    have HF3 := Lib.hid (HF2.out.later hb3)
    clear hb3
    go_wp2
    go_ret
    exact ⟨by rw [HE.out]; rfl, HF3.out.below⟩
  · have HE : Hid (textQ p q = numeralZ p ++ [47] ++ numeral q) := by unfold textQ; rw [if_neg hq]; rfl
    obtain ⟨t, ht⟩ : ∃ t, t = ((q : Int) - 1).sign := ⟨_, rfl⟩
    have hs : (t == 0) = false := by
      rw [ht]
      have : ((q : Int) - 1).sign ≠ 0 := fun h => by
        have := Int.sign_eq_zero_iff_zero.1 h
        omega
      simp [this]
    rw [HE.out, ← ht]
    clear hq ht
    have l1' := HL1.out
    have l2' := HL2.out
    go_wp2_with fail
    go_region_held3 (fun w' => w'.cell? ⟨W.heap.size, 0, none⟩ = some (.bool s1) ∧ w'.cell? ⟨W.heap.size, 1, none⟩ = some (.slice o1 l1 c1) ∧ w'.cell? ⟨W.heap.size, 2, none⟩ = some (.bool s2) ∧ w'.cell? ⟨W.heap.size, 3, none⟩ = some (.slice o2 l2 c2)) (go_keep)
      (first | (go_at_call 90; refine (text16_any s2 _ _ _ (q : Int) _ HQ3.out (by omega)).mono ?_; rw [HNZ.out]; rintro e u4 ⟨rfl, hb⟩; have HF4 := Lib.hid (HF3.out.later hb); clear hb; have q0 : u4.cell? ⟨W.heap.size, 0, none⟩ = some (.bool s1) := HF4.out.cell 0 0 rfl rfl; have q1 : u4.cell? ⟨W.heap.size, 1, none⟩ = some (.slice o1 l1 c1) := HF4.out.cell 0 1 rfl rfl; have q2 : u4.cell? ⟨W.heap.size, 2, none⟩ = some (.bool s2) := HF4.out.cell 0 2 rfl rfl; have q3 : u4.cell? ⟨W.heap.size, 3, none⟩ = some (.slice o2 l2 c2) := HF4.out.cell 0 3 rfl rfl) | (go_at_call 90; refine (text16_any s1 _ _ _ p u2.drew (HP2.out.keep (Below.refl _ _).drew) (by omega)).mono ?_; rintro e u3 ⟨rfl, hb⟩; have HB3 := Lib.hid (below_of_drew hb); have HF3 := Lib.hid (HF2.out.later HB3.out); have HQ3 := Lib.hid (HQ2.out.keep HB3.out); clear hb; have p0 : u3.cell? ⟨W.heap.size, 0, none⟩ = some (.bool s1) := HF3.out.cell 0 0 rfl rfl; have p1 : u3.cell? ⟨W.heap.size, 1, none⟩ = some (.slice o1 l1 c1) := HF3.out.cell 0 1 rfl rfl; have p2 : u3.cell? ⟨W.heap.size, 2, none⟩ = some (.bool s2) := HF3.out.cell 0 2 rfl rfl; have p3 : u3.cell? ⟨W.heap.size, 3, none⟩ = some (.slice o2 l2 c2) := HF3.out.cell 0 3 rfl rfl))
    go_wp2
    go_ret
    refine ⟨?_, HF4.out.below⟩
    rw [HE.out]
    have h1 := bytes_append (numeralZ p) [47]
    have h2 := bytes_append (numeralZ p ++ [47]) (numeral q)
    rw [← h1] at h2
    exact congrArg (fun x => Ending.returned (Value.string x)) h2

end Go.Proofs.YtcgnmihabkgecaaGreat

/- Floor: its blocks may be made at any time. -/
set_option linter.unusedVariables false
namespace Go.Proofs.YtcgnmihabkgecaaGreat
open Go.RowKit Go.Proofs

def IsDZ (x y : Int) (v : Value) (w : World) : Prop := ∃ na ao la ca nb bo lb cb, v = .tuple #[.agg #[.bool na, .slice ao la ca], .agg #[.bool nb, .slice bo lb cb], .int .i64 0] ∧ Z32 w na ao la x ∧ Z32 w nb bo lb y
theorem Stable.isDZ (base : Nat) (x y : Int) (v : Value) : Stable base (IsDZ x y v) :=
  Stable.ex fun na => Stable.ex fun ao => Stable.ex fun la => Stable.ex fun ca => Stable.ex fun nb => Stable.ex fun bo => Stable.ex fun lb => Stable.ex fun cb =>
    (Stable.const base _).and ((Stable.z32 base na ao la x).and (Stable.z32 base nb bo lb y))
theorem DivZPost.is {x y : Int} {W w' : World} {e : Ending} (h : DivZPost x y W e w') : ∃ v, e = .returned v ∧ IsDZ (x / y) (x % y) v w' ∧ Below W.heap.size W w' := by
  obtain ⟨na, ao, la, ca, nb, bo, lb, cb, rfl, h1, h2, h3⟩ := h
  exact ⟨_, rfl, ⟨na, ao, la, ca, nb, bo, lb, cb, rfl, h1, h2⟩, h3⟩

def flS (t0 t1 t2 t3 t4 t5 t6 t7 t8 p q k : Nat) (T : Nat) (z : Array Value) : Shape where
  f := fun i => match i with | 0 => t0 | 1 => t1 | 2 => t2 | 3 => t3 | 4 => t4 | 5 => t5 | 6 => t6 | 7 => t7 | 8 => t8 | 9 => p | 10 => q | 13 => k | _ => 0
  kd := fun i => match i with | 9 => .box T z | 10 => .box T z | 11 => .put 9 6 | 12 => .put 10 7 | _ => .val
  need := fun i => match i with | 1 => [0] | 3 => [2] | 4 => [1, 3] | 5 => [4] | 6 => [5] | 7 => [5] | 8 => [5] | 11 => [9, 6] | 12 => [10, 7] | 13 => [8] | _ => []
  st := fun i => match i with | 9 => 11 | _ => 12
  src := fun i => match i with | 9 => 6 | _ => 7

def flΦ (r0 r1 r2 : Value) (zq z1 z2 : Int) (i : Nat) (v : Value) (w : World) : Prop :=
  match i with | 0 => v = r0 | 1 => v = r1 | 2 => v = r2 | 3 => IsS zq v w | 4 => IsDZ z1 z2 v w | 5 => IsDZ z1 z2 v w | 6 => IsI z1 v w | 7 => IsI z2 v w | _ => v = .int .i64 0

set_option maxHeartbeats 2000000 in
theorem floor_region {Q : Exit → Act → World → Prop} {id : Nat} {a0 : Act} {W : World} {o0 o1 o2 o3 o4 o5 o6 o7 o8 o9 o10 o11 o12 o13 : Oper} (t0 t1 t2 t3 t4 t5 t6 t7 t8 p q k r : Nat) (f f2 : FuncId) (u1 u2 u3 : Value) (g : Nat) (zq z1 z2 : Int) (ts ts2 : Array TypeId) {fn fn2 : Func} {cb cb2 : Code}
    (hfn : Tryz.prog.funcs[f]? = some fn) (hname : (fn.name == "runtime.NumGoroutine") = false) (hbody : fn.body = some cb)
    (hfn2 : Tryz.prog.funcs[f2]? = some fn2) (hname2 : (fn2.name == "runtime.NumGoroutine") = false) (hbody2 : fn2.body = some cb2)
    (hok : (flS t0 t1 t2 t3 t4 t5 t6 t7 t8 p q k 25 #[.bool false, .slice none 0 0]).ok #[o0, o1, o2, o3, o4, o5, o6, o7, o8, o9, o10, o11, o12, o13] a0.tmps.size = true)
    (h0 : o0.op = .fieldAddr 27 (.tmp r) 0) (h1 : o1.op = .load 25 (.tmp t0)) (h2 : o2.op = .load 27 (.tmp r)) (h3 : o3.op = .call { callee := .value (.func f), args := #[.tmp t2], argTypes := ts })
    (h4 : o4.op = .call { callee := .value (.func f2), args := #[.tmp t1, .tmp t3], argTypes := ts2 }) (h5 : o5.op = .move (.tmp t4))
    (h6 : o6.op = .extract (.tmp t5) 0) (h7 : o7.op = .extract (.tmp t5) 1) (h8 : o8.op = .extract (.tmp t5) 2)
    (h9 : o9.op = .alloc 25) (h10 : o10.op = .alloc 25) (h11 : o11.op = .store 25 (.tmp p) (.tmp t6)) (h12 : o12.op = .store 25 (.tmp q) (.tmp t7)) (h13 : o13.op = .assign (.tmp t8))
    (hr : a0.eval (.tmp r) = .pointer (some ⟨g, 0, none⟩)) (hrs : r ∉ [t0, t1, t2, t3, t4, t5, t6, t7, t8, p, q, k]) (hg : g < W.heap.size)
    (c1 : W.cell? ⟨g, 0, none⟩ = some u1) (c2 : W.cell? ⟨g, 1, none⟩ = some u2) (c3 : W.cell? ⟨g, 2, none⟩ = some u3)
    (hc1 : ∀ w, Below W.heap.size W w → Calls Tryz.prog f #[.agg #[u1, u2, u3]] w (fun e w' => ∃ v, e = .returned v ∧ IsS zq v w' ∧ Below w.heap.size w w'))
    (hc2 : ∀ w n x l c, Below W.heap.size W w → l ≤ 512 → Z32 w n x l zq → Calls Tryz.prog f2 #[.agg #[u1, u2], .agg #[.bool n, .slice x l c]] w (fun e w' => ∃ v, e = .returned v ∧ IsDZ z1 z2 v w' ∧ Below w.heap.size w w'))
    (hend : ∀ w b1 b2 n1 x1 l1 k1 d3 d4 d5 d7, Below W.heap.size W w → W.heap.size ≤ b1 → Box w b1 25 #[.bool n1, .slice x1 l1 k1] → Z32 w n1 x1 l1 z1 →
      Q .normal (puts a0 [(t0, .pointer (some ⟨g, 0, none⟩)), (t1, .agg #[u1, u2]), (t2, .agg #[u1, u2, u3]), (t3, d3), (t4, d4), (t5, d5), (t6, .agg #[.bool n1, .slice x1 l1 k1]), (t7, d7), (t8, .int .i64 0),
        (p, .pointer (some ⟨b1, 0, none⟩)), (q, .pointer (some ⟨b2, 0, none⟩)), (k, .int .i64 0)]) w) :
    (Code.region id #[o0, o1, o2, o3, o4, o5, o6, o7, o8, o9, o10, o11, o12, o13] true).wp Tryz.prog Q a0 W := by
  refine Shape.region (flS t0 t1 t2 t3 t4 t5 t6 t7 t8 p q k 25 #[.bool false, .slice none 0 0]) (fun i v w => flΦ (.pointer (some ⟨g, 0, none⟩)) (.agg #[u1, u2]) (.agg #[u1, u2, u3]) zq z1 z2 i (v i) w) (by kernel_rfl) hok
    (fun i v v' w _ hj hΦ => by rw [← hj i (.inl rfl)]; exact hΦ) ?stab ?val ?box ?put rfl ?fin
  case stab =>
    intro i v hi
    match i with
    | 0 => exact Stable.const _ _
    | 1 => exact Stable.const _ _
    | 2 => exact Stable.const _ _
    | 3 => exact Stable.isS _ _ _
    | 4 => exact Stable.isDZ _ _ _ _
    | 5 => exact Stable.isDZ _ _ _ _
    | 6 => exact Stable.isI _ _ _
    | 7 => exact Stable.isI _ _ _
    | i + 8 => exact Stable.const _ _
  case val =>
    intro i o ho hv a w hA hb hz hn K' hK
    have er : a.eval (.tmp r) = .pointer (some ⟨g, 0, none⟩) := (hA.eval hrs).trans hr
    have d1 := (hb.cell (p := ⟨g, 0, none⟩) hg).trans c1
    have d2 := (hb.cell (p := ⟨g, 1, none⟩) hg).trans c2
    have d3 := (hb.cell (p := ⟨g, 2, none⟩) hg).trans c3
    match i, ho, hv with
    | 0, ho, _ =>
      have ho' : o0 = o := by simpa using ho
      subst ho'
      refine wp_value (v := .pointer (some ⟨g, 0, none⟩)) (w' := w) ?_ (hK _ _ (Below.refl _ _) (by simp [upd, flΦ]))
      unfold execOp
      rw [h0]
      dsimp only
      rw [er]
      simp [go_sem]
    | 1, ho, _ =>
      have ho' : o1 = o := by simpa using ho
      subst ho'
      have e : a.eval (.tmp t0) = .pointer (some ⟨g, 0, none⟩) := hn 0 (by simp [flS]) rfl
      refine wp_value (v := .agg #[u1, u2]) (w' := w) ?_ (hK _ _ (Below.refl _ _) (by simp [upd, flΦ]))
      unfold execOp
      rw [h1]
      dsimp only
      rw [e]
      simp [go_sem, d1, d2]
    | 2, ho, _ =>
      have ho' : o2 = o := by simpa using ho
      subst ho'
      refine wp_value (v := .agg #[u1, u2, u3]) (w' := w) ?_ (hK _ _ (Below.refl _ _) (by simp [upd, flΦ]))
      unfold execOp
      rw [h2]
      dsimp only
      rw [er]
      simp [go_sem, d1, d2, d3]
    | 3, ho, _ =>
      have ho' : o3 = o := by simpa using ho
      subst ho'
      have e : a.eval (.tmp t2) = .agg #[u1, u2, u3] := hn 2 (by simp [flS]) rfl
      refine wp_call (run_call hfn hname hbody h3 a w) ?_ (fun v w' hb' hφ => hK v w' hb' (by simpa [upd, flΦ] using hφ))
      have em : Array.map a.eval #[Operand.tmp t2] = #[a.eval (.tmp t2)] := by simp only [List.map_toArray, List.map_cons, List.map_nil]
      rw [em, e]
      exact hc1 w (below_undrew hb)
    | 4, ho, _ =>
      have ho' : o4 = o := by simpa using ho
      subst ho'
      have e : a.eval (.tmp t1) = .agg #[u1, u2] := hn 1 (by simp [flS]) rfl
      obtain ⟨n, x, l, c, e2, y1, y2⟩ : IsS zq (a.eval (.tmp t3)) w := hn 3 (by simp [flS]) rfl
      refine wp_call (run_call hfn2 hname2 hbody2 h4 a w) ?_ (fun v w' hb' hφ => hK v w' hb' (by simpa [upd, flΦ] using hφ))
      have em : Array.map a.eval #[Operand.tmp t1, Operand.tmp t3] = #[a.eval (.tmp t1), a.eval (.tmp t3)] := by simp only [List.map_toArray, List.map_cons, List.map_nil]
      rw [em, e, e2]
      exact hc2 w n x l c (below_undrew hb) y1 y2
    | 5, ho, _ =>
      have ho' : o5 = o := by simpa using ho
      subst ho'
      have e : IsDZ z1 z2 (a.eval (.tmp t4)) w := hn 4 (by simp [flS]) rfl
      exact wp_value (run_move h5 a w) (hK _ _ (Below.refl _ _) (by simpa [upd, flΦ] using e))
    | 6, ho, _ =>
      have ho' : o6 = o := by simpa using ho
      subst ho'
      obtain ⟨na, ao, la, ca, nb, bo, lb, cb, e, y1, y2⟩ : IsDZ z1 z2 (a.eval (.tmp t5)) w := hn 5 (by simp [flS]) rfl
      exact wp_value (run_extract h6 e rfl w) (hK _ _ (Below.refl _ _) (by simp only [upd, flΦ, if_true]; exact ⟨na, ao, la, ca, rfl, y1⟩))
    | 7, ho, _ =>
      have ho' : o7 = o := by simpa using ho
      subst ho'
      obtain ⟨na, ao, la, ca, nb, bo, lb, cb, e, y1, y2⟩ : IsDZ z1 z2 (a.eval (.tmp t5)) w := hn 5 (by simp [flS]) rfl
      exact wp_value (run_extract h7 e rfl w) (hK _ _ (Below.refl _ _) (by simp only [upd, flΦ, if_true]; exact ⟨nb, bo, lb, cb, rfl, y2⟩))
    | 8, ho, _ =>
      have ho' : o8 = o := by simpa using ho
      subst ho'
      obtain ⟨na, ao, la, ca, nb, bo, lb, cb, e, y1, y2⟩ : IsDZ z1 z2 (a.eval (.tmp t5)) w := hn 5 (by simp [flS]) rfl
      exact wp_value (run_extract h8 e rfl w) (hK _ _ (Below.refl _ _) (by simp [upd, flΦ]))
    | 13, ho, _ =>
      have ho' : o13 = o := by simpa using ho
      subst ho'
      have e : a.eval (.tmp t8) = .int .i64 0 := hn 8 (by simp [flS]) rfl
      exact wp_value (run_assign h13 a w) (hK _ _ (Below.refl _ _) (by simpa [upd, flΦ] using e))
    | 9, _, hv => cases hv
    | 10, _, hv => cases hv
    | 11, _, hv => cases hv
    | 12, _, hv => cases hv
    | i + 14, ho, _ => simp at ho
  case box =>
    intro i o T z ho hk a w
    match i, ho, hk with
    | 9, ho, hk => have ho' : o9 = o := by simpa using ho
                   subst ho'; cases hk; unfold execOp; rw [h9]; simp [go_sem]
    | 10, ho, hk => have ho' : o10 = o := by simpa using ho
                    subst ho'; cases hk; unfold execOp; rw [h10]; simp [go_sem]
    | 0, _, hk => cases hk
    | 1, _, hk => cases hk
    | 2, _, hk => cases hk
    | 3, _, hk => cases hk
    | 4, _, hk => cases hk
    | 5, _, hk => cases hk
    | 6, _, hk => cases hk
    | 7, _, hk => cases hk
    | 8, _, hk => cases hk
    | 11, _, hk => cases hk
    | 12, _, hk => cases hk
    | 13, _, hk => cases hk
    | i + 14, ho, _ => simp at ho
  case put =>
    intro i o p' s' T z ho hk hp a w b hva hφ hbx
    match i, ho, hk with
    | 0, _, hk => cases hk
    | 1, _, hk => cases hk
    | 2, _, hk => cases hk
    | 3, _, hk => cases hk
    | 4, _, hk => cases hk
    | 5, _, hk => cases hk
    | 6, _, hk => cases hk
    | 7, _, hk => cases hk
    | 8, _, hk => cases hk
    | 9, _, hk => cases hk
    | 10, _, hk => cases hk
    | 13, _, hk => cases hk
    | i + 14, ho, _ => simp at ho
    | 11, ho, hk =>
      have ho' : o11 = o := by simpa using ho
      subst ho'; cases hk; cases hp
      obtain ⟨n, x, l, c, e, _⟩ := hφ
      have e1 : a.eval (.tmp t6) = .agg #[.bool n, .slice x l c] := e
      have e2 : a.eval (.tmp p) = .pointer (some ⟨b, 0, none⟩) := hva
      have d1 := hbx.cell 0
      have d2 := hbx.cell 1
      have f1 := hbx.frozen 0
      have f2 := hbx.frozen 1
      refine ⟨[.bool n, .slice x l c], e, rfl, by simp [isInt], ?_⟩
      unfold execOp; rw [h11]
      dsimp only
      rw [e1, e2]
      simp [go_sem, d1, d2, f1, f2, setFrom]
    | 12, ho, hk =>
      have ho' : o12 = o := by simpa using ho
      subst ho'; cases hk; cases hp
      obtain ⟨n, x, l, c, e, _⟩ := hφ
      have e1 : a.eval (.tmp t7) = .agg #[.bool n, .slice x l c] := e
      have e2 : a.eval (.tmp q) = .pointer (some ⟨b, 0, none⟩) := hva
      have d1 := hbx.cell 0
      have d2 := hbx.cell 1
      have f1 := hbx.frozen 0
      have f2 := hbx.frozen 1
      refine ⟨[.bool n, .slice x l c], e, rfl, by simp [isInt], ?_⟩
      unfold execOp; rw [h12]
      dsimp only
      rw [e1, e2]
      simp [go_sem, d1, d2, f1, f2, setFrom]
  case fin =>
    intro a w blk hI
    have n8 : (#[o0, o1, o2, o3, o4, o5, o6, o7, o8, o9, o10, o11, o12, o13] : Array Oper).size = 14 := rfl
    rw [n8] at hI
    have hf := hI.agree.form
    have e0 : a.eval (.tmp t0) = .pointer (some ⟨g, 0, none⟩) := hI.vals 0 (by decide) (by decide) rfl
    have e1 : a.eval (.tmp t1) = .agg #[u1, u2] := hI.vals 1 (by decide) (by decide) rfl
    have e2 : a.eval (.tmp t2) = .agg #[u1, u2, u3] := hI.vals 2 (by decide) (by decide) rfl
    obtain ⟨n1, x1, l1, k1, e6, a3⟩ : IsI z1 (a.eval (.tmp t6)) w := hI.vals 6 (by decide) (by decide) rfl
    have e8 : a.eval (.tmp t8) = .int .i64 0 := hI.vals 8 (by decide) (by decide) rfl
    have e13 : a.eval (.tmp k) = .int .i64 0 := hI.vals 13 (by decide) (by decide) rfl
    obtain ⟨p1, p2, _, p3⟩ := hI.boxes 9 25 #[.bool false, .slice none 0 0] (by decide) (by decide) rfl
    obtain ⟨us, y1, y2, y3, y4⟩ := p3 (show (11 : Nat) < 14 by decide)
    obtain ⟨q1, q2, _, q3⟩ := hI.boxes 10 25 #[.bool false, .slice none 0 0] (by decide) (by decide) rfl
    have y5 : a.eval (.tmp t6) = .agg us.toArray := y1
    rw [e6] at y5
    cases y5
    have e9 : a.eval (.tmp p) = .pointer (some ⟨blk 9, 0, none⟩) := p1
    have e10 : a.eval (.tmp q) = .pointer (some ⟨blk 10, 0, none⟩) := q1
    have hsl : (flS t0 t1 t2 t3 t4 t5 t6 t7 t8 p q k 25 #[.bool false, .slice none 0 0]).slots 14 = [t0, t1, t2, t3, t4, t5, t6, t7, t8, p, q, k] := rfl
    rw [hsl] at hf
    simp only [List.map_cons, List.map_nil, e0, e1, e2, e6, e8, e9, e10, e13] at hf
    rw [hf]
    exact hend w (blk 9) (blk 10) n1 x1 l1 k1 _ _ _ _ (below_undrew hI.below) p2 y4 a3

end Go.Proofs.YtcgnmihabkgecaaGreat

/- What the operations of drawn regions compute, said of a value and a world. -/
set_option linter.unusedVariables false
namespace Go.Proofs.YtcgnmihabkgecaaGreat
open Go.RowKit Go.Proofs

def IsIL (z : Int) (L : Nat) (v : Value) (w : World) : Prop := ∃ n o l c, v = .agg #[.bool n, .slice o l c] ∧ l ≤ L ∧ Z32 w n o l z
theorem Stable.isIL (base : Nat) (z : Int) (L : Nat) (v : Value) : Stable base (IsIL z L v) :=
  Stable.ex fun n => Stable.ex fun o => Stable.ex fun l => Stable.ex fun c => (Stable.const base _).and ((Stable.const base _).and (Stable.z32 base n o l z))
theorem OutIL.is {W w' : World} {z : Int} {L : Nat} {e : Ending} (h : OutIL W z L e w') : ∃ v, e = .returned v ∧ IsIL z L v w' ∧ Below W.heap.size W w' := by
  obtain ⟨n, o, l, c, rfl, h1, h2, h3⟩ := h
  exact ⟨_, rfl, ⟨n, o, l, c, rfl, h1, h2⟩, h3⟩

theorem Stable.q32 (base : Nat) (neg : Bool) (ao bo : Option Addr) (len bl : Nat) (p : Int) (q : Nat) : Stable base (fun w => Q32 w neg ao len bo bl p q) :=
  (Stable.z32 base neg ao len p).and ((Stable.const base _).or ((Stable.n32 base bo bl q).and (Stable.const base _)))

def IsQL (p : Int) (q L M : Nat) (v : Value) (w : World) : Prop := ∃ n o l c b m d, v = .agg #[.bool n, .slice o l c, .slice b m d] ∧ l ≤ L ∧ m ≤ M ∧ Q32 w n o l b m p q
theorem Stable.isQL (base : Nat) (p : Int) (q L M : Nat) (v : Value) : Stable base (IsQL p q L M v) :=
  Stable.ex fun n => Stable.ex fun o => Stable.ex fun l => Stable.ex fun c => Stable.ex fun b => Stable.ex fun m => Stable.ex fun d =>
    (Stable.const base _).and ((Stable.const base _).and ((Stable.const base _).and (Stable.q32 base n o b l m p q)))
/-- a tuple of a fraction and OK -/
def IsQE (p : Int) (q : Nat) (v : Value) (w : World) : Prop := ∃ n o l c b m d, v = .tuple #[.agg #[.bool n, .slice o l c, .slice b m d], .int .i64 0] ∧ Q32 w n o l b m p q
theorem Stable.isQE (base : Nat) (p : Int) (q : Nat) (v : Value) : Stable base (IsQE p q v) :=
  Stable.ex fun n => Stable.ex fun o => Stable.ex fun l => Stable.ex fun c => Stable.ex fun b => Stable.ex fun m => Stable.ex fun d =>
    (Stable.const base _).and (Stable.q32 base n o b l m p q)
theorem OutQE.is {W w' : World} {p : Int} {q : Nat} {e : Ending} (h : OutQE W p q e w') : ∃ v, e = .returned v ∧ IsQE p q v w' ∧ Below W.heap.size W w' := by
  obtain ⟨n, o, l, c, b, m, d, rfl, h1, h2⟩ := h
  exact ⟨_, rfl, ⟨n, o, l, c, b, m, d, rfl, h1⟩, h2⟩
def IsQ (p : Int) (q : Nat) (v : Value) (w : World) : Prop := ∃ n o l c b m d, v = .agg #[.bool n, .slice o l c, .slice b m d] ∧ Q32 w n o l b m p q
theorem Stable.isQ (base : Nat) (p : Int) (q : Nat) (v : Value) : Stable base (IsQ p q v) :=
  Stable.ex fun n => Stable.ex fun o => Stable.ex fun l => Stable.ex fun c => Stable.ex fun b => Stable.ex fun m => Stable.ex fun d =>
    (Stable.const base _).and (Stable.q32 base n o b l m p q)
/-- a fraction of the specification -/
def IsK (p q : Int) (v : Value) (w : World) : Prop := ∃ s1 o1 l1 c1 s2 o2 l2 c2, v = .agg #[.bool s1, .slice o1 l1 c1, .bool s2, .slice o2 l2 c2] ∧ l1 ≤ c1 ∧ c1 ≤ 9223372036854775807 ∧ l2 ≤ c2 ∧ c2 ≤ 9223372036854775807 ∧ Z16 w s1 o1 l1 p ∧ Z16 w s2 o2 l2 q
theorem Stable.isK (base : Nat) (p q : Int) (v : Value) : Stable base (IsK p q v) :=
  Stable.ex fun s1 => Stable.ex fun o1 => Stable.ex fun l1 => Stable.ex fun c1 => Stable.ex fun s2 => Stable.ex fun o2 => Stable.ex fun l2 => Stable.ex fun c2 =>
    (Stable.const base _).and ((Stable.const base _).and ((Stable.const base _).and ((Stable.const base _).and ((Stable.const base _).and ((Stable.z16 base s1 o1 l1 p).and (Stable.z16 base s2 o2 l2 q))))))
end Go.Proofs.YtcgnmihabkgecaaGreat

/- The region of half that makes blocks. -/
set_option linter.unusedVariables false
set_option linter.unusedSimpArgs false
namespace Go.Proofs.YtcgnmihabkgecaaGreat
open Go.RowKit Go.Proofs

def half_regionS : Shape where
  f := fun i => match i with | 0 => 16 | 1 => 17 | 2 => 18 | 3 => 19 | 4 => 20 | 5 => 21 | 6 => 9 | 7 => 10 | _ => 0
  kd := fun i => match i with | 6 => .box 33 #[.bool false, .slice none 0 0] | 7 => .box 33 #[.bool false, .slice none 0 0] | 8 => .put 6 2 | 9 => .put 7 5 | _ => .val
  need := fun i => match i with | 2 => [0, 1] | 5 => [3, 4] | 8 => [6, 2] | 9 => [7, 5] | _ => []
  st := fun i => match i with | 6 => 8 | 7 => 9 | _ => 0
  src := fun i => match i with | 6 => 2 | 7 => 5 | _ => 0

set_option maxRecDepth 4000 in
set_option maxHeartbeats 2000000 in
/-- the helper half reads its integers -/
theorem half_region {Q : Exit → Act → World → Prop} {id : Nat} {a0 : Act} {W : World} {o0 o1 o2 o3 o4 o5 o6 o7 o8 o9 : Oper} (sx sy : Bool) (ax ay : Option Addr) (lx ly kx ky M : Nat) (xs ys : List Nat) (gX : Nat) (gY : Nat) (ts2 : Array TypeId) (ts5 : Array TypeId)
    (hok : half_regionS.ok #[o0, o1, o2, o3, o4, o5, o6, o7, o8, o9] a0.tmps.size = true)
    (h0 : o0.op = .load 43 (.tmp 3)) (h1 : o1.op = .move (.tmp 2)) (h2 : o2.op = .call { callee := .value (.func 55), args := #[.tmp 16, .tmp 17], argTypes := ts2 }) (h3 : o3.op = .load 43 (.tmp 4)) (h4 : o4.op = .move (.tmp 2)) (h5 : o5.op = .call { callee := .value (.func 55), args := #[.tmp 19, .tmp 20], argTypes := ts5 }) (h6 : o6.op = .alloc 33) (h7 : o7.op = .alloc 33) (h8 : o8.op = .store 33 (.tmp 9) (.tmp 18)) (h9 : o9.op = .store 33 (.tmp 10) (.tmp 21))
    (hrX : a0.eval (.tmp 3) = .pointer (some ⟨gX, 0, none⟩)) (hgX : gX < W.heap.size) (cX_0 : W.cell? ⟨gX, 0, none⟩ = some (.bool sx)) (cX_1 : W.cell? ⟨gX, 1, none⟩ = some (.slice ax lx kx))
    (hrY : a0.eval (.tmp 4) = .pointer (some ⟨gY, 0, none⟩)) (hgY : gY < W.heap.size) (cY_0 : W.cell? ⟨gY, 0, none⟩ = some (.bool sy)) (cY_1 : W.cell? ⟨gY, 1, none⟩ = some (.slice ay ly ky))
    (hmM : a0.eval (.tmp 2) = .int .i64 (M : Int))
    (hsx : Sl .u16 W ax lx xs) (hdx : Dig B16 xs) (hsy : Sl .u16 W ay ly ys) (hdy : Dig B16 ys) (hM : M ≤ 1000000) (hlx : lx ≤ 9223372036854775807) (hly : ly ≤ 9223372036854775807)
    (hend : ∀ w b6 b7 n2 o2 l2 c2 n5 o5 l5 c5 , Below W.heap.size W w → W.heap.size ≤ b6 → Box w b6 33 #[.bool n2, .slice o2 l2 c2] → W.heap.size ≤ b7 → Box w b7 33 #[.bool n5, .slice o5 l5 c5] → b6 ≠ b7 → l2 ≤ c2 → c2 ≤ 9223372036854775807 → Z16 w n2 o2 l2 (rawZ sx xs M) → l5 ≤ c5 → c5 ≤ 9223372036854775807 → Z16 w n5 o5 l5 (rawZ sy ys M) → 
      Q .normal (puts a0 [(16, .agg #[.bool sx, .slice ax lx kx]), (17, .int .i64 (M : Int)), (18, .agg #[.bool n2, .slice o2 l2 c2]), (19, .agg #[.bool sy, .slice ay ly ky]), (20, .int .i64 (M : Int)), (21, .agg #[.bool n5, .slice o5 l5 c5]), (9, .pointer (some ⟨b6, 0, none⟩)), (10, .pointer (some ⟨b7, 0, none⟩))]) w) :
    (Code.region id #[o0, o1, o2, o3, o4, o5, o6, o7, o8, o9] true).wp Tryz.prog Q a0 W := by
  refine Shape.region half_regionS (fun i v w => (fun (v : Value) => (match i with | 0 => v = .agg #[.bool sx, .slice ax lx kx] | 1 => v = .int .i64 (M : Int) | 2 => IsJ (rawZ sx xs M) v w | 3 => v = .agg #[.bool sy, .slice ay ly ky] | 4 => v = .int .i64 (M : Int) | 5 => IsJ (rawZ sy ys M) v w | _ => True : Prop)) (v i)) (by kernel_rfl) hok
    (fun i v v' w _ hj hΦ => by rw [← hj i (.inl rfl)]; exact hΦ) ?stab ?val ?box ?put rfl ?fin
  case stab =>
    intro i v hi
    match i with
    | 0 => exact Stable.const _ _
    | 1 => exact Stable.const _ _
    | 2 => exact Stable.isJ _ _ _
    | 3 => exact Stable.const _ _
    | 4 => exact Stable.const _ _
    | 5 => exact Stable.isJ _ _ _
    | 6 => exact Stable.const _ _
    | 7 => exact Stable.const _ _
    | 8 => exact Stable.const _ _
    | 9 => exact Stable.const _ _
    | i + 10 => exact Stable.const _ _
  case val =>
    intro i o ho hv a w hA hb hz hn K' hK
    have hw := below_undrew hb
    have erX : a.eval (.tmp 3) = .pointer (some ⟨gX, 0, none⟩) := (hA.eval (show 3 ∉ half_regionS.slots 10 by decide)).trans hrX
    have kX_0 := (hb.cell (p := ⟨gX, 0, none⟩) hgX).trans cX_0
    have kX_1 := (hb.cell (p := ⟨gX, 1, none⟩) hgX).trans cX_1
    have erY : a.eval (.tmp 4) = .pointer (some ⟨gY, 0, none⟩) := (hA.eval (show 4 ∉ half_regionS.slots 10 by decide)).trans hrY
    have kY_0 := (hb.cell (p := ⟨gY, 0, none⟩) hgY).trans cY_0
    have kY_1 := (hb.cell (p := ⟨gY, 1, none⟩) hgY).trans cY_1
    have emM : a.eval (.tmp 2) = .int .i64 (M : Int) := (hA.eval (show 2 ∉ half_regionS.slots 10 by decide)).trans hmM
    match i, ho, hv with
    | 0, ho, _ =>
      have ho' : o0 = o := by simpa using ho
      subst ho'
      refine wp_value (v := .agg #[.bool sx, .slice ax lx kx]) (w' := w) ?_ (hK _ _ (Below.refl _ _) (by simp [upd]))
      unfold execOp
      rw [h0]
      dsimp only
      rw [erX]
      simp [go_sem, kX_0, kX_1]
    | 1, ho, _ =>
      have ho' : o1 = o := by simpa using ho
      subst ho'
      exact wp_value (run_move h1 a w) (hK _ _ (Below.refl _ _) (by simp [upd, emM]))
    | 2, ho, _ =>
      have ho' : o2 = o := by simpa using ho
      subst ho'
      have e0 : a.eval (.tmp 16) = .agg #[.bool sx, .slice ax lx kx] := hn 0 (by simp [half_regionS]) rfl
      have e1 : a.eval (.tmp 17) = .int .i64 (M : Int) := hn 1 (by simp [half_regionS]) rfl
      refine wp_call (run_call Tryz.func55 (by kernel_rfl) rfl h2 a w) ?_ (fun v w' hb' hφ => hK v w' hb' (by simpa [upd] using hφ))
      have em : Array.map a.eval #[Operand.tmp 16, Operand.tmp 17] = #[a.eval (.tmp 16), a.eval (.tmp 17)] := by first | (simp only [List.map_toArray, List.map_cons, List.map_nil]; done) | (simp only [List.map_toArray, List.map_cons, List.map_nil]; rfl) | rfl
      rw [em, e0, e1]
      exact (lawOf_any sx ax lx kx xs (M : Int) M w (hsx.keep hw) hdx rfl hM hlx).mono fun e w h => h.is
    | 3, ho, _ =>
      have ho' : o3 = o := by simpa using ho
      subst ho'
      refine wp_value (v := .agg #[.bool sy, .slice ay ly ky]) (w' := w) ?_ (hK _ _ (Below.refl _ _) (by simp [upd]))
      unfold execOp
      rw [h3]
      dsimp only
      rw [erY]
      simp [go_sem, kY_0, kY_1]
    | 4, ho, _ =>
      have ho' : o4 = o := by simpa using ho
      subst ho'
      exact wp_value (run_move h4 a w) (hK _ _ (Below.refl _ _) (by simp [upd, emM]))
    | 5, ho, _ =>
      have ho' : o5 = o := by simpa using ho
      subst ho'
      have e3 : a.eval (.tmp 19) = .agg #[.bool sy, .slice ay ly ky] := hn 3 (by simp [half_regionS]) rfl
      have e4 : a.eval (.tmp 20) = .int .i64 (M : Int) := hn 4 (by simp [half_regionS]) rfl
      refine wp_call (run_call Tryz.func55 (by kernel_rfl) rfl h5 a w) ?_ (fun v w' hb' hφ => hK v w' hb' (by simpa [upd] using hφ))
      have em : Array.map a.eval #[Operand.tmp 19, Operand.tmp 20] = #[a.eval (.tmp 19), a.eval (.tmp 20)] := by first | (simp only [List.map_toArray, List.map_cons, List.map_nil]; done) | (simp only [List.map_toArray, List.map_cons, List.map_nil]; rfl) | rfl
      rw [em, e3, e4]
      exact (lawOf_any sy ay ly ky ys (M : Int) M w (hsy.keep hw) hdy rfl hM hly).mono fun e w h => h.is
    | 6, _, hv => cases hv
    | 7, _, hv => cases hv
    | 8, _, hv => cases hv
    | 9, _, hv => cases hv
    | i + 10, ho, _ => simp at ho
  case box =>
    intro i o T z ho hk a w
    match i, ho, hk with
    | 0, _, hk => cases hk
    | 1, _, hk => cases hk
    | 2, _, hk => cases hk
    | 3, _, hk => cases hk
    | 4, _, hk => cases hk
    | 5, _, hk => cases hk
    | 6, ho, hk =>
      have ho' : o6 = o := by simpa using ho
      subst ho'; cases hk; unfold execOp; rw [h6]; simp [go_sem]
    | 7, ho, hk =>
      have ho' : o7 = o := by simpa using ho
      subst ho'; cases hk; unfold execOp; rw [h7]; simp [go_sem]
    | 8, _, hk => cases hk
    | 9, _, hk => cases hk
    | i + 10, ho, _ => simp at ho
  case put =>
    intro i o p' s' T z ho hk hp a w b hva hφ hbx
    match i, ho, hk with
    | 0, _, hk => cases hk
    | 1, _, hk => cases hk
    | 2, _, hk => cases hk
    | 3, _, hk => cases hk
    | 4, _, hk => cases hk
    | 5, _, hk => cases hk
    | 6, _, hk => cases hk
    | 7, _, hk => cases hk
    | 8, ho, hk =>
      have ho' : o8 = o := by simpa using ho
      subst ho'; cases hk; cases hp
      obtain ⟨n2, o2, l2, c2, e2, x2, z2, y2⟩ := hφ
      have q1 : a.eval (.tmp 18) = .agg #[.bool n2, .slice o2 l2 c2] := e2
      have q2 : a.eval (.tmp 9) = .pointer (some ⟨b, 0, none⟩) := hva
      have u0 := hbx.cell 0
      have f0 := hbx.frozen 0
      have u1 := hbx.cell 1
      have f1 := hbx.frozen 1
      refine ⟨[.bool n2, .slice o2 l2 c2], e2, rfl, by simp [isInt], ?_⟩
      unfold execOp; rw [h8]
      dsimp only
      rw [q1, q2]
      simp [go_sem, u0, f0, u1, f1, setFrom]
    | 9, ho, hk =>
      have ho' : o9 = o := by simpa using ho
      subst ho'; cases hk; cases hp
      obtain ⟨n5, o5, l5, c5, e5, x5, z5, y5⟩ := hφ
      have q1 : a.eval (.tmp 21) = .agg #[.bool n5, .slice o5 l5 c5] := e5
      have q2 : a.eval (.tmp 10) = .pointer (some ⟨b, 0, none⟩) := hva
      have u0 := hbx.cell 0
      have f0 := hbx.frozen 0
      have u1 := hbx.cell 1
      have f1 := hbx.frozen 1
      refine ⟨[.bool n5, .slice o5 l5 c5], e5, rfl, by simp [isInt], ?_⟩
      unfold execOp; rw [h9]
      dsimp only
      rw [q1, q2]
      simp [go_sem, u0, f0, u1, f1, setFrom]
    | i + 10, ho, _ => simp at ho
  case fin =>
    intro a w blk hI
    have n8 : (#[o0, o1, o2, o3, o4, o5, o6, o7, o8, o9] : Array Oper).size = 10 := rfl
    rw [n8] at hI
    have hf := hI.agree.form
    have e0 : a.eval (.tmp 16) = .agg #[.bool sx, .slice ax lx kx] := hI.vals 0 (by decide) (by decide) rfl
    have e1 : a.eval (.tmp 17) = .int .i64 (M : Int) := hI.vals 1 (by decide) (by decide) rfl
    obtain ⟨n2, o2, l2, c2, e2, x2, z2, y2⟩ : IsJ (rawZ sx xs M) (a.eval (.tmp 18)) w := hI.vals 2 (by decide) (by decide) rfl
    have e3 : a.eval (.tmp 19) = .agg #[.bool sy, .slice ay ly ky] := hI.vals 3 (by decide) (by decide) rfl
    have e4 : a.eval (.tmp 20) = .int .i64 (M : Int) := hI.vals 4 (by decide) (by decide) rfl
    obtain ⟨n5, o5, l5, c5, e5, x5, z5, y5⟩ : IsJ (rawZ sy ys M) (a.eval (.tmp 21)) w := hI.vals 5 (by decide) (by decide) rfl
    obtain ⟨p6, r6, _, k6⟩ := hI.boxes 6 33 #[.bool false, .slice none 0 0] (by decide) (by decide) rfl
    obtain ⟨us6, i6, _, _, j6⟩ := k6 (show (8 : Nat) < 10 by decide)
    have y_6 : a.eval (.tmp 18) = .agg us6.toArray := i6
    rw [e2] at y_6
    cases y_6
    have e6 : a.eval (.tmp 9) = .pointer (some ⟨blk 6, 0, none⟩) := p6
    obtain ⟨p7, r7, _, k7⟩ := hI.boxes 7 33 #[.bool false, .slice none 0 0] (by decide) (by decide) rfl
    obtain ⟨us7, i7, _, _, j7⟩ := k7 (show (9 : Nat) < 10 by decide)
    have y_7 : a.eval (.tmp 21) = .agg us7.toArray := i7
    rw [e5] at y_7
    cases y_7
    have e7 : a.eval (.tmp 10) = .pointer (some ⟨blk 7, 0, none⟩) := p7
    have hsl : half_regionS.slots 10 = [16, 17, 18, 19, 20, 21, 9, 10] := rfl
    rw [hsl] at hf
    simp only [List.map_cons, List.map_nil, e0, e1, e2, e3, e4, e5, e6, e7] at hf
    rw [hf]
    exact hend w (blk 6) (blk 7) n2 o2 l2 c2 n5 o5 l5 c5  (below_undrew hI.below) r6 j6 r7 j7 (hI.apart 6 7 _ _ _ _ (by decide) (by decide) (by decide) (by decide) rfl rfl (by decide)) x2 z2 y2 x5 z5 y5
end Go.Proofs.YtcgnmihabkgecaaGreat
