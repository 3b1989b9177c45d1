/- Part 8 of the contracts: TwoTwo, Nested, Fine, Ring, Shift, DivM, Est. -/
import Derived.IntWalk
import Derived.Test.YtcgnmihabkgecaaPart7

/- Two more regions whose blocks may be made in any order: 'x, y, ok := two(of(a, n), of(b, n))' and 'i, e := x.f(y.g())'. -/
set_option linter.unusedVariables false
namespace Go.Proofs.Ytcgnmihabkgecaa
open Go.RowKit Go.Proofs

/-- v is an integer of the program, not long -/
def IsS (z : Int) (v : Value) (w : World) : Prop := ∃ n o l c, v = .agg #[.bool n, .slice o l c] ∧ l ≤ 512 ∧ Z32 w n o l z
def IsTwo (x y : Int) (v : Value) (w : World) : Prop := ∃ na ao la ca nb bo lb cb, v = .tuple #[.agg #[.bool na, .slice ao la ca], .agg #[.bool nb, .slice bo lb cb], .bool true] ∧ la ≤ 512 ∧ lb ≤ 512 ∧ Z32 w na ao la x ∧ Z32 w nb bo lb y
/-- v is an integer and no error -/
def IsE (z : Int) (v : Value) (w : World) : Prop := ∃ n o l c, v = .tuple #[.agg #[.bool n, .slice o l c], .int .i64 0] ∧ l ≤ 512 ∧ Z32 w n o l z

theorem Stable.isS (base : Nat) (z : Int) (v : Value) : Stable base (IsS z v) :=
  Stable.ex fun n => Stable.ex fun o => Stable.ex fun l => Stable.ex fun c => (Stable.const base _).and ((Stable.const base _).and (Stable.z32 base n o l z))
theorem Stable.isE (base : Nat) (z : Int) (v : Value) : Stable base (IsE z v) :=
  Stable.ex fun n => Stable.ex fun o => Stable.ex fun l => Stable.ex fun c => (Stable.const base _).and ((Stable.const base _).and (Stable.z32 base n o l z))
theorem Stable.isTwo (base : Nat) (x y : Int) (v : Value) : Stable base (IsTwo x y v) :=
  Stable.ex fun na => Stable.ex fun ao => Stable.ex fun la => Stable.ex fun ca => Stable.ex fun nb => Stable.ex fun bo => Stable.ex fun lb => Stable.ex fun cb =>
    (Stable.const base _).and ((Stable.const base _).and ((Stable.const base _).and ((Stable.z32 base na ao la x).and (Stable.z32 base nb bo lb y))))

theorem OutF.noErr {W w' : World} {z : Int} {e : Ending} (h : OutF W z e w') (hf : Fits z) : ∃ v, e = .returned v ∧ IsE z v w' ∧ Below W.heap.size W w' := by
  rcases h with ⟨_, n, o, l, c, rfl, hz, hb⟩ | ⟨hn, _⟩
  · exact ⟨_, rfl, ⟨n, o, l, c, rfl, fits_len hz hf, hz⟩, hb⟩
  · exact absurd hf hn

theorem Two.is {x y : Int} {W w' : World} {e : Ending} (h : Two x y W e w') : ∃ v, e = .returned v ∧ IsTwo x y v w' ∧ Below W.heap.size W w' := by
  obtain ⟨na, ao, la, ca, nb, bo, lb, cb, rfl, h1, h2, h3, h4, h5⟩ := h
  exact ⟨_, rfl, ⟨na, ao, la, ca, nb, bo, lb, cb, rfl, h1, h2, h3, h4⟩, h5⟩

theorem OutI.is {W w' : World} {z : Int} {e : Ending} (h : OutI W z e w') : ∃ v, e = .returned v ∧ IsI z v w' ∧ Below W.heap.size W w' := by
  obtain ⟨n, o, l, c, rfl, h3, h4⟩ := h
  exact ⟨_, rfl, ⟨n, o, l, c, rfl, h3⟩, h4⟩

theorem run_move {P : Program} {o : Oper} {t : Nat} (h : o.op = .move (.tmp t)) (a : Act) (w : World) : (execOp a.eval o).run P w = .ok (.value (a.eval (.tmp t))) w := by
  unfold execOp
  rw [h]
  rfl
theorem run_assign {P : Program} {o : Oper} {t : Nat} (h : o.op = .assign (.tmp t)) (a : Act) (w : World) : (execOp a.eval o).run P w = .ok (.value (a.eval (.tmp t))) w := by
  unfold execOp
  rw [h]
  rfl
theorem run_extract {P : Program} {o : Oper} {t i : Nat} {vs : Array Value} {v : Value} (h : o.op = .extract (.tmp t) i) {a : Act} (he : a.eval (.tmp t) = .tuple vs) (hv : vs[i]? = some v) (w : World) : (execOp a.eval o).run P w = .ok (.value v) w := by
  unfold execOp
  rw [h]
  dsimp only
  rw [he]
  simp [go_sem, Instr.extract, hv]

def ttS (t0 t1 t2 t3 t4 t5 t6 t7 t8 p q k : Nat) (T : Nat) (z : Array Value) : Shape where
  f := fun i => match i with | 0 => t0 | 1 => t1 | 2 => t2 | 3 => t3 | 4 => t4 | 5 => t5 | 6 => t6 | 7 => t7 | 8 => t8 | 9 => p | 10 => q | 13 => k | _ => 0
  kd := fun i => match i with | 9 => .box T z | 10 => .box T z | 11 => .put 9 6 | 12 => .put 10 7 | _ => .val
  need := fun i => match i with | 1 => [0] | 3 => [2] | 4 => [1, 3] | 5 => [4] | 6 => [5] | 7 => [5] | 8 => [5] | 11 => [9, 6] | 12 => [10, 7] | 13 => [8] | _ => []
  st := fun i => match i with | 9 => 11 | _ => 12
  src := fun i => match i with | 9 => 6 | _ => 7

def ttΦ (r1 r2 : Value) (z1 z2 : Int) (i : Nat) (v : Value) (w : World) : Prop :=
  match i with | 0 => v = r1 | 1 => IsJ z1 v w | 2 => v = r2 | 3 => IsJ z2 v w | 4 => IsTwo z1 z2 v w | 5 => IsTwo z1 z2 v w | 6 => IsS z1 v w | 7 => IsS z2 v w | _ => v = .bool true

set_option maxHeartbeats 2000000 in
theorem two_two {Q : Exit → Act → World → Prop} {id : Nat} {a0 : Act} {W : World} {o0 o1 o2 o3 o4 o5 o6 o7 o8 o9 o10 o11 o12 o13 : Oper} (t0 t1 t2 t3 t4 t5 t6 t7 t8 p q k r s : Nat) (f f2 : FuncId) (K : Value) (u1 u2 v1 v2 : Value) (g h : Nat) (z1 z2 : Int) (ts ts2 : Array TypeId) {fn fn2 : Func} {cb cb2 : Code}
    (hfn : Try.prog.funcs[f]? = some fn) (hname : (fn.name == "runtime.NumGoroutine") = false) (hbody : fn.body = some cb)
    (hfn2 : Try.prog.funcs[f2]? = some fn2) (hname2 : (fn2.name == "runtime.NumGoroutine") = false) (hbody2 : fn2.body = some cb2)
    (hok : (ttS t0 t1 t2 t3 t4 t5 t6 t7 t8 p q k 27 #[.bool false, .slice none 0 0]).ok #[o0, o1, o2, o3, o4, o5, o6, o7, o8, o9, o10, o11, o12, o13] a0.tmps.size = true)
    (h0 : o0.op = .load 24 (.tmp r)) (h1 : o1.op = .call { callee := .value (.func f), args := #[.tmp t0, .const K], argTypes := ts })
    (h2 : o2.op = .load 24 (.tmp s)) (h3 : o3.op = .call { callee := .value (.func f), args := #[.tmp t2, .const K], argTypes := ts })
    (h4 : o4.op = .call { callee := .value (.func f2), args := #[.tmp t1, .tmp t3], argTypes := ts2 }) (h5 : o5.op = .move (.tmp t4))
    (h6 : o6.op = .extract (.tmp t5) 0) (h7 : o7.op = .extract (.tmp t5) 1) (h8 : o8.op = .extract (.tmp t5) 2)
    (h9 : o9.op = .alloc 27) (h10 : o10.op = .alloc 27) (h11 : o11.op = .store 27 (.tmp p) (.tmp t6)) (h12 : o12.op = .store 27 (.tmp q) (.tmp t7)) (h13 : o13.op = .assign (.tmp t8))
    (hr : a0.eval (.tmp r) = .pointer (some ⟨g, 0, none⟩)) (hs : a0.eval (.tmp s) = .pointer (some ⟨h, 0, none⟩))
    (hrs : r ∉ [t0, t1, t2, t3, t4, t5, t6, t7, t8, p, q, k]) (hss : s ∉ [t0, t1, t2, t3, t4, t5, t6, t7, t8, p, q, k]) (hg : g < W.heap.size) (hh : h < W.heap.size)
    (c1 : W.cell? ⟨g, 0, none⟩ = some u1) (c2 : W.cell? ⟨g, 1, none⟩ = some u2) (c3 : W.cell? ⟨h, 0, none⟩ = some v1) (c4 : W.cell? ⟨h, 1, none⟩ = some v2)
    (hc1 : ∀ w, Below W.heap.size W w → W.heap.size ≤ w.heap.size → Calls Try.prog f #[.agg #[u1, u2], K] w (OutJ w z1))
    (hc2 : ∀ w, Below W.heap.size W w → W.heap.size ≤ w.heap.size → Calls Try.prog f #[.agg #[v1, v2], K] w (OutJ w z2))
    (hc3 : ∀ w n1 x1 l1 k1 n2 x2 l2 k2, Z16 w n1 x1 l1 z1 → Z16 w n2 x2 l2 z2 → Calls Try.prog f2 #[.agg #[.bool n1, .slice x1 l1 k1], .agg #[.bool n2, .slice x2 l2 k2]] w (Two z1 z2 w))
    (hend : ∀ w b1 b2 n1 x1 l1 k1 n2 x2 l2 k2 d1 d3 d4 d5, Below W.heap.size W w → W.heap.size ≤ b1 → W.heap.size ≤ b2 → b1 ≠ b2 → Box w b1 27 #[.bool n1, .slice x1 l1 k1] → Box w b2 27 #[.bool n2, .slice x2 l2 k2] →
      l1 ≤ 512 → l2 ≤ 512 → Z32 w n1 x1 l1 z1 → Z32 w n2 x2 l2 z2 →
      Q .normal (puts a0 [(t0, .agg #[u1, u2]), (t1, d1), (t2, .agg #[v1, v2]), (t3, d3), (t4, d4), (t5, d5), (t6, .agg #[.bool n1, .slice x1 l1 k1]), (t7, .agg #[.bool n2, .slice x2 l2 k2]), (t8, .bool true),
        (p, .pointer (some ⟨b1, 0, none⟩)), (q, .pointer (some ⟨b2, 0, none⟩)), (k, .bool true)]) w) :
    (Code.region id #[o0, o1, o2, o3, o4, o5, o6, o7, o8, o9, o10, o11, o12, o13] true).wp Try.prog Q a0 W := by
  refine Shape.region (ttS t0 t1 t2 t3 t4 t5 t6 t7 t8 p q k 27 #[.bool false, .slice none 0 0]) (fun i v w => ttΦ (.agg #[u1, u2]) (.agg #[v1, v2]) z1 z2 i (v i) w) (by kernel_rfl) hok
    (fun i v v' w _ hj hΦ => by rw [← hj i (.inl rfl)]; exact hΦ) ?stab ?val ?box ?put rfl ?fin
  case stab =>
    intro i v hi
    match i with
    | 0 => exact Stable.const _ _
    | 1 => exact Stable.isJ _ _ _
    | 2 => exact Stable.const _ _
    | 3 => exact Stable.isJ _ _ _
    | 4 => exact Stable.isTwo _ _ _ _
    | 5 => exact Stable.isTwo _ _ _ _
    | 6 => exact Stable.isS _ _ _
    | 7 => exact Stable.isS _ _ _
    | i + 8 => exact Stable.const _ _
  case val =>
    intro i o ho hv a w hA hb hz hn K' hK
    match i, ho, hv with
    | 0, ho, _ =>
      have ho' : o0 = o := by simpa using ho
      subst ho'
      have e : a.eval (.tmp r) = .pointer (some ⟨g, 0, none⟩) := (hA.eval hrs).trans hr
      refine wp_value (v := .agg #[u1, u2]) (w' := w) ?_ (hK _ _ (Below.refl _ _) (by simp [upd, ttΦ]))
      have d1 := (hb.cell (p := ⟨g, 0, none⟩) hg).trans c1
      have d2 := (hb.cell (p := ⟨g, 1, none⟩) hg).trans c2
      unfold execOp
      rw [h0]
      dsimp only
      rw [e]
      simp [go_sem, d1, d2]
    | 1, ho, _ =>
      have ho' : o1 = o := by simpa using ho
      subst ho'
      have e := hn 0 (by simp [ttS]) rfl
      refine wp_call (run_call hfn hname hbody h1 a w) ((?_ : Calls _ _ _ _ _).mono fun e w' h => OutJ.is h) (fun v w' hb' hφ => hK v w' hb' (by simpa [upd, ttΦ] using hφ))
      have e2 : a.eval (.tmp t0) = .agg #[u1, u2] := e
      have em : Array.map a.eval #[Operand.tmp t0, Operand.const K] = #[a.eval (.tmp t0), K] := by simp only [List.map_toArray, List.map_cons, List.map_nil]; rfl
      rw [em, e2]
      exact hc1 w (below_undrew hb) hz
    | 2, ho, _ =>
      have ho' : o2 = o := by simpa using ho
      subst ho'
      have e : a.eval (.tmp s) = .pointer (some ⟨h, 0, none⟩) := (hA.eval hss).trans hs
      refine wp_value (v := .agg #[v1, v2]) (w' := w) ?_ (hK _ _ (Below.refl _ _) (by simp [upd, ttΦ]))
      have d1 := (hb.cell (p := ⟨h, 0, none⟩) hh).trans c3
      have d2 := (hb.cell (p := ⟨h, 1, none⟩) hh).trans c4
      unfold execOp
      rw [h2]
      dsimp only
      rw [e]
      simp [go_sem, d1, d2]
    | 3, ho, _ =>
      have ho' : o3 = o := by simpa using ho
      subst ho'
      have e := hn 2 (by simp [ttS]) rfl
      refine wp_call (run_call hfn hname hbody h3 a w) ((?_ : Calls _ _ _ _ _).mono fun e w' h => OutJ.is h) (fun v w' hb' hφ => hK v w' hb' (by simpa [upd, ttΦ] using hφ))
      have e2 : a.eval (.tmp t2) = .agg #[v1, v2] := e
      have em : Array.map a.eval #[Operand.tmp t2, Operand.const K] = #[a.eval (.tmp t2), K] := by simp only [List.map_toArray, List.map_cons, List.map_nil]; rfl
      rw [em, e2]
      exact hc2 w (below_undrew hb) hz
    | 4, ho, _ =>
      have ho' : o4 = o := by simpa using ho
      subst ho'
      obtain ⟨n1, x1, l1, k1, e1, _, _, y1⟩ : IsJ z1 (a.eval (.tmp t1)) w := hn 1 (by simp [ttS]) rfl
      obtain ⟨n2, x2, l2, k2, e2, _, _, y2⟩ : IsJ z2 (a.eval (.tmp t3)) w := hn 3 (by simp [ttS]) rfl
      refine wp_call (run_call hfn2 hname2 hbody2 h4 a w) ((?_ : Calls _ _ _ _ _).mono fun e w' h => Two.is h) (fun v w' hb' hφ => hK v w' hb' (by simpa [upd, ttΦ] using hφ))
      have em : Array.map a.eval #[Operand.tmp t1, Operand.tmp t3] = #[a.eval (.tmp t1), a.eval (.tmp t3)] := by simp only [List.map_toArray, List.map_cons, List.map_nil]
      rw [em, e1, e2]
      exact hc3 w n1 x1 l1 k1 n2 x2 l2 k2 y1 y2
    | 5, ho, _ =>
      have ho' : o5 = o := by simpa using ho
      subst ho'
      have e : IsTwo z1 z2 (a.eval (.tmp t4)) w := hn 4 (by simp [ttS]) rfl
      exact wp_value (run_move h5 a w) (hK _ _ (Below.refl _ _) (by simpa [upd, ttΦ] using e))
    | 6, ho, _ =>
      have ho' : o6 = o := by simpa using ho
      subst ho'
      obtain ⟨na, ao, la, ca, nb, bo, lb, cb, e, m1, m2, y1, y2⟩ : IsTwo z1 z2 (a.eval (.tmp t5)) w := hn 5 (by simp [ttS]) rfl
      exact wp_value (run_extract h6 e rfl w) (hK _ _ (Below.refl _ _) (by simp only [upd, ttΦ, if_true]; exact ⟨na, ao, la, ca, rfl, m1, y1⟩))
    | 7, ho, _ =>
      have ho' : o7 = o := by simpa using ho
      subst ho'
      obtain ⟨na, ao, la, ca, nb, bo, lb, cb, e, m1, m2, y1, y2⟩ : IsTwo z1 z2 (a.eval (.tmp t5)) w := hn 5 (by simp [ttS]) rfl
      exact wp_value (run_extract h7 e rfl w) (hK _ _ (Below.refl _ _) (by simp only [upd, ttΦ, if_true]; exact ⟨nb, bo, lb, cb, rfl, m2, y2⟩))
    | 8, ho, _ =>
      have ho' : o8 = o := by simpa using ho
      subst ho'
      obtain ⟨na, ao, la, ca, nb, bo, lb, cb, e, m1, m2, y1, y2⟩ : IsTwo z1 z2 (a.eval (.tmp t5)) w := hn 5 (by simp [ttS]) rfl
      exact wp_value (run_extract h8 e rfl w) (hK _ _ (Below.refl _ _) (by simp [upd, ttΦ]))
    | 13, ho, _ =>
      have ho' : o13 = o := by simpa using ho
      subst ho'
      have e : a.eval (.tmp t8) = .bool true := hn 8 (by simp [ttS]) rfl
      exact wp_value (run_assign h13 a w) (hK _ _ (Below.refl _ _) (by simpa [upd, ttΦ] using e))
    | 9, _, hv => cases hv
    | 10, _, hv => cases hv
    | 11, _, hv => cases hv
    | 12, _, hv => cases hv
    | i + 14, ho, _ => simp at ho
  case box =>
    intro i o T z ho hk a w
    match i, ho, hk with
    | 9, ho, hk => have ho' : o9 = o := by simpa using ho
                   subst ho'; cases hk; unfold execOp; rw [h9]; simp [go_sem]
    | 10, ho, hk => have ho' : o10 = o := by simpa using ho
                    subst ho'; cases hk; unfold execOp; rw [h10]; simp [go_sem]
    | 0, _, hk => cases hk
    | 1, _, hk => cases hk
    | 2, _, hk => cases hk
    | 3, _, hk => cases hk
    | 4, _, hk => cases hk
    | 5, _, hk => cases hk
    | 6, _, hk => cases hk
    | 7, _, hk => cases hk
    | 8, _, hk => cases hk
    | 11, _, hk => cases hk
    | 12, _, hk => cases hk
    | 13, _, hk => cases hk
    | i + 14, ho, _ => simp at ho
  case put =>
    intro i o p' s' T z ho hk hp a w b hva hφ hbx
    match i, ho, hk with
    | 0, _, hk => cases hk
    | 1, _, hk => cases hk
    | 2, _, hk => cases hk
    | 3, _, hk => cases hk
    | 4, _, hk => cases hk
    | 5, _, hk => cases hk
    | 6, _, hk => cases hk
    | 7, _, hk => cases hk
    | 8, _, hk => cases hk
    | 9, _, hk => cases hk
    | 10, _, hk => cases hk
    | 13, _, hk => cases hk
    | i + 14, ho, _ => simp at ho
    | 11, ho, hk =>
      have ho' : o11 = o := by simpa using ho
      subst ho'; cases hk; cases hp
      obtain ⟨n, x, l, c, e, _⟩ := hφ
      have e1 : a.eval (.tmp t6) = .agg #[.bool n, .slice x l c] := e
      have e2 : a.eval (.tmp p) = .pointer (some ⟨b, 0, none⟩) := hva
      have d1 := hbx.cell 0
      have d2 := hbx.cell 1
      have f1 := hbx.frozen 0
      have f2 := hbx.frozen 1
      refine ⟨[.bool n, .slice x l c], e, rfl, by simp [isInt], ?_⟩
      unfold execOp; rw [h11]
      dsimp only
      rw [e1, e2]
      simp [go_sem, d1, d2, f1, f2, setFrom]
    | 12, ho, hk =>
      have ho' : o12 = o := by simpa using ho
      subst ho'; cases hk; cases hp
      obtain ⟨n, x, l, c, e, _⟩ := hφ
      have e1 : a.eval (.tmp t7) = .agg #[.bool n, .slice x l c] := e
      have e2 : a.eval (.tmp q) = .pointer (some ⟨b, 0, none⟩) := hva
      have d1 := hbx.cell 0
      have d2 := hbx.cell 1
      have f1 := hbx.frozen 0
      have f2 := hbx.frozen 1
      refine ⟨[.bool n, .slice x l c], e, rfl, by simp [isInt], ?_⟩
      unfold execOp; rw [h12]
      dsimp only
      rw [e1, e2]
      simp [go_sem, d1, d2, f1, f2, setFrom]
  case fin =>
    intro a w blk hI
    have n8 : (#[o0, o1, o2, o3, o4, o5, o6, o7, o8, o9, o10, o11, o12, o13] : Array Oper).size = 14 := rfl
    rw [n8] at hI
    have hf := hI.agree.form
    have e0 : a.eval (.tmp t0) = .agg #[u1, u2] := hI.vals 0 (by decide) (by decide) rfl
    have e2 : a.eval (.tmp t2) = .agg #[v1, v2] := hI.vals 2 (by decide) (by decide) rfl
    obtain ⟨n1, x1, l1, k1, e6, a1, a3⟩ : IsS z1 (a.eval (.tmp t6)) w := hI.vals 6 (by decide) (by decide) rfl
    obtain ⟨n2, x2, l2, k2, e7, b1, b3⟩ : IsS z2 (a.eval (.tmp t7)) w := hI.vals 7 (by decide) (by decide) rfl
    have e8 : a.eval (.tmp t8) = .bool true := hI.vals 8 (by decide) (by decide) rfl
    have e13 : a.eval (.tmp k) = .bool true := hI.vals 13 (by decide) (by decide) rfl
    obtain ⟨p1, p2, _, p3⟩ := hI.boxes 9 27 #[.bool false, .slice none 0 0] (by decide) (by decide) rfl
    obtain ⟨us, y1, y2, y3, y4⟩ := p3 (show (11 : Nat) < 14 by decide)
    obtain ⟨q1, q2, _, q3⟩ := hI.boxes 10 27 #[.bool false, .slice none 0 0] (by decide) (by decide) rfl
    obtain ⟨vs, w1, w2, w3, w4⟩ := q3 (show (12 : Nat) < 14 by decide)
    have y5 : a.eval (.tmp t6) = .agg us.toArray := y1
    have w5 : a.eval (.tmp t7) = .agg vs.toArray := w1
    rw [e6] at y5
    rw [e7] at w5
    cases y5
    cases w5
    have e9 : a.eval (.tmp p) = .pointer (some ⟨blk 9, 0, none⟩) := p1
    have e10 : a.eval (.tmp q) = .pointer (some ⟨blk 10, 0, none⟩) := q1
    have hsl : (ttS t0 t1 t2 t3 t4 t5 t6 t7 t8 p q k 27 #[.bool false, .slice none 0 0]).slots 14 = [t0, t1, t2, t3, t4, t5, t6, t7, t8, p, q, k] := rfl
    rw [hsl] at hf
    simp only [List.map_cons, List.map_nil, e0, e2, e6, e7, e8, e9, e10, e13] at hf
    rw [hf]
    exact hend w (blk 9) (blk 10) n1 x1 l1 k1 n2 x2 l2 k2 _ _ _ _ (below_undrew hI.below) p2 q2 (hI.apart 9 10 _ _ _ _ (by decide) (by decide) (by decide) (by decide) rfl rfl (by decide)) y4 w4 a1 b1 a3 b3
end Go.Proofs.Ytcgnmihabkgecaa

/- A region 'i, e := x.f(y.g())', whose block may be made at any time. -/
set_option linter.unusedVariables false
namespace Go.Proofs.Ytcgnmihabkgecaa
open Go.RowKit Go.Proofs

def neS (t0 t1 t2 t3 t4 t5 t6 p k : Nat) (T : Nat) (z : Array Value) : Shape where
  f := fun i => match i with | 0 => t0 | 1 => t1 | 2 => t2 | 3 => t3 | 4 => t4 | 5 => t5 | 6 => t6 | 7 => p | 9 => k | _ => 0
  kd := fun i => match i with | 7 => .box T z | 8 => .put 7 5 | _ => .val
  need := fun i => match i with | 2 => [1] | 3 => [0, 2] | 4 => [3] | 5 => [4] | 6 => [4] | 8 => [7, 5] | 9 => [6] | _ => []
  st := fun _ => 8
  src := fun _ => 5

def neΦ (r1 r2 : Value) (zn z : Int) (i : Nat) (v : Value) (w : World) : Prop :=
  match i with | 0 => v = r1 | 1 => v = r2 | 2 => IsS zn v w | 3 => IsE z v w | 4 => IsE z v w | 5 => IsS z v w | _ => v = .int .i64 0

set_option maxHeartbeats 2000000 in
theorem nested {Q : Exit → Act → World → Prop} {id : Nat} {a0 : Act} {W : World} {o0 o1 o2 o3 o4 o5 o6 o7 o8 o9 : Oper} (t0 t1 t2 t3 t4 t5 t6 p k r s : Nat) (f f2 : FuncId) (u1 u2 v1 v2 : Value) (g h : Nat) (zn z : Int) (ts ts2 : Array TypeId) {fn fn2 : Func} {cb cb2 : Code}
    (hfn : Try.prog.funcs[f]? = some fn) (hname : (fn.name == "runtime.NumGoroutine") = false) (hbody : fn.body = some cb)
    (hfn2 : Try.prog.funcs[f2]? = some fn2) (hname2 : (fn2.name == "runtime.NumGoroutine") = false) (hbody2 : fn2.body = some cb2)
    (hok : (neS t0 t1 t2 t3 t4 t5 t6 p k 27 #[.bool false, .slice none 0 0]).ok #[o0, o1, o2, o3, o4, o5, o6, o7, o8, o9] a0.tmps.size = true)
    (h0 : o0.op = .load 27 (.tmp r)) (h1 : o1.op = .load 27 (.tmp s)) (h2 : o2.op = .call { callee := .value (.func f), args := #[.tmp t1], argTypes := ts })
    (h3 : o3.op = .call { callee := .value (.func f2), args := #[.tmp t0, .tmp t2], argTypes := ts2 }) (h4 : o4.op = .move (.tmp t3))
    (h5 : o5.op = .extract (.tmp t4) 0) (h6 : o6.op = .extract (.tmp t4) 1)
    (h7 : o7.op = .alloc 27) (h8 : o8.op = .store 27 (.tmp p) (.tmp t5)) (h9 : o9.op = .assign (.tmp t6))
    (hr : a0.eval (.tmp r) = .pointer (some ⟨g, 0, none⟩)) (hs : a0.eval (.tmp s) = .pointer (some ⟨h, 0, none⟩))
    (hrs : r ∉ [t0, t1, t2, t3, t4, t5, t6, p, k]) (hss : s ∉ [t0, t1, t2, t3, t4, t5, t6, p, k]) (hg : g < W.heap.size) (hh : h < W.heap.size)
    (c1 : W.cell? ⟨g, 0, none⟩ = some u1) (c2 : W.cell? ⟨g, 1, none⟩ = some u2) (c3 : W.cell? ⟨h, 0, none⟩ = some v1) (c4 : W.cell? ⟨h, 1, none⟩ = some v2)
    (hc1 : ∀ w, Below W.heap.size W w → Calls Try.prog f #[.agg #[v1, v2]] w (fun e w' => ∃ v, e = .returned v ∧ IsS zn v w' ∧ Below w.heap.size w w'))
    (hc2 : ∀ w n x l c, Below W.heap.size W w → l ≤ 512 → Z32 w n x l zn → Calls Try.prog f2 #[.agg #[u1, u2], .agg #[.bool n, .slice x l c]] w (fun e w' => ∃ v, e = .returned v ∧ IsE z v w' ∧ Below w.heap.size w w'))
    (hend : ∀ w b1 n x l c d2 d3 d4, Below W.heap.size W w → W.heap.size ≤ b1 → Box w b1 27 #[.bool n, .slice x l c] → l ≤ 512 → Z32 w n x l z →
      Q .normal (puts a0 [(t0, .agg #[u1, u2]), (t1, .agg #[v1, v2]), (t2, d2), (t3, d3), (t4, d4), (t5, .agg #[.bool n, .slice x l c]), (t6, .int .i64 0), (p, .pointer (some ⟨b1, 0, none⟩)), (k, .int .i64 0)]) w) :
    (Code.region id #[o0, o1, o2, o3, o4, o5, o6, o7, o8, o9] true).wp Try.prog Q a0 W := by
  refine Shape.region (neS t0 t1 t2 t3 t4 t5 t6 p k 27 #[.bool false, .slice none 0 0]) (fun i v w => neΦ (.agg #[u1, u2]) (.agg #[v1, v2]) zn z i (v i) w) (by kernel_rfl) hok
    (fun i v v' w _ hj hΦ => by rw [← hj i (.inl rfl)]; exact hΦ) ?stab ?val ?box ?put rfl ?fin
  case stab =>
    intro i v hi
    match i with
    | 0 => exact Stable.const _ _
    | 1 => exact Stable.const _ _
    | 2 => exact Stable.isS _ _ _
    | 3 => exact Stable.isE _ _ _
    | 4 => exact Stable.isE _ _ _
    | 5 => exact Stable.isS _ _ _
    | i + 6 => exact Stable.const _ _
  case val =>
    intro i o ho hv a w hA hb hz hn K' hK
    match i, ho, hv with
    | 0, ho, _ =>
      have ho' : o0 = o := by simpa using ho
      subst ho'
      have e : a.eval (.tmp r) = .pointer (some ⟨g, 0, none⟩) := (hA.eval hrs).trans hr
      refine wp_value (v := .agg #[u1, u2]) (w' := w) ?_ (hK _ _ (Below.refl _ _) (by simp [upd, neΦ]))
      have d1 := (hb.cell (p := ⟨g, 0, none⟩) hg).trans c1
      have d2 := (hb.cell (p := ⟨g, 1, none⟩) hg).trans c2
      unfold execOp
      rw [h0]
      dsimp only
      rw [e]
      simp [go_sem, d1, d2]
    | 1, ho, _ =>
      have ho' : o1 = o := by simpa using ho
      subst ho'
      have e : a.eval (.tmp s) = .pointer (some ⟨h, 0, none⟩) := (hA.eval hss).trans hs
      refine wp_value (v := .agg #[v1, v2]) (w' := w) ?_ (hK _ _ (Below.refl _ _) (by simp [upd, neΦ]))
      have d1 := (hb.cell (p := ⟨h, 0, none⟩) hh).trans c3
      have d2 := (hb.cell (p := ⟨h, 1, none⟩) hh).trans c4
      unfold execOp
      rw [h1]
      dsimp only
      rw [e]
      simp [go_sem, d1, d2]
    | 2, ho, _ =>
      have ho' : o2 = o := by simpa using ho
      subst ho'
      have e : a.eval (.tmp t1) = .agg #[v1, v2] := hn 1 (by simp [neS]) rfl
      refine wp_call (run_call hfn hname hbody h2 a w) ?_ (fun v w' hb' hφ => hK v w' hb' (by simpa [upd, neΦ] using hφ))
      have em : Array.map a.eval #[Operand.tmp t1] = #[a.eval (.tmp t1)] := by simp only [List.map_toArray, List.map_cons, List.map_nil]
      rw [em, e]
      exact hc1 w (below_undrew hb)
    | 3, ho, _ =>
      have ho' : o3 = o := by simpa using ho
      subst ho'
      have e : a.eval (.tmp t0) = .agg #[u1, u2] := hn 0 (by simp [neS]) rfl
      obtain ⟨n, x, l, c, e2, y1, y2⟩ : IsS zn (a.eval (.tmp t2)) w := hn 2 (by simp [neS]) rfl
      refine wp_call (run_call hfn2 hname2 hbody2 h3 a w) ?_ (fun v w' hb' hφ => hK v w' hb' (by simpa [upd, neΦ] using hφ))
      have em : Array.map a.eval #[Operand.tmp t0, Operand.tmp t2] = #[a.eval (.tmp t0), a.eval (.tmp t2)] := by simp only [List.map_toArray, List.map_cons, List.map_nil]
      rw [em, e, e2]
      exact hc2 w n x l c (below_undrew hb) y1 y2
    | 4, ho, _ =>
      have ho' : o4 = o := by simpa using ho
      subst ho'
      have e : IsE z (a.eval (.tmp t3)) w := hn 3 (by simp [neS]) rfl
      exact wp_value (run_move h4 a w) (hK _ _ (Below.refl _ _) (by simpa [upd, neΦ] using e))
    | 5, ho, _ =>
      have ho' : o5 = o := by simpa using ho
      subst ho'
      obtain ⟨n, x, l, c, e, m1, y1⟩ : IsE z (a.eval (.tmp t4)) w := hn 4 (by simp [neS]) rfl
      exact wp_value (run_extract h5 e rfl w) (hK _ _ (Below.refl _ _) (by simp only [upd, neΦ, if_true]; exact ⟨n, x, l, c, rfl, m1, y1⟩))
    | 6, ho, _ =>
      have ho' : o6 = o := by simpa using ho
      subst ho'
      obtain ⟨n, x, l, c, e, m1, y1⟩ : IsE z (a.eval (.tmp t4)) w := hn 4 (by simp [neS]) rfl
      exact wp_value (run_extract h6 e rfl w) (hK _ _ (Below.refl _ _) (by simp [upd, neΦ]))
    | 9, ho, _ =>
      have ho' : o9 = o := by simpa using ho
      subst ho'
      have e : a.eval (.tmp t6) = .int .i64 0 := hn 6 (by simp [neS]) rfl
      exact wp_value (run_assign h9 a w) (hK _ _ (Below.refl _ _) (by simpa [upd, neΦ] using e))
    | 7, _, hv => cases hv
    | 8, _, hv => cases hv
    | i + 10, ho, _ => simp at ho
  case box =>
    intro i o T z ho hk a w
    match i, ho, hk with
    | 7, ho, hk => have ho' : o7 = o := by simpa using ho
                   subst ho'; cases hk; unfold execOp; rw [h7]; simp [go_sem]
    | 0, _, hk => cases hk
    | 1, _, hk => cases hk
    | 2, _, hk => cases hk
    | 3, _, hk => cases hk
    | 4, _, hk => cases hk
    | 5, _, hk => cases hk
    | 6, _, hk => cases hk
    | 8, _, hk => cases hk
    | 9, _, hk => cases hk
    | i + 10, ho, _ => simp at ho
  case put =>
    intro i o p' s' T z ho hk hp a w b hva hφ hbx
    match i, ho, hk with
    | 0, _, hk => cases hk
    | 1, _, hk => cases hk
    | 2, _, hk => cases hk
    | 3, _, hk => cases hk
    | 4, _, hk => cases hk
    | 5, _, hk => cases hk
    | 6, _, hk => cases hk
    | 7, _, hk => cases hk
    | 9, _, hk => cases hk
    | i + 10, ho, _ => simp at ho
    | 8, ho, hk =>
      have ho' : o8 = o := by simpa using ho
      subst ho'; cases hk; cases hp
      obtain ⟨n, x, l, c, e, _⟩ := hφ
      have e1 : a.eval (.tmp t5) = .agg #[.bool n, .slice x l c] := e
      have e2 : a.eval (.tmp p) = .pointer (some ⟨b, 0, none⟩) := hva
      have d1 := hbx.cell 0
      have d2 := hbx.cell 1
      have f1 := hbx.frozen 0
      have f2 := hbx.frozen 1
      refine ⟨[.bool n, .slice x l c], e, rfl, by simp [isInt], ?_⟩
      unfold execOp; rw [h8]
      dsimp only
      rw [e1, e2]
      simp [go_sem, d1, d2, f1, f2, setFrom]
  case fin =>
    intro a w blk hI
    have n8 : (#[o0, o1, o2, o3, o4, o5, o6, o7, o8, o9] : Array Oper).size = 10 := rfl
    rw [n8] at hI
    have hf := hI.agree.form
    have e0 : a.eval (.tmp t0) = .agg #[u1, u2] := hI.vals 0 (by decide) (by decide) rfl
    have e1 : a.eval (.tmp t1) = .agg #[v1, v2] := hI.vals 1 (by decide) (by decide) rfl
    obtain ⟨n, x, l, c, e5, a1, a3⟩ : IsS z (a.eval (.tmp t5)) w := hI.vals 5 (by decide) (by decide) rfl
    have e6 : a.eval (.tmp t6) = .int .i64 0 := hI.vals 6 (by decide) (by decide) rfl
    have e9 : a.eval (.tmp k) = .int .i64 0 := hI.vals 9 (by decide) (by decide) rfl
    obtain ⟨p1, p2, _, p3⟩ := hI.boxes 7 27 #[.bool false, .slice none 0 0] (by decide) (by decide) rfl
    obtain ⟨us, y1, y2, y3, y4⟩ := p3 (show (8 : Nat) < 10 by decide)
    have y5 : a.eval (.tmp t5) = .agg us.toArray := y1
    rw [e5] at y5
    cases y5
    have e7 : a.eval (.tmp p) = .pointer (some ⟨blk 7, 0, none⟩) := p1
    have hsl : (neS t0 t1 t2 t3 t4 t5 t6 p k 27 #[.bool false, .slice none 0 0]).slots 10 = [t0, t1, t2, t3, t4, t5, t6, p, k] := rfl
    rw [hsl] at hf
    simp only [List.map_cons, List.map_nil, e0, e1, e5, e6, e7, e9] at hf
    rw [hf]
    exact hend w (blk 7) n x l c _ _ _ (below_undrew hI.below) p2 y4 a1 a3
end Go.Proofs.Ytcgnmihabkgecaa

/- The laws' helper fine. -/
set_option linter.unusedVariables false
namespace Go.Proofs.Ytcgnmihabkgecaa
open Go.RowKit Go.Proofs

end Go.Proofs.Ytcgnmihabkgecaa

/- Facts for the laws of rings. -/
set_option linter.unusedVariables false
namespace Go.Proofs.Ytcgnmihabkgecaa
open Go.RowKit Go.Proofs

def Bl (k : Nat) (z : Int) : Prop := blen z.natAbs ≤ k

theorem Bl.fits {k : Nat} {z : Int} (h : Bl k z) (hk : k ≤ 16384) : Fits z := Nat.le_trans h hk
theorem Bl.mono {k j : Nat} {z : Int} (h : Bl k z) (hk : k ≤ j) : Bl j z := Nat.le_trans h hk
theorem Bl.neg {k : Nat} {z : Int} (h : Bl k z) : Bl k (-z) := by unfold Bl at *; rwa [Int.natAbs_neg]
theorem Bl.add {k : Nat} {x y : Int} (hx : Bl k x) (hy : Bl k y) : Bl (k + 1) (x + y) := by
  unfold Bl at *
  rw [blen_le] at *
  have := Int.natAbs_add_le x y
  rw [Nat.pow_succ]
  omega
theorem Bl.sub {k : Nat} {x y : Int} (hx : Bl k x) (hy : Bl k y) : Bl (k + 1) (x - y) := hx.add hy.neg
theorem Bl.mul {j k : Nat} {x y : Int} (hx : Bl j x) (hy : Bl k y) : Bl (j + k) (x * y) := by
  unfold Bl at *
  rw [blen_le] at *
  rw [Int.natAbs_mul, Nat.pow_add]
  exact Nat.mul_lt_mul'' hx hy

theorem rawZ_bl (s : Bool) (xs : List Nat) (hd : Dig B16 xs) (most : Nat) : Bl (16 * most) (rawZ s xs most) := by
  have h1 := rawZ_lt s xs hd most
  rw [B16_pow] at h1
  exact blen_le.2 h1

def OutE (W : World) (z : Int) (e : Ending) (w' : World) : Prop :=
  ∃ neg ao len cap, e = .returned (.tuple #[.agg #[.bool neg, .slice ao len cap], .int .i64 0]) ∧ len ≤ 512 ∧ Z32 w' neg ao len z ∧ Below W.heap.size W w'

theorem OutF.fine {W w' : World} {z : Int} {e : Ending} (h : OutF W z e w') (hf : Fits z) : OutE W z e w' := by
  rcases h with ⟨_, n, o, l, c, rfl, hz, hb⟩ | ⟨hn, _⟩
  · exact ⟨n, o, l, c, rfl, fits_len hz hf, hz, hb⟩
  · exact absurd hf hn

theorem OutI.small {W w' : World} {z : Int} {e : Ending} (h : OutI W z e w') (hf : Fits z) : ∃ v, e = .returned v ∧ IsS z v w' ∧ Below W.heap.size W w' := by
  obtain ⟨n, o, l, c, rfl, hz, hb⟩ := h
  exact ⟨_, rfl, ⟨n, o, l, c, rfl, fits_len hz hf, hz⟩, hb⟩

theorem MadePost.fits {z : Int} {W w' : World} {e : Ending} (h : MadePost z W e w') (hf : Fits z) :
    ∃ neg ao len cap, e = .returned (.tuple #[.agg #[.bool neg, .slice ao len cap], .bool true]) ∧ len ≤ 512 ∧ Z32 w' neg ao len z ∧ Below W.heap.size W w' := by
  obtain ⟨n, o, l, c, ok, z', rfl, hl, hz, hb, ⟨_, rfl, rfl⟩ | ⟨hn, _⟩⟩ := h
  · exact ⟨n, o, l, c, rfl, hl, hz, hb⟩
  · exact absurd hf hn

/-- a row of zeros that was just made -/
theorem zeros_sl (W : World) (e n : Nat) (c : Array Value) (hc : c = cs .i64 (List.replicate n 0)) : Sl .i64 (W.alloc (.cells c e)) (some ⟨W.heap.size, 0, none⟩) n (List.replicate n 0) :=
  (Blk.new' W .i64 e (List.replicate n 0) c hc).whole (by simp)

theorem below_made {V w' : World} {o : Obj} (hb : Below (V.drew.alloc o).heap.size (V.drew.alloc o) w') : Below V.heap.size V w' :=
  below_then (((Below.refl _ _).drew).alloc (Nat.le_refl _) o) hb
end Go.Proofs.Ytcgnmihabkgecaa

/- shiftLeft, shiftRight. -/
set_option linter.unusedVariables false
namespace Go.Proofs.Ytcgnmihabkgecaa
open Go.RowKit

theorem u64_wrap_nat (t : Nat) (h : t < 18446744073709551616) : IntKind.u64.wrap (t : Int) = (t : Int) := by
  simp [IntKind.wrap, IntKind.bits, IntKind.signed]
  omega

theorem pow_le32 {s : Nat} (hs : s < 32) : 2 ^ s ≤ 2147483648 := by
  have := Nat.pow_le_pow_right (n := 2) (by decide) (by omega : s ≤ 31)
  exact this

theorem shl_or (c x s : Nat) (hc : c < 2 ^ s) (hx : x < 4294967296) (hs : s < 32) :
    bits BinOp.or IntKind.u64 (c : Int) (IntKind.u64.wrap ((x : Int) * 2 ^ s)) = ((c + x * 2 ^ s : Nat) : Int) := by
  have h1 := pow_le32 hs
  have h2 : x * 2 ^ s ≤ 4294967295 * 2147483648 := Nat.mul_le_mul (by omega) h1
  have e : (x : Int) * 2 ^ s = ((x * 2 ^ s : Nat) : Int) := by push_cast; rfl
  rw [e, u64_wrap_nat _ (by omega)]
  have e2 : ((x * 2 ^ s : Nat) : Int) = (x : Int) * ((2 ^ s : Nat) : Int) := by push_cast; rfl
  rw [e2]
  exact or_shift c x s (2 ^ s) hc rfl (by omega) (by omega)

theorem shl_step {zs xs : List Nat} {c i x s : Nat} (hi : i < zs.length) (h0 : zs[i]?.getD 0 = 0) (hx : x = xs[i]?.getD 0) (hv : val B32 zs + c * B32 ^ i = val B32 (xs.take i) * 2 ^ s) :
    val B32 (zs.set i ((c + x * 2 ^ s) % B32)) + (c + x * 2 ^ s) / B32 * B32 ^ (i + 1) = val B32 (xs.take (i + 1)) * 2 ^ s := by
  have h1 := val_set B32 zs i ((c + x * 2 ^ s) % B32) hi
  have h2 := Nat.mod_add_div (c + x * 2 ^ s) B32
  rw [h0] at h1
  rw [val_take_succ, ← hx, Nat.pow_succ]
  generalize (c + x * 2 ^ s) % B32 = d at *
  generalize (c + x * 2 ^ s) / B32 = q at *
  generalize val B32 (zs.set i d) = v at *
  generalize B32 ^ i = p at *
  generalize 2 ^ s = m at *
  grind

def ShlRel (la s : Nat) (xs : List Nat) (W : World) (cv iv : Value) (wr : World) : Prop :=
  ∃ (c i : Nat) (zs : List Nat), cv = .int .u64 (c : Int) ∧ iv = .int .i64 (i : Int) ∧ Blk .u32 wr W.heap.size 61 zs ∧ zs.length = la + 1 ∧ Dig B32 zs ∧ i ≤ la ∧ c < 2 ^ s ∧
    val B32 zs + c * B32 ^ i = val B32 (xs.take i) * 2 ^ s ∧ (∀ j, i ≤ j → zs[j]?.getD 0 = 0) ∧ Below W.heap.size W wr

def ShlPost (la s n : Nat) (W : World) (e : Ending) (w' : World) : Prop :=
  e = .returned (.slice (some ⟨W.heap.size, 0, none⟩) (la + 1) (la + 1)) ∧ ∃ zs, Blk .u32 w' W.heap.size 61 zs ∧ zs.length = la + 1 ∧ Dig B32 zs ∧ val B32 zs = n * 2 ^ s ∧ Below W.heap.size W w'

set_option maxHeartbeats 1000000 in
theorem shiftLeft_any (ao : Option Addr) (la ca n s : Nat) (S : Int) (W : World) (h : N32 W ao la n) (hS : S = (s : Int)) (hs : s < 32) (hla : la ≤ 1000000000) :
    Calls Try.prog 68 #[.slice ao la ca, .int .i64 S] W (ShlPost la s n W) := by
  subst hS
  obtain ⟨xs, ⟨hx, b, off, hao, hc⟩, hd, ht, hv⟩ := h
  have HX := Lib.hid hx
  have HAO := Lib.hid hao
  have HC := Lib.hid hc
  have HD := Lib.hid hd
  have HV := Lib.hid hv
  have HG := Lib.hid (Nat.le_refl W.heap.size)
  clear hx hao hc hd ht hv
  go_enter Try.func68, Try.ntmps68
  go_wp2_with (at_make; refine wpList_mk rfl _ 25 rfl 61 .u32 4 Try.underlying25 (by kernel_rfl) _ (la + 1) rfl (by omega) (by omega) (by omega) ?_; intro w1 hB1 hb1 hz1)
  go_loopw [6, 15] (fun cv iv wr => ShlRel la s xs W cv iv wr) (fun cv iv _ => la - (intOf iv).toNat)
  case atStart =>
    refine ⟨0, 0, _, rfl, rfl, hB1, by simp, Dig.replicate B32_pos _, by omega, Nat.pow_pos (by decide), ?_, ?_, hb1⟩
    · rw [val_replicate]; simp [val]
    · intro j hj; rw [List.getElem?_replicate]; split <;> rfl
  case round =>
    obtain ⟨c, i, zs, rfl, rfl, hB, hzl, hdz, hi, hc, hv, h0, hbel⟩ := hrel
    have HZ := Lib.hid hB
    have HL := Lib.hid hzl
    have HDZ := Lib.hid hdz
    have HVV := Lib.hid hv
    have H0 := Lib.hid h0
    have HW := Lib.hid hbel
    have HCC := Lib.hid hc
    have hc32 : c < 4294967296 := Nat.lt_of_lt_of_le hc (Nat.pow_le_pow_right (by decide) (by omega : s ≤ 32))
    clear hB hzl hdz hv h0 hbel hc
    by_cases hil : i < la
    · obtain rfl := HAO.out (by omega)
      have ca1 := cell_later HW.out (HC.out i hil)
      have hx := HD.out.get B32_pos i
      obtain ⟨x, hxe⟩ : ∃ x, x = xs[i]?.getD 0 := ⟨_, rfl⟩
      rw [← hxe] at ca1 hx
      rw [B32_eq] at hx
      have HXE := Lib.hid hxe
      clear hxe
      have b1 : (i : Int) < (la : Int) := by omega
      have b0 : (0 : Int) ≤ (i : Int) := by omega
      have b2 : (i : Int) < (la : Int) + 1 := by omega
      have s0 : (0 : Int) ≤ (s : Int) := by omega
      have s1 : (s : Int) < 32 := by omega
      have cz1 := HZ.out.cell i (by rw [HL.out]; omega)
      have fz1 := HZ.out.frozen i
      go_wp2
      refine ⟨?_, by simp [intOf]; omega⟩
      rw [shl_or c x s HCC.out hx hs]
      have hm := pow_le32 hs
      have hcs := HCC.out
      have h00 := H0.out i (Nat.le_refl _)
      refine ⟨(c + x * 2 ^ s) / B32, i + 1, zs.set i ((c + x * 2 ^ s) % B32), ?_, by go_num, HZ.out.set _ _ _ ?_, by simpa using HL.out, HDZ.out.set _ (Nat.mod_lt _ B32_pos), by omega, ?_, shl_step (by rw [HL.out]; omega) h00 HXE.out HVV.out, ?_, HW.out.setCell (Nat.le_refl _) _⟩
      · exact congrArg (Value.int _) (Int.natCast_ediv _ _).symm
      · exact (Int.natCast_emod _ _).symm
      · rw [B32_eq, Nat.div_lt_iff_lt_mul (by decide)]
        have : x * 2 ^ s ≤ 4294967295 * 2 ^ s := Nat.mul_le_mul_right _ (by omega)
        omega
      · intro j hj
        rw [List.getElem?_set_ne (by omega)]
        exact H0.out j (by omega)
    · obtain rfl : i = la := by omega
      have cz1 := HZ.out.cell i (by rw [HL.out]; omega)
      have fz1 := HZ.out.frozen i
      go_wp2
      go_ret
      have hv := HVV.out
      have h00 := H0.out i (Nat.le_refl _)
      rw [List.take_of_length_le (by rw [HX.out]; exact Nat.le_refl _), HV.out] at hv
      refine ⟨rfl, zs.set i c, HZ.out.set _ _ _ rfl, by simpa using HL.out, HDZ.out.set _ (by rw [B32_eq]; exact hc32), ?_, HW.out.setCell (Nat.le_refl _) _⟩
      have h1 := val_set B32 zs i c (by rw [HL.out]; omega)
      rw [h00, Nat.mul_zero, Nat.add_zero, Nat.mul_comm (B32 ^ i) c] at h1
      rw [h1]
      exact hv

theorem shr_cast (t s : Nat) : ((t : Int) / 2 ^ s % 4294967296) = ((t / 2 ^ s % 4294967296 : Nat) : Int) := by
  rw [Int.natCast_emod, Int.natCast_ediv, Int.natCast_pow]
  rfl

theorem shr_digit {B m k x y r : Nat} (hm : 0 < m) (hB : m * k = B) : (x + B * (y + B * r)) / m % B = (x + B * y) / m % B := by
  have e : x + B * (y + B * r) = (x + B * y) + m * (B * (k * r)) := by
    rw [← hB]; grind
  rw [e, Nat.add_mul_div_left _ _ hm, Nat.add_mul_mod_self_left]

theorem val_drop_div (xs : List Nat) (hd : Dig B32 xs) (i : Nat) (hi : i ≤ xs.length) : val B32 xs / B32 ^ i = val B32 (xs.drop i) := by
  rw [val_split B32 xs i hi, Nat.add_mul_div_left _ _ (Nat.pow_pos B32_pos), Nat.div_eq_of_lt, Nat.zero_add]
  have := val_lt B32_pos (hd.take i)
  rwa [List.length_take, Nat.min_eq_left hi] at this

theorem shr_step {xs zs : List Nat} {i m k : Nat} (hd : Dig B32 xs) (hi : i < xs.length) (hm : 0 < m) (hB : m * k = B32) (hz : zs.length = xs.length) (hv : val B32 (zs.take i) = val B32 xs / m % B32 ^ i) :
    val B32 ((zs.set i ((xs[i]?.getD 0 + B32 * (xs[i + 1]?.getD 0)) / m % B32)).take (i + 1)) = val B32 xs / m % B32 ^ (i + 1) := by
  rw [val_take_succ, List.take_set_of_le (Nat.le_refl _), hv, Nat.mod_pow_succ]
  congr 2
  rw [List.getElem?_set_self (by omega)]
  simp only [Option.getD_some]
  rw [Nat.div_div_eq_div_mul, Nat.mul_comm m, ← Nat.div_div_eq_div_mul, val_drop_div xs hd i (by omega), drop_eq_cons xs i hi, val_cons]
  by_cases h1 : i + 1 < xs.length
  · rw [drop_eq_cons xs (i + 1) h1, val_cons]
    exact (shr_digit hm hB).symm
  · rw [List.drop_of_length_le (by omega), List.getElem?_eq_none (l := xs) (i := i + 1) (by omega)]; rfl

def ShrRel (g e la s : Nat) (xs post : List Nat) (W : World) (iv : Value) (wr : World) : Prop :=
  ∃ (i : Nat) (zs : List Nat), iv = .int .i64 (i : Int) ∧ Blk .u32 wr g e (zs ++ post) ∧ zs.length = la ∧ Dig B32 zs ∧ i ≤ la ∧ val B32 (zs.take i) = val B32 xs / 2 ^ s % B32 ^ i ∧ zs.drop i = xs.drop i ∧ W.grownBy wr (some g) ∧ wr.heap.size = W.heap.size

def ShrPost (g e la s v : Nat) (post : List Nat) (W : World) (en : Ending) (w' : World) : Prop :=
  ∃ ao n, en = .returned (.slice ao n n) ∧ N32 w' ao n (v / 2 ^ s) ∧ W.grownBy w' (some g) ∧ w'.heap.size = W.heap.size

set_option maxHeartbeats 1000000 in
theorem shiftRight_any (g e la ca s : Nat) (xs post : List Nat) (S : Int) (W : World) (hB : Blk .u32 W g e (xs ++ post)) (hl : xs.length = la) (hd : Dig B32 xs) (hS : S = (s : Int)) (hs : s < 32) (hla : la ≤ 2000000000) (hlc : la ≤ ca) (hcm : ca ≤ 9223372036854775807) :
    Calls Try.prog 70 #[.slice (some ⟨g, 0, none⟩) la ca, .int .i64 S] W (ShrPost g e la s (val B32 xs) post W) := by
  subst hS
  have HB := Lib.hid hB
  have HL0 := Lib.hid hl
  have HD := Lib.hid hd
  clear hB hl hd
  go_enter Try.func70, Try.ntmps70
  go_wp2
  go_loopw [9] (fun iv wr => ShrRel g e la s xs post W iv wr) (fun iv _ => la - (intOf iv).toNat)
  case atStart => exact ⟨0, xs, rfl, HB.out, HL0.out, HD.out, by omega, by simp [val]; omega, rfl, World.grownBy.refl _ _, rfl⟩
  case round =>
    obtain ⟨i, zs, rfl, hB, hzl, hdz, hi, hv, hdr, hbel, hz⟩ := hrel
    have HZ := Lib.hid hB
    have HL := Lib.hid hzl
    have HDZ := Lib.hid hdz
    have HV := Lib.hid hv
    have HDR := Lib.hid hdr
    have HW := Lib.hid hbel
    have HHZ := Lib.hid hz
    clear hB hzl hdz hv hdr hbel hz
    by_cases hil : i < la
    · have hzi : ∀ j, i ≤ j → zs[j]?.getD 0 = xs[j]?.getD 0 := by
        intro j hj
        have := congrArg (fun l => l[j - i]?.getD 0) HDR.out
        simp only [List.getElem?_drop] at this
        rwa [show i + (j - i) = j by omega] at this
      have cz1 := HZ.out.cell i (by have := HL.out; simp; omega)
      have fz1 := HZ.out.frozen i
      rw [List.getElem?_append_left (by rw [HL.out]; exact hil), hzi i (Nat.le_refl _)] at cz1
      have hx := HD.out.get B32_pos i
      have hy := HD.out.get B32_pos (i + 1)
      obtain ⟨x, hxe⟩ : ∃ x, x = xs[i]?.getD 0 := ⟨_, rfl⟩
      obtain ⟨y, hye⟩ : ∃ x, x = xs[i + 1]?.getD 0 := ⟨_, rfl⟩
      rw [← hxe] at cz1 hx
      rw [← hye] at hy
      rw [B32_eq] at hx hy
      have HXE := Lib.hid hxe
      have HYE := Lib.hid hye
      have HYZ : Hid (y = zs[i + 1]?.getD 0) := by show _ = _; rw [hzi (i + 1) (by omega)]; exact hye
      have hsl : Sl .u32 wr (some ⟨g, 0, none⟩) la zs := by
        have := HZ.out.sl0 la (by have := HL.out; simp; omega)
        rwa [List.take_left' HL.out] at this
      have HSL := Lib.hid hsl
      clear hzi hxe hye hsl
      have b0 : (0 : Int) ≤ (i : Int) := by omega
      have b1 : (i : Int) < (la : Int) := by omega
      have s0 : (0 : Int) ≤ (s : Int) := by omega
      have s1 : (s : Int) < 32 := by omega
      go_wp2_with fail
      go_quiet ((go_at_call 51; exact digit_quiet _ _ _ zs _ (i + 1) y _ _ HSL.out (by omega) HYZ.out))
      go_wp2
      refine ⟨?_, by simp [intOf]; omega⟩
      have ho : bits BinOp.or IntKind.u64 (x : Int) ((y : Int) * 4294967296) = ((x + y * 4294967296 : Nat) : Int) := or_shift x y 32 4294967296 (by omega) (by decide) (by omega) (by omega)
      rw [ho]
      have hm := pow_le32 hs
      have hxl : i < xs.length := by rw [HL0.out]; exact hil
      refine ⟨i + 1, zs.set i ((x + y * 4294967296) / 2 ^ s % 4294967296), by go_num, ?_, by simpa using HL.out, HDZ.out.set _ (Nat.mod_lt _ (by decide)), by omega, ?_, ?_, grownBy_set HW.out _ _ _, by simpa using HHZ.out⟩
      · have h := (HZ.out.drewN nq).set i ((x + y * 4294967296) / 2 ^ s % 4294967296) _ (shr_cast (x + y * 4294967296) s)
        rwa [List.set_append_left (h := by rw [HL.out]; exact hil)] at h
      · have hk : 2 ^ s * 2 ^ (32 - s) = B32 := by rw [← Nat.pow_add, show s + (32 - s) = 32 by omega]; rfl
        have h := shr_step (zs := zs) HD.out hxl (Nat.pow_pos (by decide)) hk (by rw [HL.out, HL0.out]) HV.out
        rw [← HXE.out, ← HYE.out, B32_eq, Nat.mul_comm 4294967296 y] at h
        rw [B32_eq]
        exact h
      · rw [List.drop_set_of_lt (by omega)]
        have := congrArg (List.drop 1) HDR.out
        rwa [List.drop_drop, List.drop_drop] at this
    · obtain rfl : i = la := by omega
      have HSL := Lib.hid (HZ.out.sl0 i (by have := HL.out; simp; omega))
      go_wp2_with fail
      refine (trim_raw _ _ _ _ _ HSL.out hlc hcm).mono ?_
      rintro e w3 ⟨⟨ao', m, rfl, hm, ha', hz', ht, hzz⟩, rfl⟩
      have HT := Lib.hid ht
      have HZZ := Lib.hid hzz
      have HAA := Lib.hid ha'
      clear ht hzz ha' hz'
      go_wp2
      go_ret
      have e1 : (zs ++ post).take i = zs := List.take_left' HL.out
      have hsl := HSL.out
      have ht := HT.out
      have hzz := HZZ.out
      rw [e1] at hsl ht hzz
      refine ⟨ao', m, rfl, ⟨_, trim_sl hsl hm HAA.out, HDZ.out.take _, ht, ?_⟩, HW.out, HHZ.out⟩
      have hv := HV.out
      rw [List.take_of_length_le (by rw [HL.out]; exact Nat.le_refl _)] at hv
      rw [val_take_of_zeros hzz, hv, Nat.mod_eq_of_lt]
      have := val_lt B32_pos HD.out
      rw [HL0.out] at this
      exact Nat.lt_of_le_of_lt (Nat.div_le_self _ _) this
end Go.Proofs.Ytcgnmihabkgecaa

/- Plain facts for the long division. No program. -/
set_option linter.unusedVariables false
namespace Go.Proofs.Ytcgnmihabkgecaa

/-- the estimate is not too great, and fits into a digit -/
theorem est_le {B n P D lp ld high dt : Nat} (hB : 0 < B) (hP : P = lp + B ^ n * high) (hlp : lp < B ^ n) (hD : D = ld + B ^ n * dt) (hld : ld < B ^ n) (hlt : P < D * B) :
    high / (dt + 1) * D ≤ P ∧ high / (dt + 1) < B := by
  have h1 : D ≤ B ^ n * (dt + 1) := by rw [Nat.mul_add]; omega
  have h2 : high / (dt + 1) * (dt + 1) ≤ high := Nat.div_mul_le_self _ _
  constructor
  · have h3 : high / (dt + 1) * D ≤ high / (dt + 1) * (B ^ n * (dt + 1)) := Nat.mul_le_mul_left _ h1
    have h4 : high / (dt + 1) * (B ^ n * (dt + 1)) = B ^ n * (high / (dt + 1) * (dt + 1)) := by
      rw [Nat.mul_left_comm]
    have h5 : B ^ n * (high / (dt + 1) * (dt + 1)) ≤ B ^ n * high := Nat.mul_le_mul_left _ h2
    omega
  · have h3 : B ^ n * high < B ^ n * ((dt + 1) * B) := by
      have : D * B ≤ B ^ n * (dt + 1) * B := Nat.mul_le_mul_right _ h1
      rw [Nat.mul_assoc] at this
      omega
    have h4 := Nat.lt_of_mul_lt_mul_left h3
    rw [Nat.div_lt_iff_lt_mul (by omega)]
    rw [Nat.mul_comm]
    exact h4

/-- the rest behind the digits that count -/
theorem post_zero {B a m : Nat} {pre seg post : List Nat} (hB : 0 < B) (ha : pre.length = a) (hm : seg.length = m) (h : val B (pre ++ seg ++ post) < B ^ (a + m)) : val B post = 0 := by
  rw [val_append, List.length_append, ha, hm] at h
  rcases Nat.eq_zero_or_pos (val B post) with h0 | h0
  · exact h0
  · have : B ^ (a + m) * 1 ≤ B ^ (a + m) * val B post := Nat.mul_le_mul_left _ h0
    omega

theorem three_val {B : Nat} (pre seg post : List Nat) (hp : val B post = 0) : val B (pre ++ seg ++ post) = val B pre + B ^ pre.length * val B seg := by
  rw [val_append, val_append, hp]; simp

/-- one subtraction of the long division -/
theorem div_sub {B N D a q t R R' S S' p Q Q' : Nat} (hR : R = p + B ^ a * S) (hR' : R' = p + B ^ a * S') (hS : S' + t * D = S) (hQ' : Q' = Q + B ^ a * t) (hN : Q * D + R = N) (hlt : q * D * B ^ a + R < D * B ^ (a + 1)) :
    Q' * D + R' = N ∧ (q + t) * D * B ^ a + R' < D * B ^ (a + 1) ∧ R' + B ^ a * (t * D) = R ∧ q + t < B := by
  have e1 : B ^ a * S = B ^ a * S' + B ^ a * (t * D) := by rw [← hS, Nat.mul_add]
  have e2 : R' + B ^ a * (t * D) = R := by omega
  have e3 : Q' * D = Q * D + B ^ a * (t * D) := by rw [hQ', Nat.add_mul, Nat.mul_assoc]
  have e4 : (q + t) * D * B ^ a = q * D * B ^ a + B ^ a * (t * D) := by
    rw [Nat.add_mul, Nat.add_mul, Nat.mul_comm (t * D)]
  refine ⟨by omega, by omega, e2, ?_⟩
  have h1 : (q + t) * D * B ^ a < D * B ^ (a + 1) := by omega
  have h2 : (q + t) * (D * B ^ a) < B * (D * B ^ a) := by
    rw [← Nat.mul_assoc]
    have : D * B ^ (a + 1) = B * (D * B ^ a) := by rw [Nat.pow_succ, ← Nat.mul_assoc, Nat.mul_comm]
    omega
  exact Nat.lt_of_mul_lt_mul_right h2

/-- one step down -/
theorem div_down {B D a R p S : Nat} (hR : R = p + B ^ (a + 1) * S) (hp : p < B ^ (a + 1)) (hS : S < D) : R < D * B ^ (a + 1) := by
  have : B ^ (a + 1) * (S + 1) ≤ B ^ (a + 1) * D := Nat.mul_le_mul_left _ hS
  rw [Nat.mul_comm D]
  rw [Nat.mul_add] at this
  omega

theorem div_start {B A b la lb s : Nat} (hs : 0 < s) (hA : A < B ^ la) (hb : B ^ (lb - 1) ≤ b) (hl : lb ≤ la) (h0 : 0 < lb) : A * s < b * s * B ^ (la - lb + 1) := by
  have h1 : B ^ la = B ^ (lb - 1) * B ^ (la - lb + 1) := by rw [← Nat.pow_add]; congr 1; omega
  have h2 : B ^ (lb - 1) * B ^ (la - lb + 1) ≤ b * B ^ (la - lb + 1) := Nat.mul_le_mul_right _ hb
  have h3 : A < b * B ^ (la - lb + 1) := by omega
  have h4 := Nat.mul_lt_mul_of_pos_right h3 hs
  have e : b * B ^ (la - lb + 1) * s = b * s * B ^ (la - lb + 1) := by rw [Nat.mul_right_comm]
  omega

theorem div_end {A b s Q R : Nat} (hs : 0 < s) (hb : 0 < b) (h : Q * (b * s) + R = A * s) (hR : R < b * s) : Q = A / b ∧ R / s = A % b := by
  have hA := Nat.div_add_mod A b
  have hm := Nat.mod_lt A hb
  have h1 : (A / b) * (b * s) + (A % b) * s = A * s := by
    rw [← Nat.mul_assoc, ← Nat.add_mul, Nat.mul_comm (A / b) b, hA]
  have h2 : (A % b) * s < b * s := Nat.mul_lt_mul_of_pos_right hm hs
  have hbs : 0 < b * s := Nat.mul_pos hb hs
  have hq : Q = A / b := by
    have e1 : (A * s) / (b * s) = Q := by
      rw [← h, Nat.mul_comm Q, Nat.mul_add_div hbs, Nat.div_eq_of_lt hR, Nat.add_zero]
    have e2 : (A * s) / (b * s) = A / b := Nat.mul_div_mul_right _ _ hs
    omega
  refine ⟨hq, ?_⟩
  subst hq
  have : R = (A % b) * s := by omega
  rw [this, Nat.mul_div_cancel _ hs]

end Go.Proofs.Ytcgnmihabkgecaa

/- estimate. -/
set_option linter.unusedVariables false
namespace Go.Proofs.Ytcgnmihabkgecaa
open Go.RowKit

def EstPost (t : Nat) (W : World) (e : Ending) (w' : World) : Prop := e = .returned (.int .u32 (t : Int)) ∧ ∃ m, w' = W.drewN m

set_option maxHeartbeats 1000000 in
theorem estimate_raw (po bo : Option Addr) (lp lb n pc bc : Nat) (seg ds : List Nat) (W : World) (hlp : lp = lb + 1) (hlb : lb = n + 1) (hp : Sl .u32 W po lp seg) (hdp : Dig B32 seg) (hb : Sl .u32 W bo lb ds) (hdb : Dig B32 ds) (hn : n ≤ 1000000000)
    (t : Nat) (ht : t = (seg[lb]?.getD 0 * B32 + seg[n]?.getD 0) / (ds[n]?.getD 0 + 1)) (htb : t < B32) :
    Calls Try.prog 69 #[.slice po lp pc, .slice bo lb bc] W (EstPost (max t 1) W) := by
  obtain ⟨hpl, pb, pf, hpo, hpc⟩ := hp
  obtain ⟨hbl, bb, bf, hbo, hbc⟩ := hb
  obtain rfl := hpo (by omega)
  obtain rfl := hbo (by omega)
  have c1 := hpc lb (by omega)
  have c2 := hpc n (by omega)
  have c3 := hbc n (by omega)
  have hx := hdp.get B32_pos lb
  have hy := hdp.get B32_pos n
  have hz := hdb.get B32_pos n
  obtain ⟨x, hxe⟩ : ∃ x, x = seg[lb]?.getD 0 := ⟨_, rfl⟩
  obtain ⟨y, hye⟩ : ∃ x, x = seg[n]?.getD 0 := ⟨_, rfl⟩
  obtain ⟨z, hze⟩ : ∃ x, x = ds[n]?.getD 0 := ⟨_, rfl⟩
  rw [← hxe] at c1 hx ht
  rw [← hye] at c2 hy ht
  rw [← hze] at c3 hz ht
  rw [B32_eq] at hx hy hz htb ht
  have HT := Lib.hid ht
  have HLB := Lib.hid hlb
  have b0 : (0 : Int) ≤ (lb : Int) := by omega
  have b1 : (1 : Int) ≤ (lb : Int) := by omega
  have b2 : (lb : Int) < (lp : Int) := by omega
  have b3 : (lb : Int) - 1 < (lp : Int) := by omega
  have b4 : (lb : Int) ≤ 2000000000 := by omega
  have b5 : (lb : Int) - 1 < (lb : Int) := by omega
  have b6 : (0 : Int) ≤ (lb : Int) - 1 := by omega
  have q1 : ((lb : Int) - 1).toNat = n := by omega
  have q3 : IntKind.i64.wrap ((lb : Int) - 1) = (lb : Int) - 1 := IntWalk.i64_in _ (by omega)
  clear hpl hbl hpo hpc hbo hbc hdp hdb hxe hye hze ht hlp hlb
  have ho : bits BinOp.or IntKind.u64 ((x : Int) * 4294967296) (y : Int) = ((x * 4294967296 + y : Nat) : Int) := or_shift' y x 32 4294967296 (by omega) (by decide) (by omega) (by omega)
  have HO := Lib.hid ho
  clear ho
  go_enter Try.func69, Try.ntmps69
  go_wp2
  go_quiet (fail)
  go_wp2
  go_ret
  refine ⟨ret_int ?_, nq, rfl⟩
  rw [HO.out, Int.tdiv_eq_ediv_of_nonneg (Int.natCast_nonneg _)]
  have e : (((x * 4294967296 + y : Nat) : Int) / ((z : Int) + 1)) = (t : Int) := by
    rw [HT.out, Int.natCast_ediv]; rfl
  rw [e, u64_wrap_nat t (by omega)]
  omega

/-- the estimate of the division of one part -/
theorem estimate_any (po bo : Option Addr) (lp lb pc bc : Nat) (seg ds : List Nat) (W : World) (hlp : lp = lb + 1) (hl0 : 0 < lb) (hp : Sl .u32 W po lp seg) (hdp : Dig B32 seg) (hb : Sl .u32 W bo lb ds) (hdb : Dig B32 ds) (hn : lb ≤ 1000000000)
    (hge : val B32 ds ≤ val B32 seg) (hlt : val B32 seg < val B32 ds * B32) :
    Calls Try.prog 69 #[.slice po lp pc, .slice bo lb bc] W fun e w' => ∃ t : Nat, e = .returned (.int .u32 (t : Int)) ∧ 0 < t ∧ t < B32 ∧ t * val B32 ds ≤ val B32 seg ∧ ∃ m, w' = W.drewN m := by
  obtain ⟨n, rfl⟩ : ∃ n, lb = n + 1 := ⟨lb - 1, by omega⟩
  have hsl := hp.len
  have hdl := hb.len
  have hP : val B32 seg = val B32 (seg.take n) + B32 ^ n * (seg[n + 1]?.getD 0 * B32 + seg[n]?.getD 0) := by
    have h1 : seg = seg.take (n + 1 + 1) := (List.take_of_length_le (by omega)).symm
    conv => lhs; rw [h1]
    rw [val_take_succ, val_take_succ, Nat.pow_succ]
    grind
  have hD : val B32 ds = val B32 (ds.take n) + B32 ^ n * ds[n]?.getD 0 := by
    have h1 : ds = ds.take (n + 1) := (List.take_of_length_le (by omega)).symm
    conv => lhs; rw [h1]
    rw [val_take_succ]
  have h1 := val_lt B32_pos (hdp.take n)
  rw [List.length_take, Nat.min_eq_left (by omega)] at h1
  have h2 := val_lt B32_pos (hdb.take n)
  rw [List.length_take, Nat.min_eq_left (by omega)] at h2
  obtain ⟨h3, h4⟩ := est_le B32_pos hP h1 hD h2 hlt
  obtain ⟨t, ht⟩ : ∃ t, t = (seg[n + 1]?.getD 0 * B32 + seg[n]?.getD 0) / (ds[n]?.getD 0 + 1) := ⟨_, rfl⟩
  rw [← ht] at h3 h4
  refine (estimate_raw po bo lp (n + 1) n pc bc seg ds W hlp rfl hp hdp hb hdb (by omega) t ht h4).mono ?_
  rintro e w' ⟨rfl, hw⟩
  refine ⟨max t 1, rfl, by omega, ?_, ?_, hw⟩
  · have : 1 < B32 := by decide
    omega
  · rcases Nat.lt_or_ge t 1 with h | h
    · rw [Nat.max_eq_right (by omega)]; omega
    · rw [Nat.max_eq_left h]; exact h3
end Go.Proofs.Ytcgnmihabkgecaa
