/- Part 13 of the contracts: Floor, Preds, PlanA, Low, RefK. -/
import Derived.Test.YtcgnmihabkgecaaGreatPart12

/- Floor: its blocks may be made at any time. -/
set_option linter.unusedVariables false
namespace Go.Proofs.YtcgnmihabkgecaaGreat
open Go.RowKit Go.Proofs

def IsDZ (x y : Int) (v : Value) (w : World) : Prop := ∃ na ao la ca nb bo lb cb, v = .tuple #[.agg #[.bool na, .slice ao la ca], .agg #[.bool nb, .slice bo lb cb], .int .i64 0] ∧ Z32 w na ao la x ∧ Z32 w nb bo lb y
theorem Stable.isDZ (base : Nat) (x y : Int) (v : Value) : Stable base (IsDZ x y v) :=
  Stable.ex fun na => Stable.ex fun ao => Stable.ex fun la => Stable.ex fun ca => Stable.ex fun nb => Stable.ex fun bo => Stable.ex fun lb => Stable.ex fun cb =>
    (Stable.const base _).and ((Stable.z32 base na ao la x).and (Stable.z32 base nb bo lb y))
theorem DivZPost.is {x y : Int} {W w' : World} {e : Ending} (h : DivZPost x y W e w') : ∃ v, e = .returned v ∧ IsDZ (x / y) (x % y) v w' ∧ Below W.heap.size W w' := by
  obtain ⟨na, ao, la, ca, nb, bo, lb, cb, rfl, h1, h2, h3⟩ := h
  exact ⟨_, rfl, ⟨na, ao, la, ca, nb, bo, lb, cb, rfl, h1, h2⟩, h3⟩

def flS (t0 t1 t2 t3 t4 t5 t6 t7 t8 p q k : Nat) (T : Nat) (z : Array Value) : Shape where
  f := fun i => match i with | 0 => t0 | 1 => t1 | 2 => t2 | 3 => t3 | 4 => t4 | 5 => t5 | 6 => t6 | 7 => t7 | 8 => t8 | 9 => p | 10 => q | 13 => k | _ => 0
  kd := fun i => match i with | 9 => .box T z | 10 => .box T z | 11 => .put 9 6 | 12 => .put 10 7 | _ => .val
  need := fun i => match i with | 1 => [0] | 3 => [2] | 4 => [1, 3] | 5 => [4] | 6 => [5] | 7 => [5] | 8 => [5] | 11 => [9, 6] | 12 => [10, 7] | 13 => [8] | _ => []
  st := fun i => match i with | 9 => 11 | _ => 12
  src := fun i => match i with | 9 => 6 | _ => 7

def flΦ (r0 r1 r2 : Value) (zq z1 z2 : Int) (i : Nat) (v : Value) (w : World) : Prop :=
  match i with | 0 => v = r0 | 1 => v = r1 | 2 => v = r2 | 3 => IsS zq v w | 4 => IsDZ z1 z2 v w | 5 => IsDZ z1 z2 v w | 6 => IsI z1 v w | 7 => IsI z2 v w | _ => v = .int .i64 0

set_option maxHeartbeats 2000000 in
theorem floor_region {Q : Exit → Act → World → Prop} {id : Nat} {a0 : Act} {W : World} {o0 o1 o2 o3 o4 o5 o6 o7 o8 o9 o10 o11 o12 o13 : Oper} (t0 t1 t2 t3 t4 t5 t6 t7 t8 p q k r : Nat) (f f2 : FuncId) (u1 u2 u3 : Value) (g : Nat) (zq z1 z2 : Int) (ts ts2 : Array TypeId) {fn fn2 : Func} {cb cb2 : Code}
    (hfn : Tryz.prog.funcs[f]? = some fn) (hname : (fn.name == "runtime.NumGoroutine") = false) (hbody : fn.body = some cb)
    (hfn2 : Tryz.prog.funcs[f2]? = some fn2) (hname2 : (fn2.name == "runtime.NumGoroutine") = false) (hbody2 : fn2.body = some cb2)
    (hok : (flS t0 t1 t2 t3 t4 t5 t6 t7 t8 p q k 25 #[.bool false, .slice none 0 0]).ok #[o0, o1, o2, o3, o4, o5, o6, o7, o8, o9, o10, o11, o12, o13] a0.tmps.size = true)
    (h0 : o0.op = .fieldAddr 27 (.tmp r) 0) (h1 : o1.op = .load 25 (.tmp t0)) (h2 : o2.op = .load 27 (.tmp r)) (h3 : o3.op = .call { callee := .value (.func f), args := #[.tmp t2], argTypes := ts })
    (h4 : o4.op = .call { callee := .value (.func f2), args := #[.tmp t1, .tmp t3], argTypes := ts2 }) (h5 : o5.op = .move (.tmp t4))
    (h6 : o6.op = .extract (.tmp t5) 0) (h7 : o7.op = .extract (.tmp t5) 1) (h8 : o8.op = .extract (.tmp t5) 2)
    (h9 : o9.op = .alloc 25) (h10 : o10.op = .alloc 25) (h11 : o11.op = .store 25 (.tmp p) (.tmp t6)) (h12 : o12.op = .store 25 (.tmp q) (.tmp t7)) (h13 : o13.op = .assign (.tmp t8))
    (hr : a0.eval (.tmp r) = .pointer (some ⟨g, 0, none⟩)) (hrs : r ∉ [t0, t1, t2, t3, t4, t5, t6, t7, t8, p, q, k]) (hg : g < W.heap.size)
    (c1 : W.cell? ⟨g, 0, none⟩ = some u1) (c2 : W.cell? ⟨g, 1, none⟩ = some u2) (c3 : W.cell? ⟨g, 2, none⟩ = some u3)
    (hc1 : ∀ w, Below W.heap.size W w → Calls Tryz.prog f #[.agg #[u1, u2, u3]] w (fun e w' => ∃ v, e = .returned v ∧ IsS zq v w' ∧ Below w.heap.size w w'))
    (hc2 : ∀ w n x l c, Below W.heap.size W w → l ≤ 512 → Z32 w n x l zq → Calls Tryz.prog f2 #[.agg #[u1, u2], .agg #[.bool n, .slice x l c]] w (fun e w' => ∃ v, e = .returned v ∧ IsDZ z1 z2 v w' ∧ Below w.heap.size w w'))
    (hend : ∀ w b1 b2 n1 x1 l1 k1 d3 d4 d5 d7, Below W.heap.size W w → W.heap.size ≤ b1 → Box w b1 25 #[.bool n1, .slice x1 l1 k1] → Z32 w n1 x1 l1 z1 →
      Q .normal (puts a0 [(t0, .pointer (some ⟨g, 0, none⟩)), (t1, .agg #[u1, u2]), (t2, .agg #[u1, u2, u3]), (t3, d3), (t4, d4), (t5, d5), (t6, .agg #[.bool n1, .slice x1 l1 k1]), (t7, d7), (t8, .int .i64 0),
        (p, .pointer (some ⟨b1, 0, none⟩)), (q, .pointer (some ⟨b2, 0, none⟩)), (k, .int .i64 0)]) w) :
    (Code.region id #[o0, o1, o2, o3, o4, o5, o6, o7, o8, o9, o10, o11, o12, o13] true).wp Tryz.prog Q a0 W := by
  refine Shape.region (flS t0 t1 t2 t3 t4 t5 t6 t7 t8 p q k 25 #[.bool false, .slice none 0 0]) (fun i v w => flΦ (.pointer (some ⟨g, 0, none⟩)) (.agg #[u1, u2]) (.agg #[u1, u2, u3]) zq z1 z2 i (v i) w) (by kernel_rfl) hok
    (fun i v v' w _ hj hΦ => by rw [← hj i (.inl rfl)]; exact hΦ) ?stab ?val ?box ?put rfl ?fin
  case stab =>
    intro i v hi
    match i with
    | 0 => exact Stable.const _ _
    | 1 => exact Stable.const _ _
    | 2 => exact Stable.const _ _
    | 3 => exact Stable.isS _ _ _
    | 4 => exact Stable.isDZ _ _ _ _
    | 5 => exact Stable.isDZ _ _ _ _
    | 6 => exact Stable.isI _ _ _
    | 7 => exact Stable.isI _ _ _
    | i + 8 => exact Stable.const _ _
  case val =>
    intro i o ho hv a w hA hb hz hn K' hK
    have er : a.eval (.tmp r) = .pointer (some ⟨g, 0, none⟩) := (hA.eval hrs).trans hr
    have d1 := (hb.cell (p := ⟨g, 0, none⟩) hg).trans c1
    have d2 := (hb.cell (p := ⟨g, 1, none⟩) hg).trans c2
    have d3 := (hb.cell (p := ⟨g, 2, none⟩) hg).trans c3
    match i, ho, hv with
    | 0, ho, _ =>
      have ho' : o0 = o := by simpa using ho
      subst ho'
      refine wp_value (v := .pointer (some ⟨g, 0, none⟩)) (w' := w) ?_ (hK _ _ (Below.refl _ _) (by simp [upd, flΦ]))
      unfold execOp
      rw [h0]
      dsimp only
      rw [er]
      simp [go_sem]
    | 1, ho, _ =>
      have ho' : o1 = o := by simpa using ho
      subst ho'
      have e : a.eval (.tmp t0) = .pointer (some ⟨g, 0, none⟩) := hn 0 (by simp [flS]) rfl
      refine wp_value (v := .agg #[u1, u2]) (w' := w) ?_ (hK _ _ (Below.refl _ _) (by simp [upd, flΦ]))
      unfold execOp
      rw [h1]
      dsimp only
      rw [e]
      simp [go_sem, d1, d2]
    | 2, ho, _ =>
      have ho' : o2 = o := by simpa using ho
      subst ho'
      refine wp_value (v := .agg #[u1, u2, u3]) (w' := w) ?_ (hK _ _ (Below.refl _ _) (by simp [upd, flΦ]))
      unfold execOp
      rw [h2]
      dsimp only
      rw [er]
      simp [go_sem, d1, d2, d3]
    | 3, ho, _ =>
      have ho' : o3 = o := by simpa using ho
      subst ho'
      have e : a.eval (.tmp t2) = .agg #[u1, u2, u3] := hn 2 (by simp [flS]) rfl
      refine wp_call (run_call hfn hname hbody h3 a w) ?_ (fun v w' hb' hφ => hK v w' hb' (by simpa [upd, flΦ] using hφ))
      have em : Array.map a.eval #[Operand.tmp t2] = #[a.eval (.tmp t2)] := by simp only [List.map_toArray, List.map_cons, List.map_nil]
      rw [em, e]
      exact hc1 w (below_undrew hb)
    | 4, ho, _ =>
      have ho' : o4 = o := by simpa using ho
      subst ho'
      have e : a.eval (.tmp t1) = .agg #[u1, u2] := hn 1 (by simp [flS]) rfl
      obtain ⟨n, x, l, c, e2, y1, y2⟩ : IsS zq (a.eval (.tmp t3)) w := hn 3 (by simp [flS]) rfl
      refine wp_call (run_call hfn2 hname2 hbody2 h4 a w) ?_ (fun v w' hb' hφ => hK v w' hb' (by simpa [upd, flΦ] using hφ))
      have em : Array.map a.eval #[Operand.tmp t1, Operand.tmp t3] = #[a.eval (.tmp t1), a.eval (.tmp t3)] := by simp only [List.map_toArray, List.map_cons, List.map_nil]
      rw [em, e, e2]
      exact hc2 w n x l c (below_undrew hb) y1 y2
    | 5, ho, _ =>
      have ho' : o5 = o := by simpa using ho
      subst ho'
      have e : IsDZ z1 z2 (a.eval (.tmp t4)) w := hn 4 (by simp [flS]) rfl
      exact wp_value (run_move h5 a w) (hK _ _ (Below.refl _ _) (by simpa [upd, flΦ] using e))
    | 6, ho, _ =>
      have ho' : o6 = o := by simpa using ho
      subst ho'
      obtain ⟨na, ao, la, ca, nb, bo, lb, cb, e, y1, y2⟩ : IsDZ z1 z2 (a.eval (.tmp t5)) w := hn 5 (by simp [flS]) rfl
      exact wp_value (run_extract h6 e rfl w) (hK _ _ (Below.refl _ _) (by simp only [upd, flΦ, if_true]; exact ⟨na, ao, la, ca, rfl, y1⟩))
    | 7, ho, _ =>
      have ho' : o7 = o := by simpa using ho
      subst ho'
      obtain ⟨na, ao, la, ca, nb, bo, lb, cb, e, y1, y2⟩ : IsDZ z1 z2 (a.eval (.tmp t5)) w := hn 5 (by simp [flS]) rfl
      exact wp_value (run_extract h7 e rfl w) (hK _ _ (Below.refl _ _) (by simp only [upd, flΦ, if_true]; exact ⟨nb, bo, lb, cb, rfl, y2⟩))
    | 8, ho, _ =>
      have ho' : o8 = o := by simpa using ho
      subst ho'
      obtain ⟨na, ao, la, ca, nb, bo, lb, cb, e, y1, y2⟩ : IsDZ z1 z2 (a.eval (.tmp t5)) w := hn 5 (by simp [flS]) rfl
      exact wp_value (run_extract h8 e rfl w) (hK _ _ (Below.refl _ _) (by simp [upd, flΦ]))
    | 13, ho, _ =>
      have ho' : o13 = o := by simpa using ho
      subst ho'
      have e : a.eval (.tmp t8) = .int .i64 0 := hn 8 (by simp [flS]) rfl
      exact wp_value (run_assign h13 a w) (hK _ _ (Below.refl _ _) (by simpa [upd, flΦ] using e))
    | 9, _, hv => cases hv
    | 10, _, hv => cases hv
    | 11, _, hv => cases hv
    | 12, _, hv => cases hv
    | i + 14, ho, _ => simp at ho
  case box =>
    intro i o T z ho hk a w
    match i, ho, hk with
    | 9, ho, hk => have ho' : o9 = o := by simpa using ho
                   subst ho'; cases hk; unfold execOp; rw [h9]; simp [go_sem]
    | 10, ho, hk => have ho' : o10 = o := by simpa using ho
                    subst ho'; cases hk; unfold execOp; rw [h10]; simp [go_sem]
    | 0, _, hk => cases hk
    | 1, _, hk => cases hk
    | 2, _, hk => cases hk
    | 3, _, hk => cases hk
    | 4, _, hk => cases hk
    | 5, _, hk => cases hk
    | 6, _, hk => cases hk
    | 7, _, hk => cases hk
    | 8, _, hk => cases hk
    | 11, _, hk => cases hk
    | 12, _, hk => cases hk
    | 13, _, hk => cases hk
    | i + 14, ho, _ => simp at ho
  case put =>
    intro i o p' s' T z ho hk hp a w b hva hφ hbx
    match i, ho, hk with
    | 0, _, hk => cases hk
    | 1, _, hk => cases hk
    | 2, _, hk => cases hk
    | 3, _, hk => cases hk
    | 4, _, hk => cases hk
    | 5, _, hk => cases hk
    | 6, _, hk => cases hk
    | 7, _, hk => cases hk
    | 8, _, hk => cases hk
    | 9, _, hk => cases hk
    | 10, _, hk => cases hk
    | 13, _, hk => cases hk
    | i + 14, ho, _ => simp at ho
    | 11, ho, hk =>
      have ho' : o11 = o := by simpa using ho
      subst ho'; cases hk; cases hp
      obtain ⟨n, x, l, c, e, _⟩ := hφ
      have e1 : a.eval (.tmp t6) = .agg #[.bool n, .slice x l c] := e
      have e2 : a.eval (.tmp p) = .pointer (some ⟨b, 0, none⟩) := hva
      have d1 := hbx.cell 0
      have d2 := hbx.cell 1
      have f1 := hbx.frozen 0
      have f2 := hbx.frozen 1
      refine ⟨[.bool n, .slice x l c], e, rfl, by simp [isInt], ?_⟩
      unfold execOp; rw [h11]
      dsimp only
      rw [e1, e2]
      simp [go_sem, d1, d2, f1, f2, setFrom]
    | 12, ho, hk =>
      have ho' : o12 = o := by simpa using ho
      subst ho'; cases hk; cases hp
      obtain ⟨n, x, l, c, e, _⟩ := hφ
      have e1 : a.eval (.tmp t7) = .agg #[.bool n, .slice x l c] := e
      have e2 : a.eval (.tmp q) = .pointer (some ⟨b, 0, none⟩) := hva
      have d1 := hbx.cell 0
      have d2 := hbx.cell 1
      have f1 := hbx.frozen 0
      have f2 := hbx.frozen 1
      refine ⟨[.bool n, .slice x l c], e, rfl, by simp [isInt], ?_⟩
      unfold execOp; rw [h12]
      dsimp only
      rw [e1, e2]
      simp [go_sem, d1, d2, f1, f2, setFrom]
  case fin =>
    intro a w blk hI
    have n8 : (#[o0, o1, o2, o3, o4, o5, o6, o7, o8, o9, o10, o11, o12, o13] : Array Oper).size = 14 := rfl
    rw [n8] at hI
    have hf := hI.agree.form
    have e0 : a.eval (.tmp t0) = .pointer (some ⟨g, 0, none⟩) := hI.vals 0 (by decide) (by decide) rfl
    have e1 : a.eval (.tmp t1) = .agg #[u1, u2] := hI.vals 1 (by decide) (by decide) rfl
    have e2 : a.eval (.tmp t2) = .agg #[u1, u2, u3] := hI.vals 2 (by decide) (by decide) rfl
    obtain ⟨n1, x1, l1, k1, e6, a3⟩ : IsI z1 (a.eval (.tmp t6)) w := hI.vals 6 (by decide) (by decide) rfl
    have e8 : a.eval (.tmp t8) = .int .i64 0 := hI.vals 8 (by decide) (by decide) rfl
    have e13 : a.eval (.tmp k) = .int .i64 0 := hI.vals 13 (by decide) (by decide) rfl
    obtain ⟨p1, p2, _, p3⟩ := hI.boxes 9 25 #[.bool false, .slice none 0 0] (by decide) (by decide) rfl
    obtain ⟨us, y1, y2, y3, y4⟩ := p3 (show (11 : Nat) < 14 by decide)
    obtain ⟨q1, q2, _, q3⟩ := hI.boxes 10 25 #[.bool false, .slice none 0 0] (by decide) (by decide) rfl
    have y5 : a.eval (.tmp t6) = .agg us.toArray := y1
    rw [e6] at y5
    cases y5
    have e9 : a.eval (.tmp p) = .pointer (some ⟨blk 9, 0, none⟩) := p1
    have e10 : a.eval (.tmp q) = .pointer (some ⟨blk 10, 0, none⟩) := q1
    have hsl : (flS t0 t1 t2 t3 t4 t5 t6 t7 t8 p q k 25 #[.bool false, .slice none 0 0]).slots 14 = [t0, t1, t2, t3, t4, t5, t6, t7, t8, p, q, k] := rfl
    rw [hsl] at hf
    simp only [List.map_cons, List.map_nil, e0, e1, e2, e6, e8, e9, e10, e13] at hf
    rw [hf]
    exact hend w (blk 9) (blk 10) n1 x1 l1 k1 _ _ _ _ (below_undrew hI.below) p2 y4 a3

end Go.Proofs.YtcgnmihabkgecaaGreat

/- What the operations of drawn regions compute, said of a value and a world. -/
set_option linter.unusedVariables false
namespace Go.Proofs.YtcgnmihabkgecaaGreat
open Go.RowKit Go.Proofs

def IsIL (z : Int) (L : Nat) (v : Value) (w : World) : Prop := ∃ n o l c, v = .agg #[.bool n, .slice o l c] ∧ l ≤ L ∧ Z32 w n o l z
theorem Stable.isIL (base : Nat) (z : Int) (L : Nat) (v : Value) : Stable base (IsIL z L v) :=
  Stable.ex fun n => Stable.ex fun o => Stable.ex fun l => Stable.ex fun c => (Stable.const base _).and ((Stable.const base _).and (Stable.z32 base n o l z))
theorem OutIL.is {W w' : World} {z : Int} {L : Nat} {e : Ending} (h : OutIL W z L e w') : ∃ v, e = .returned v ∧ IsIL z L v w' ∧ Below W.heap.size W w' := by
  obtain ⟨n, o, l, c, rfl, h1, h2, h3⟩ := h
  exact ⟨_, rfl, ⟨n, o, l, c, rfl, h1, h2⟩, h3⟩

theorem Stable.q32 (base : Nat) (neg : Bool) (ao bo : Option Addr) (len bl : Nat) (p : Int) (q : Nat) : Stable base (fun w => Q32 w neg ao len bo bl p q) :=
  (Stable.z32 base neg ao len p).and ((Stable.const base _).or ((Stable.n32 base bo bl q).and (Stable.const base _)))

def IsQL (p : Int) (q L M : Nat) (v : Value) (w : World) : Prop := ∃ n o l c b m d, v = .agg #[.bool n, .slice o l c, .slice b m d] ∧ l ≤ L ∧ m ≤ M ∧ Q32 w n o l b m p q
theorem Stable.isQL (base : Nat) (p : Int) (q L M : Nat) (v : Value) : Stable base (IsQL p q L M v) :=
  Stable.ex fun n => Stable.ex fun o => Stable.ex fun l => Stable.ex fun c => Stable.ex fun b => Stable.ex fun m => Stable.ex fun d =>
    (Stable.const base _).and ((Stable.const base _).and ((Stable.const base _).and (Stable.q32 base n o b l m p q)))
/-- a tuple of a fraction and OK -/
def IsQE (p : Int) (q : Nat) (v : Value) (w : World) : Prop := ∃ n o l c b m d, v = .tuple #[.agg #[.bool n, .slice o l c, .slice b m d], .int .i64 0] ∧ Q32 w n o l b m p q
theorem Stable.isQE (base : Nat) (p : Int) (q : Nat) (v : Value) : Stable base (IsQE p q v) :=
  Stable.ex fun n => Stable.ex fun o => Stable.ex fun l => Stable.ex fun c => Stable.ex fun b => Stable.ex fun m => Stable.ex fun d =>
    (Stable.const base _).and (Stable.q32 base n o b l m p q)
theorem OutQE.is {W w' : World} {p : Int} {q : Nat} {e : Ending} (h : OutQE W p q e w') : ∃ v, e = .returned v ∧ IsQE p q v w' ∧ Below W.heap.size W w' := by
  obtain ⟨n, o, l, c, b, m, d, rfl, h1, h2⟩ := h
  exact ⟨_, rfl, ⟨n, o, l, c, b, m, d, rfl, h1⟩, h2⟩
def IsQ (p : Int) (q : Nat) (v : Value) (w : World) : Prop := ∃ n o l c b m d, v = .agg #[.bool n, .slice o l c, .slice b m d] ∧ Q32 w n o l b m p q
theorem Stable.isQ (base : Nat) (p : Int) (q : Nat) (v : Value) : Stable base (IsQ p q v) :=
  Stable.ex fun n => Stable.ex fun o => Stable.ex fun l => Stable.ex fun c => Stable.ex fun b => Stable.ex fun m => Stable.ex fun d =>
    (Stable.const base _).and (Stable.q32 base n o b l m p q)
/-- a fraction of the specification -/
def IsK (p q : Int) (v : Value) (w : World) : Prop := ∃ s1 o1 l1 c1 s2 o2 l2 c2, v = .agg #[.bool s1, .slice o1 l1 c1, .bool s2, .slice o2 l2 c2] ∧ l1 ≤ c1 ∧ c1 ≤ 9223372036854775807 ∧ l2 ≤ c2 ∧ c2 ≤ 9223372036854775807 ∧ Z16 w s1 o1 l1 p ∧ Z16 w s2 o2 l2 q
theorem Stable.isK (base : Nat) (p q : Int) (v : Value) : Stable base (IsK p q v) :=
  Stable.ex fun s1 => Stable.ex fun o1 => Stable.ex fun l1 => Stable.ex fun c1 => Stable.ex fun s2 => Stable.ex fun o2 => Stable.ex fun l2 => Stable.ex fun c2 =>
    (Stable.const base _).and ((Stable.const base _).and ((Stable.const base _).and ((Stable.const base _).and ((Stable.const base _).and ((Stable.z16 base s1 o1 l1 p).and (Stable.z16 base s2 o2 l2 q))))))
end Go.Proofs.YtcgnmihabkgecaaGreat

/- Add of fractions: the region that makes a block. -/
set_option linter.unusedVariables false
set_option linter.unusedSimpArgs false
namespace Go.Proofs.YtcgnmihabkgecaaGreat
open Go.RowKit Go.Proofs

theorem OutIL.up {W w' : World} {z : Int} {L M : Nat} {e : Ending} (h : OutIL W z L e w') (hL : L ≤ M) : OutIL W z M e w' := by
  obtain ⟨n, o, l, c, rfl, h1, h2⟩ := h
  exact ⟨n, o, l, c, rfl, Nat.le_trans h1 hL, h2⟩

def addQ_regionS : Shape where
  f := fun i => match i with | 0 => 7 | 1 => 8 | 2 => 9 | 3 => 10 | 4 => 11 | 5 => 12 | 6 => 13 | 7 => 14 | 8 => 15 | 9 => 16 | 10 => 17 | 11 => 6 | _ => 0
  kd := fun i => match i with | 11 => .box 25 #[.bool false, .slice none 0 0] | 12 => .put 11 10 | _ => .val
  need := fun i => match i with | 1 => [0] | 3 => [2] | 4 => [1, 3] | 6 => [5] | 8 => [7] | 9 => [6, 8] | 10 => [4, 9] | 12 => [11, 10] | _ => []
  st := fun i => match i with | 11 => 12 | _ => 0
  src := fun i => match i with | 11 => 10 | _ => 0

set_option maxRecDepth 4000 in
set_option maxHeartbeats 2000000 in
/-- the sum's numerator, whose block may be made at any time -/
theorem addQ_region {Q : Exit → Act → World → Prop} {id : Nat} {a0 : Act} {W : World} {o0 o1 o2 o3 o4 o5 o6 o7 o8 o9 o10 o11 o12 : Oper} (na nc : Bool) (ao bo co d_o : Option Addr) (la lb lc ld ca cb cc cd : Nat) (p r : Int) (q s : Nat) (gF : Nat) (gG : Nat) (ts3 : Array TypeId) (ts4 : Array TypeId) (ts8 : Array TypeId) (ts9 : Array TypeId) (ts10 : Array TypeId)
    (hok : addQ_regionS.ok #[o0, o1, o2, o3, o4, o5, o6, o7, o8, o9, o10, o11, o12] a0.tmps.size = true)
    (h0 : o0.op = .fieldAddr 27 (.tmp 2) 0) (h1 : o1.op = .load 25 (.tmp 7)) (h2 : o2.op = .load 27 (.tmp 3)) (h3 : o3.op = .call { callee := .value (.func 60), args := #[.tmp 9], argTypes := ts3 }) (h4 : o4.op = .call { callee := .value (.func 59), args := #[.tmp 8, .tmp 10], argTypes := ts4 }) (h5 : o5.op = .fieldAddr 27 (.tmp 3) 0) (h6 : o6.op = .load 25 (.tmp 12)) (h7 : o7.op = .load 27 (.tmp 2)) (h8 : o8.op = .call { callee := .value (.func 60), args := #[.tmp 14], argTypes := ts8 }) (h9 : o9.op = .call { callee := .value (.func 59), args := #[.tmp 13, .tmp 15], argTypes := ts9 }) (h10 : o10.op = .call { callee := .value (.func 58), args := #[.tmp 11, .tmp 16], argTypes := ts10 }) (h11 : o11.op = .alloc 25) (h12 : o12.op = .store 25 (.tmp 6) (.tmp 17))
    (hrF : a0.eval (.tmp 2) = .pointer (some ⟨gF, 0, none⟩)) (hgF : gF < W.heap.size) (cF_0 : W.cell? ⟨gF, 0, none⟩ = some (.bool na)) (cF_1 : W.cell? ⟨gF, 1, none⟩ = some (.slice ao la ca)) (cF_2 : W.cell? ⟨gF, 2, none⟩ = some (.slice bo lb cb))
    (hrG : a0.eval (.tmp 3) = .pointer (some ⟨gG, 0, none⟩)) (hgG : gG < W.heap.size) (cG_0 : W.cell? ⟨gG, 0, none⟩ = some (.bool nc)) (cG_1 : W.cell? ⟨gG, 1, none⟩ = some (.slice co lc cc)) (cG_2 : W.cell? ⟨gG, 2, none⟩ = some (.slice d_o ld cd))
    (hF : Q32 W na ao la bo lb p q) (hG : Q32 W nc co lc d_o ld r s) (hla : la ≤ 100000) (hlb : lb ≤ 100000) (hlc : lc ≤ 100000) (hld : ld ≤ 100000)
    (hend : ∀ w b11 n10 o10 l10 c10 d3 d4 d8 d9, Below W.heap.size W w → W.heap.size ≤ b11 → Box w b11 25 #[.bool n10, .slice o10 l10 c10] → l10 ≤ (la + lb + lc + ld + 7) → Z32 w n10 o10 l10 (p * (s : Int) + r * (q : Int)) → 
      Q .normal (puts a0 [(7, .pointer (some ⟨gF, 0, none⟩)), (8, .agg #[.bool na, .slice ao la ca]), (9, .agg #[.bool nc, .slice co lc cc, .slice d_o ld cd]), (10, d3), (11, d4), (12, .pointer (some ⟨gG, 0, none⟩)), (13, .agg #[.bool nc, .slice co lc cc]), (14, .agg #[.bool na, .slice ao la ca, .slice bo lb cb]), (15, d8), (16, d9), (17, .agg #[.bool n10, .slice o10 l10 c10]), (6, .pointer (some ⟨b11, 0, none⟩))]) w) :
    (Code.region id #[o0, o1, o2, o3, o4, o5, o6, o7, o8, o9, o10, o11, o12] true).wp Tryz.prog Q a0 W := by
  refine Shape.region addQ_regionS (fun i v w => (fun (v : Value) => (match i with | 0 => v = .pointer (some ⟨gF, 0, none⟩) | 1 => v = .agg #[.bool na, .slice ao la ca] | 2 => v = .agg #[.bool nc, .slice co lc cc, .slice d_o ld cd] | 3 => IsIL ((s : Int)) (ld + 1) v w | 4 => IsIL (p * (s : Int)) (la + (ld + 1) + 1) v w | 5 => v = .pointer (some ⟨gG, 0, none⟩) | 6 => v = .agg #[.bool nc, .slice co lc cc] | 7 => v = .agg #[.bool na, .slice ao la ca, .slice bo lb cb] | 8 => IsIL ((q : Int)) (lb + 1) v w | 9 => IsIL (r * (q : Int)) (lc + (lb + 1) + 1) v w | 10 => IsIL (p * (s : Int) + r * (q : Int)) (la + lb + lc + ld + 7) v w | _ => True : Prop)) (v i)) (by kernel_rfl) hok
    (fun i v v' w _ hj hΦ => by rw [← hj i (.inl rfl)]; exact hΦ) ?stab ?val ?box ?put rfl ?fin
  case stab =>
    intro i v hi
    match i with
    | 0 => exact Stable.const _ _
    | 1 => exact Stable.const _ _
    | 2 => exact Stable.const _ _
    | 3 => exact Stable.isIL _ _ _ _
    | 4 => exact Stable.isIL _ _ _ _
    | 5 => exact Stable.const _ _
    | 6 => exact Stable.const _ _
    | 7 => exact Stable.const _ _
    | 8 => exact Stable.isIL _ _ _ _
    | 9 => exact Stable.isIL _ _ _ _
    | 10 => exact Stable.isIL _ _ _ _
    | 11 => exact Stable.const _ _
    | 12 => exact Stable.const _ _
    | i + 13 => exact Stable.const _ _
  case val =>
    intro i o ho hv a w hA hb hz hn K' hK
    have hw := below_undrew hb
    have erF : a.eval (.tmp 2) = .pointer (some ⟨gF, 0, none⟩) := (hA.eval (show 2 ∉ addQ_regionS.slots 13 by decide)).trans hrF
    have kF_0 := (hb.cell (p := ⟨gF, 0, none⟩) hgF).trans cF_0
    have kF_1 := (hb.cell (p := ⟨gF, 1, none⟩) hgF).trans cF_1
    have kF_2 := (hb.cell (p := ⟨gF, 2, none⟩) hgF).trans cF_2
    have erG : a.eval (.tmp 3) = .pointer (some ⟨gG, 0, none⟩) := (hA.eval (show 3 ∉ addQ_regionS.slots 13 by decide)).trans hrG
    have kG_0 := (hb.cell (p := ⟨gG, 0, none⟩) hgG).trans cG_0
    have kG_1 := (hb.cell (p := ⟨gG, 1, none⟩) hgG).trans cG_1
    have kG_2 := (hb.cell (p := ⟨gG, 2, none⟩) hgG).trans cG_2
    match i, ho, hv with
    | 0, ho, _ =>
      have ho' : o0 = o := by simpa using ho
      subst ho'
      refine wp_value (v := .pointer (some ⟨gF, 0, none⟩)) (w' := w) ?_ (hK _ _ (Below.refl _ _) (by simp [upd]))
      unfold execOp
      rw [h0]
      dsimp only
      rw [erF]
      simp [go_sem]
    | 1, ho, _ =>
      have ho' : o1 = o := by simpa using ho
      subst ho'
      have e : a.eval (.tmp 7) = .pointer (some ⟨gF, 0, none⟩) := hn 0 (by simp [addQ_regionS]) rfl
      refine wp_value (v := .agg #[.bool na, .slice ao la ca]) (w' := w) ?_ (hK _ _ (Below.refl _ _) (by simp [upd]))
      unfold execOp
      rw [h1]
      dsimp only
      rw [e]
      simp [go_sem, kF_0, kF_1, kF_2]
    | 2, ho, _ =>
      have ho' : o2 = o := by simpa using ho
      subst ho'
      refine wp_value (v := .agg #[.bool nc, .slice co lc cc, .slice d_o ld cd]) (w' := w) ?_ (hK _ _ (Below.refl _ _) (by simp [upd]))
      unfold execOp
      rw [h2]
      dsimp only
      rw [erG]
      simp [go_sem, kG_0, kG_1, kG_2]
    | 3, ho, _ =>
      have ho' : o3 = o := by simpa using ho
      subst ho'
      have e2 : a.eval (.tmp 9) = .agg #[.bool nc, .slice co lc cc, .slice d_o ld cd] := hn 2 (by simp [addQ_regionS]) rfl
      refine wp_call (run_call Tryz.func60 (by kernel_rfl) rfl h3 a w) ?_ (fun v w' hb' hφ => hK v w' hb' (by simpa [upd] using hφ))
      have em : Array.map a.eval #[Operand.tmp 9] = #[a.eval (.tmp 9)] := by first | (simp only [List.map_toArray, List.map_cons, List.map_nil]; done) | (simp only [List.map_toArray, List.map_cons, List.map_nil]; rfl) | rfl
      rw [em, e2]
      exact (den_L nc co d_o lc ld cc cd r s w (hG.keep hw) (by omega)).mono fun e w h => h.is
    | 4, ho, _ =>
      have ho' : o4 = o := by simpa using ho
      subst ho'
      have e1 : a.eval (.tmp 8) = .agg #[.bool na, .slice ao la ca] := hn 1 (by simp [addQ_regionS]) rfl
      obtain ⟨n3, o3, l3, c3, e3, x3, y3⟩ : IsIL ((s : Int)) (ld + 1) (a.eval (.tmp 10)) w := hn 3 (by simp [addQ_regionS]) rfl
      refine wp_call (run_call Tryz.func59 (by kernel_rfl) rfl h4 a w) ?_ (fun v w' hb' hφ => hK v w' hb' (by simpa [upd] using hφ))
      have em : Array.map a.eval #[Operand.tmp 8, Operand.tmp 10] = #[a.eval (.tmp 8), a.eval (.tmp 10)] := by first | (simp only [List.map_toArray, List.map_cons, List.map_nil]; done) | (simp only [List.map_toArray, List.map_cons, List.map_nil]; rfl) | rfl
      rw [em, e1, e3]
      exact (times_L na n3 ao o3 la l3 ca c3 p (s : Int) w (hF.1.keep hw) y3 (by omega) (by omega)).mono fun e w h => OutIL.is (h.up (by omega))
    | 5, ho, _ =>
      have ho' : o5 = o := by simpa using ho
      subst ho'
      refine wp_value (v := .pointer (some ⟨gG, 0, none⟩)) (w' := w) ?_ (hK _ _ (Below.refl _ _) (by simp [upd]))
      unfold execOp
      rw [h5]
      dsimp only
      rw [erG]
      simp [go_sem]
    | 6, ho, _ =>
      have ho' : o6 = o := by simpa using ho
      subst ho'
      have e : a.eval (.tmp 12) = .pointer (some ⟨gG, 0, none⟩) := hn 5 (by simp [addQ_regionS]) rfl
      refine wp_value (v := .agg #[.bool nc, .slice co lc cc]) (w' := w) ?_ (hK _ _ (Below.refl _ _) (by simp [upd]))
      unfold execOp
      rw [h6]
      dsimp only
      rw [e]
      simp [go_sem, kG_0, kG_1, kG_2]
    | 7, ho, _ =>
      have ho' : o7 = o := by simpa using ho
      subst ho'
      refine wp_value (v := .agg #[.bool na, .slice ao la ca, .slice bo lb cb]) (w' := w) ?_ (hK _ _ (Below.refl _ _) (by simp [upd]))
      unfold execOp
      rw [h7]
      dsimp only
      rw [erF]
      simp [go_sem, kF_0, kF_1, kF_2]
    | 8, ho, _ =>
      have ho' : o8 = o := by simpa using ho
      subst ho'
      have e7 : a.eval (.tmp 14) = .agg #[.bool na, .slice ao la ca, .slice bo lb cb] := hn 7 (by simp [addQ_regionS]) rfl
      refine wp_call (run_call Tryz.func60 (by kernel_rfl) rfl h8 a w) ?_ (fun v w' hb' hφ => hK v w' hb' (by simpa [upd] using hφ))
      have em : Array.map a.eval #[Operand.tmp 14] = #[a.eval (.tmp 14)] := by first | (simp only [List.map_toArray, List.map_cons, List.map_nil]; done) | (simp only [List.map_toArray, List.map_cons, List.map_nil]; rfl) | rfl
      rw [em, e7]
      exact (den_L na ao bo la lb ca cb p q w (hF.keep hw) (by omega)).mono fun e w h => h.is
    | 9, ho, _ =>
      have ho' : o9 = o := by simpa using ho
      subst ho'
      have e6 : a.eval (.tmp 13) = .agg #[.bool nc, .slice co lc cc] := hn 6 (by simp [addQ_regionS]) rfl
      obtain ⟨n8, o8, l8, c8, e8, x8, y8⟩ : IsIL ((q : Int)) (lb + 1) (a.eval (.tmp 15)) w := hn 8 (by simp [addQ_regionS]) rfl
      refine wp_call (run_call Tryz.func59 (by kernel_rfl) rfl h9 a w) ?_ (fun v w' hb' hφ => hK v w' hb' (by simpa [upd] using hφ))
      have em : Array.map a.eval #[Operand.tmp 13, Operand.tmp 15] = #[a.eval (.tmp 13), a.eval (.tmp 15)] := by first | (simp only [List.map_toArray, List.map_cons, List.map_nil]; done) | (simp only [List.map_toArray, List.map_cons, List.map_nil]; rfl) | rfl
      rw [em, e6, e8]
      exact (times_L nc n8 co o8 lc l8 cc c8 r (q : Int) w (hG.1.keep hw) y8 (by omega) (by omega)).mono fun e w h => OutIL.is (h.up (by omega))
    | 10, ho, _ =>
      have ho' : o10 = o := by simpa using ho
      subst ho'
      obtain ⟨n4, o4, l4, c4, e4, x4, y4⟩ : IsIL (p * (s : Int)) (la + (ld + 1) + 1) (a.eval (.tmp 11)) w := hn 4 (by simp [addQ_regionS]) rfl
      obtain ⟨n9, o9, l9, c9, e9, x9, y9⟩ : IsIL (r * (q : Int)) (lc + (lb + 1) + 1) (a.eval (.tmp 16)) w := hn 9 (by simp [addQ_regionS]) rfl
      refine wp_call (run_call Tryz.func58 (by kernel_rfl) rfl h10 a w) ?_ (fun v w' hb' hφ => hK v w' hb' (by simpa [upd] using hφ))
      have em : Array.map a.eval #[Operand.tmp 11, Operand.tmp 16] = #[a.eval (.tmp 11), a.eval (.tmp 16)] := by first | (simp only [List.map_toArray, List.map_cons, List.map_nil]; done) | (simp only [List.map_toArray, List.map_cons, List.map_nil]; rfl) | rfl
      rw [em, e4, e9]
      exact (plus_L n4 n9 o4 o9 l4 l9 c4 c9 (p * (s : Int)) (r * (q : Int)) w y4 y9 (by omega) (by omega)).mono fun e w h => OutIL.is (h.up (by omega))
    | 11, _, hv => cases hv
    | 12, _, hv => cases hv
    | i + 13, ho, _ => simp at ho
  case box =>
    intro i o T z ho hk a w
    match i, ho, hk with
    | 0, _, hk => cases hk
    | 1, _, hk => cases hk
    | 2, _, hk => cases hk
    | 3, _, hk => cases hk
    | 4, _, hk => cases hk
    | 5, _, hk => cases hk
    | 6, _, hk => cases hk
    | 7, _, hk => cases hk
    | 8, _, hk => cases hk
    | 9, _, hk => cases hk
    | 10, _, hk => cases hk
    | 11, ho, hk =>
      have ho' : o11 = o := by simpa using ho
      subst ho'; cases hk; unfold execOp; rw [h11]; simp [go_sem]
    | 12, _, hk => cases hk
    | i + 13, ho, _ => simp at ho
  case put =>
    intro i o p' s' T z ho hk hp a w b hva hφ hbx
    match i, ho, hk with
    | 0, _, hk => cases hk
    | 1, _, hk => cases hk
    | 2, _, hk => cases hk
    | 3, _, hk => cases hk
    | 4, _, hk => cases hk
    | 5, _, hk => cases hk
    | 6, _, hk => cases hk
    | 7, _, hk => cases hk
    | 8, _, hk => cases hk
    | 9, _, hk => cases hk
    | 10, _, hk => cases hk
    | 11, _, hk => cases hk
    | 12, ho, hk =>
      have ho' : o12 = o := by simpa using ho
      subst ho'; cases hk; cases hp
      obtain ⟨n10, o10, l10, c10, e10, x10, y10⟩ := hφ
      have q1 : a.eval (.tmp 17) = .agg #[.bool n10, .slice o10 l10 c10] := e10
      have q2 : a.eval (.tmp 6) = .pointer (some ⟨b, 0, none⟩) := hva
      have u0 := hbx.cell 0
      have f0 := hbx.frozen 0
      have u1 := hbx.cell 1
      have f1 := hbx.frozen 1
      refine ⟨[.bool n10, .slice o10 l10 c10], e10, rfl, by simp [isInt], ?_⟩
      unfold execOp; rw [h12]
      dsimp only
      rw [q1, q2]
      simp [go_sem, u0, f0, u1, f1, setFrom]
    | i + 13, ho, _ => simp at ho
  case fin =>
    intro a w blk hI
    have n8 : (#[o0, o1, o2, o3, o4, o5, o6, o7, o8, o9, o10, o11, o12] : Array Oper).size = 13 := rfl
    rw [n8] at hI
    have hf := hI.agree.form
    have e0 : a.eval (.tmp 7) = .pointer (some ⟨gF, 0, none⟩) := hI.vals 0 (by decide) (by decide) rfl
    have e1 : a.eval (.tmp 8) = .agg #[.bool na, .slice ao la ca] := hI.vals 1 (by decide) (by decide) rfl
    have e2 : a.eval (.tmp 9) = .agg #[.bool nc, .slice co lc cc, .slice d_o ld cd] := hI.vals 2 (by decide) (by decide) rfl
    have e5 : a.eval (.tmp 12) = .pointer (some ⟨gG, 0, none⟩) := hI.vals 5 (by decide) (by decide) rfl
    have e6 : a.eval (.tmp 13) = .agg #[.bool nc, .slice co lc cc] := hI.vals 6 (by decide) (by decide) rfl
    have e7 : a.eval (.tmp 14) = .agg #[.bool na, .slice ao la ca, .slice bo lb cb] := hI.vals 7 (by decide) (by decide) rfl
    obtain ⟨n10, o10, l10, c10, e10, x10, y10⟩ : IsIL (p * (s : Int) + r * (q : Int)) (la + lb + lc + ld + 7) (a.eval (.tmp 17)) w := hI.vals 10 (by decide) (by decide) rfl
    obtain ⟨p11, r11, _, k11⟩ := hI.boxes 11 25 #[.bool false, .slice none 0 0] (by decide) (by decide) rfl
    obtain ⟨us11, i11, _, _, j11⟩ := k11 (show (12 : Nat) < 13 by decide)
    have y_11 : a.eval (.tmp 17) = .agg us11.toArray := i11
    rw [e10] at y_11
    cases y_11
    have e11 : a.eval (.tmp 6) = .pointer (some ⟨blk 11, 0, none⟩) := p11
    have hsl : addQ_regionS.slots 13 = [7, 8, 9, 10, 11, 12, 13, 14, 15, 16, 17, 6] := rfl
    rw [hsl] at hf
    simp only [List.map_cons, List.map_nil, e0, e1, e2, e5, e6, e7, e10, e11] at hf
    rw [hf]
    exact hend w (blk 11) n10 o10 l10 c10 _ _ _ _ (below_undrew hI.below) r11 j11 x10 y10
end Go.Proofs.YtcgnmihabkgecaaGreat

/- The specification's Low. -/
set_option linter.unusedVariables false
namespace Go.Proofs.YtcgnmihabkgecaaGreat
open Go.RowKit Go.Proofs

theorem lowP_zero (y : Int) : lowP 0 y = 0 := by
  unfold lowP
  rw [Int.natAbs_zero, Nat.zero_div]
  generalize (decide ((0 : Int) < 0) != decide (y < 0)) = b
  cases b <;> rfl
theorem lowQ_zero {y : Int} (hy : y ≠ 0) : lowQ 0 y = 1 := by
  unfold lowQ
  rw [Int.natAbs_zero, Nat.gcd_zero_left, Nat.div_self (by omega)]

set_option maxRecDepth 4000 in
set_option maxHeartbeats 2000000 in
theorem low_any (na nb : Bool) (ao bo : Option Addr) (la lb ca cb : Nat) (x y : Int) (W : World) (ha : Z16 W na ao la x) (hb : Z16 W nb bo lb y) (hla : la ≤ 1000000) (hlb : lb ≤ 1000000) (hac : la ≤ ca) (hacm : ca ≤ 9223372036854775807) (hbc : lb ≤ cb) (hbcm : cb ≤ 9223372036854775807) (hy : y ≠ 0) :
    Calls Tryz.prog 52 #[.agg #[.bool na, .slice ao la ca], .agg #[.bool nb, .slice bo lb cb]] W (OutK W (lowP x y) (lowQ x y : Int)) := by
  have hf : Fr W (((W.alloc (.cells #[.bool na, .slice ao la ca] 33)).alloc (.cells #[.bool nb, .slice bo lb cb] 33)).alloc (.cells #[.bool false, .slice none 0 0, .bool false, .slice none 0 0] 35)) [(33, #[.bool na, .slice ao la ca]), (33, #[.bool nb, .slice bo lb cb]), (35, #[.bool false, .slice none 0 0, .bool false, .slice none 0 0])] := (((Fr.nil W).alloc rfl _ _).alloc (by simp) _ _).alloc (by simp) _ _
  have HF := Lib.hid hf
  have HA_0 := Lib.hid (ha.keep hf.below)
  have HB_0 := Lib.hid (hb.keep hf.below)
  clear hf ha hb
  go_enter Tryz.func52, Tryz.ntmps52
  go_wp2_with fail
  obtain ⟨V, hV⟩ : ∃ V, V = (((W.alloc (.cells #[.bool na, .slice ao la ca] 33)).alloc (.cells #[.bool nb, .slice bo lb cb] 33)).alloc (.cells #[.bool false, .slice none 0 0, .bool false, .slice none 0 0] 35)) := ⟨_, rfl⟩
  rw [← hV] at HF HA_0 HB_0 ⊢
  clear hV
  by_cases hx : x = 0
  · have hx0 : lowP x y = 0 := by rw [hx]; exact lowP_zero y
    have hx1 : lowQ x y = 1 := by rw [hx]; exact lowQ_zero hy
    have HX0 := Lib.hid hx0
    have HX1 := Lib.hid hx1
    clear hx0 hx1
    refine ((sign16_any _ _ _ _ x V HA_0.out).mono fun e w h => (⟨h.1.trans (congrArg (fun t => Ending.returned (.int .i64 t)) (by rw [hx]; rfl)), h.2⟩ : e = .returned (.int .i64 0) ∧ _)).mono ?_
    rintro e w1 ⟨rfl, hb1⟩
    have HF1 := Lib.hid (HF.out.later hb1)
    clear hb1
    go_wp2_with fail
    refine (refOf_any 1 _ (by omega) (by omega)).mono ?_
    rintro e w2 ⟨s1, uo, ul, uc, rfl, huc, hum, hz2, hb2⟩
    have HF2 := Lib.hid (HF1.out.later hb2)
    have HZ2 := Lib.hid hz2
    clear hz2 hb2
    have g0 : w2.cell? ⟨W.heap.size + 2, 0, none⟩ = some (.bool false) := HF2.out.cell 2 0 rfl rfl
    have g1 : w2.cell? ⟨W.heap.size + 2, 1, none⟩ = some (.slice none 0 0) := HF2.out.cell 2 1 rfl rfl
    have g2 : w2.cell? ⟨W.heap.size + 2, 2, none⟩ = some (.bool false) := HF2.out.cell 2 2 rfl rfl
    have g3 : w2.cell? ⟨W.heap.size + 2, 3, none⟩ = some (.slice none 0 0) := HF2.out.cell 2 3 rfl rfl
    have gf0 : w2.frozen? ⟨W.heap.size + 2, 0, none⟩ = false := HF2.out.frozen 2 0 rfl
    have gf1 : w2.frozen? ⟨W.heap.size + 2, 1, none⟩ = false := HF2.out.frozen 2 1 rfl
    have gf2 : w2.frozen? ⟨W.heap.size + 2, 2, none⟩ = false := HF2.out.frozen 2 2 rfl
    have gf3 : w2.frozen? ⟨W.heap.size + 2, 3, none⟩ = false := HF2.out.frozen 2 3 rfl
    go_wp2
    obtain ⟨e0, e1, e2, e3, k1, k2, hbel⟩ := HF2.out.finK (c1 := 0) (c2 := uc) 2 rfl (Z16.nil _) HZ2.out
    exact bodyPost_ret (v := .agg #[.bool false, .slice none 0 0, .bool s1, .slice uo ul uc]) (by simp [results, Tryz.results52, go_sem, e0, e1, e2, e3]) rfl ⟨false, none, 0, 0, s1, uo, ul, uc, rfl, by omega, by omega, huc, hum, by rw [HX0.out]; exact k1, by rw [HX1.out]; exact k2, hbel⟩
  · obtain ⟨t, ht⟩ : ∃ t, t = x.sign := ⟨_, rfl⟩
    have ht0 : (t == 0) = false := by
      have : x.sign ≠ 0 := fun h => hx (Int.sign_eq_zero_iff_zero.1 h)
      rw [ht]; simp [this]
    obtain ⟨m, hm⟩ : ∃ m, m = x.natAbs := ⟨_, rfl⟩
    obtain ⟨n, hn⟩ : ∃ n, n = y.natAbs := ⟨_, rfl⟩
    have hne := HA_0.out.neg_eq
    have hnb := HB_0.out.neg_eq
    have hP : lowP x y = sgn (na != nb) (m / Nat.gcd m n) := by unfold lowP; rw [← hne, ← hnb, hm, hn]
    have hQ : (lowQ x y : Int) = sgn false (n / Nat.gcd m n) := by unfold lowQ; rw [hm, hn]; rfl
    have hn0 : 0 < n := by omega
    have hgp : 0 < Nat.gcd m n := Nat.gcd_pos_of_pos_right _ hn0
    have hgle : Nat.gcd m n ≤ n := Nat.gcd_le_right m hn0
    have HM : Hid (N16 V ao la m) := by rw [hm]; exact HA_0.out.n16
    have HN : Hid (N16 V bo lb n) := by rw [hn]; exact HB_0.out.n16
    have HP := Lib.hid hP
    have HQ := Lib.hid hQ
    have hglt := Nat.lt_of_le_of_lt hgle HN.out.lt
    have HGL := Lib.hid hglt
    refine (sign16_any _ _ _ _ x V HA_0.out).mono ?_
    rw [← ht]
    rintro e w1 ⟨rfl, hb1⟩
    clear hm hn hne hnb hP hQ hglt ht HA_0 HB_0 hx
    have HF1 := Lib.hid (HF.out.later hb1)
    have HM1 := Lib.hid (HM.out.keep hb1)
    have HN1 := Lib.hid (HN.out.keep hb1)
    clear hb1
    have a1 : w1.cell? ⟨W.heap.size, 1, none⟩ = some (.slice ao la ca) := HF1.out.cell 0 1 rfl rfl
    have a3 : w1.cell? ⟨W.heap.size + 1, 1, none⟩ = some (.slice bo lb cb) := HF1.out.cell 1 1 rfl rfl
    go_wp2_with fail
    refine (gcd16_any _ _ _ _ _ _ m n _ HM1.out HN1.out (by omega) (by omega) hac hacm hbc hbcm).mono ?_
    rintro e w2 ⟨g_o, gl, gc, rfl, hglc, hgcm, hg2, hb2⟩
    have hgl : gl ≤ 1000000 := Nat.le_trans (hg2.len_le HGL.out) hlb
    clear a1 a3
    have HF2 := Lib.hid (HF1.out.later hb2)
    have HM2 := Lib.hid (HM1.out.keep hb2)
    have HN2 := Lib.hid (HN1.out.keep hb2)
    have HG2 := Lib.hid hg2
    clear hb2 hg2
    have a1 : w2.cell? ⟨W.heap.size, 1, none⟩ = some (.slice ao la ca) := HF2.out.cell 0 1 rfl rfl
    have a3 : w2.cell? ⟨W.heap.size + 1, 1, none⟩ = some (.slice bo lb cb) := HF2.out.cell 1 1 rfl rfl
    go_wp2_with fail
    refine (divMod_any _ _ _ _ _ _ m (Nat.gcd m n) _ HM2.out HG2.out hgp (by omega) (by omega)).mono ?_
    rintro e w3 ⟨p_o, pl, pc, z_o, zl, zc, rfl, hpc, hpm, _, _, hp3, _, hb3⟩
    clear a1 a3
    have HF3 := Lib.hid (HF2.out.later hb3)
    have HN3 := Lib.hid (HN2.out.keep hb3)
    have HG3 := Lib.hid (HG2.out.keep hb3)
    have HP3 := Lib.hid hp3
    clear hb3 hp3
    have a1 : w3.cell? ⟨W.heap.size, 1, none⟩ = some (.slice ao la ca) := HF3.out.cell 0 1 rfl rfl
    have a3 : w3.cell? ⟨W.heap.size + 1, 1, none⟩ = some (.slice bo lb cb) := HF3.out.cell 1 1 rfl rfl
    go_wp2_with fail
    refine (divMod_any _ _ _ _ _ _ n (Nat.gcd m n) _ HN3.out HG3.out hgp (by omega) (by omega)).mono ?_
    rintro e w4 ⟨q_o, ql, qc, y_o, yl, yc, rfl, hqc, hqm, _, _, hq4, _, hb4⟩
    clear a1 a3
    have HF4 := Lib.hid (HF3.out.later hb4)
    have HP4 := Lib.hid (HP3.out.keep hb4)
    have HQ4 := Lib.hid hq4
    clear hb4 hq4
    have a0 : w4.cell? ⟨W.heap.size, 0, none⟩ = some (.bool na) := HF4.out.cell 0 0 rfl rfl
    have a2 : w4.cell? ⟨W.heap.size + 1, 0, none⟩ = some (.bool nb) := HF4.out.cell 1 0 rfl rfl
    go_wp2_with fail
    refine (made_any _ _ _ _ _ _ HP4.out hpc hpm).mono ?_
    rintro e w5 ⟨s1, uo, ul, uc, rfl, huc, hum, hz5, hb5⟩
    clear a0 a2
    have HF5 := Lib.hid (HF4.out.later hb5)
    have HZ5 := Lib.hid hz5
    have HQ5 := Lib.hid (HQ4.out.keep hb5)
    clear hz5 hb5
    go_wp2_with fail
    refine (made_any _ _ _ _ _ _ HQ5.out hqc hqm).mono ?_
    rintro e w6 ⟨s2, vo, vl, vc, rfl, hvc, hvm, hz6, hb6⟩
    have HF6 := Lib.hid (HF5.out.later hb6)
    have HZ6 := Lib.hid (HZ5.out.keep hb6)
    have HY6 := Lib.hid hz6
    clear hz6 hb6
    have g0 : w6.cell? ⟨W.heap.size + 2, 0, none⟩ = some (.bool false) := HF6.out.cell 2 0 rfl rfl
    have g1 : w6.cell? ⟨W.heap.size + 2, 1, none⟩ = some (.slice none 0 0) := HF6.out.cell 2 1 rfl rfl
    have g2 : w6.cell? ⟨W.heap.size + 2, 2, none⟩ = some (.bool false) := HF6.out.cell 2 2 rfl rfl
    have g3 : w6.cell? ⟨W.heap.size + 2, 3, none⟩ = some (.slice none 0 0) := HF6.out.cell 2 3 rfl rfl
    have gf0 : w6.frozen? ⟨W.heap.size + 2, 0, none⟩ = false := HF6.out.frozen 2 0 rfl
    have gf1 : w6.frozen? ⟨W.heap.size + 2, 1, none⟩ = false := HF6.out.frozen 2 1 rfl
    have gf2 : w6.frozen? ⟨W.heap.size + 2, 2, none⟩ = false := HF6.out.frozen 2 2 rfl
    have gf3 : w6.frozen? ⟨W.heap.size + 2, 3, none⟩ = false := HF6.out.frozen 2 3 rfl
    go_wp2
    obtain ⟨e0, e1, e2, e3, k1, k2, hbel⟩ := HF6.out.finK (c1 := uc) (c2 := vc) 2 rfl HZ6.out HY6.out
    exact bodyPost_ret (v := .agg #[.bool s1, .slice uo ul uc, .bool s2, .slice vo vl vc]) (by simp [results, Tryz.results52, go_sem, e0, e1, e2, e3]) rfl ⟨s1, uo, ul, uc, s2, vo, vl, vc, rfl, huc, hum, hvc, hvm, by rw [HP.out]; exact k1, by rw [HQ.out]; exact k2, hbel⟩

/-- OutK with a bound for the number of digits -/
def OutKB (W : World) (p : Int) (q : Int) (e : Ending) (w' : World) : Prop :=
  ∃ s1 o1 l1 c1 s2 o2 l2 c2, e = .returned (.agg #[.bool s1, .slice o1 l1 c1, .bool s2, .slice o2 l2 c2]) ∧ l1 ≤ 100000 ∧ l2 ≤ 100000 ∧ l1 ≤ c1 ∧ c1 ≤ 9223372036854775807 ∧ l2 ≤ c2 ∧ c2 ≤ 9223372036854775807 ∧ Z16 w' s1 o1 l1 p ∧ Z16 w' s2 o2 l2 q ∧ Below W.heap.size W w'

theorem low_B (na nb : Bool) (ao bo : Option Addr) (la lb ca cb : Nat) (x y : Int) (W : World) (ha : Z16 W na ao la x) (hb : Z16 W nb bo lb y) (hla : la ≤ 100000) (hlb : lb ≤ 100000) (hac : la ≤ ca) (hacm : ca ≤ 9223372036854775807) (hbc : lb ≤ cb) (hbcm : cb ≤ 9223372036854775807) (hy : y ≠ 0) :
    Calls Tryz.prog 52 #[.agg #[.bool na, .slice ao la ca], .agg #[.bool nb, .slice bo lb cb]] W (OutKB W (lowP x y) (lowQ x y : Int)) := by
  have h1 := ha.n16.lt
  have h2 := hb.n16.lt
  refine (low_any na nb ao bo la lb ca cb x y W ha hb (by omega) (by omega) hac hacm hbc hbcm hy).mono fun e w h => ?_
  obtain ⟨s1, o1, l1, c1, s2, o2, l2, c2, rfl, k1, k2, k3, k4, hz1, hz2, hbel⟩ := h
  refine ⟨s1, o1, l1, c1, s2, o2, l2, c2, rfl, ?_, ?_, k1, k2, k3, k4, hz1, hz2, hbel⟩
  · refine Nat.le_trans (hz1.n16.len_le (Nat.lt_of_le_of_lt ?_ h1)) hla
    unfold lowP; rw [sgn_natAbs]; exact Nat.div_le_self _ _
  · refine Nat.le_trans (hz2.n16.len_le (Nat.lt_of_le_of_lt ?_ h2)) hlb
    rw [Int.natAbs_natCast]; exact Nat.div_le_self _ _
end Go.Proofs.YtcgnmihabkgecaaGreat

/- The specification's operations of fractions. -/
set_option linter.unusedVariables false
namespace Go.Proofs.YtcgnmihabkgecaaGreat
open Go.RowKit Go.Proofs

/-- OutJ with a bound for the number of digits -/
def OutJL (W : World) (z : Int) (L : Nat) (e : Ending) (w' : World) : Prop := ∃ neg ao len cap, e = .returned (.agg #[.bool neg, .slice ao len cap]) ∧ len ≤ L ∧ len ≤ cap ∧ cap ≤ 9223372036854775807 ∧ Z16 w' neg ao len z ∧ Below W.heap.size W w'

theorem OutJ.len {W w' : World} {z : Int} {L : Nat} {e : Ending} (h : OutJ W z e w') (hL : z.natAbs < B16 ^ L) : OutJL W z L e w' := by
  obtain ⟨neg, ao, len, cap, rfl, h1, h2, hz, hb⟩ := h
  exact ⟨neg, ao, len, cap, rfl, hz.n16.len_le hL, h1, h2, hz, hb⟩

theorem mul16_lt {x y : Int} {a b : Nat} (hx : x.natAbs < B16 ^ a) (hy : y.natAbs < B16 ^ b) : (x * y).natAbs < B16 ^ (a + b) := by
  rw [Int.natAbs_mul, Nat.pow_add]
  exact Nat.mul_lt_mul'' hx hy

theorem add16_lt {x y : Int} {a b : Nat} (hx : x.natAbs < B16 ^ a) (hy : y.natAbs < B16 ^ b) : (x + y).natAbs < B16 ^ (a + b + 1) := by
  have h3 : (x + y).natAbs ≤ x.natAbs + y.natAbs := Int.natAbs_add_le x y
  have ha : B16 ^ a ≤ B16 ^ (a + b) := Nat.pow_le_pow_right B16_pos (by omega)
  have hb : B16 ^ b ≤ B16 ^ (a + b) := Nat.pow_le_pow_right B16_pos (by omega)
  rw [Nat.pow_succ, B16_eq] at *
  omega

theorem mulJ_L (na nb : Bool) (ao bo : Option Addr) (la lb ca cb : Nat) (x y : Int) (W : World) (ha : Z16 W na ao la x) (hb : Z16 W nb bo lb y) (hla : la ≤ 1000000) (hlb : lb ≤ 1000000) :
    Calls Tryz.prog 97 #[.agg #[.bool na, .slice ao la ca], .agg #[.bool nb, .slice bo lb cb]] W (OutJL W (x * y) (la + lb)) :=
  (mulZ16_any na nb ao bo la lb ca cb x y W ha hb (by omega) (by omega)).mono fun e w h => h.len (mul16_lt ha.n16.lt hb.n16.lt)
theorem addJ_L (na nb : Bool) (ao bo : Option Addr) (la lb ca cb : Nat) (x y : Int) (W : World) (ha : Z16 W na ao la x) (hb : Z16 W nb bo lb y) (hla : la ≤ 1000000) (hlb : lb ≤ 1000000) :
    Calls Tryz.prog 115 #[.agg #[.bool na, .slice ao la ca], .agg #[.bool nb, .slice bo lb cb]] W (OutJL W (x + y) (la + lb + 1)) :=
  (plus16_any na nb ao bo la lb ca cb x y W ha hb (by omega) (by omega)).mono fun e w h => h.len (add16_lt ha.n16.lt hb.n16.lt)
theorem subJ_L (na nb : Bool) (ao bo : Option Addr) (la lb ca cb : Nat) (x y : Int) (W : World) (ha : Z16 W na ao la x) (hb : Z16 W nb bo lb y) (hla : la ≤ 1000000) (hlb : lb ≤ 1000000) (hlc : lb ≤ cb) (hcm : cb ≤ 9223372036854775807) :
    Calls Tryz.prog 86 #[.agg #[.bool na, .slice ao la ca], .agg #[.bool nb, .slice bo lb cb]] W (OutJL W (x - y) (la + lb + 1)) :=
  (subZ16_any na nb ao bo la lb ca cb x y W ha hb (by omega) (by omega) hlc hcm).mono fun e w h => h.len (by
    rw [Int.sub_eq_add_neg]; exact add16_lt ha.n16.lt (by rw [Int.natAbs_neg]; exact hb.n16.lt))

theorem cell_set4 (w : World) (g b o : Nat) (u v x y : Value) (h : b ≠ g) : ((((w.setCell ⟨g, 0, none⟩ u).setCell ⟨g, 1, none⟩ v).setCell ⟨g, 2, none⟩ x).setCell ⟨g, 3, none⟩ y).cell? ⟨b, o, none⟩ = w.cell? ⟨b, o, none⟩ := by
  have e : ((((w.setCell ⟨g, 0, none⟩ u).setCell ⟨g, 1, none⟩ v).setCell ⟨g, 2, none⟩ x).setCell ⟨g, 3, none⟩ y).heap[b]? = w.heap[b]? := by
    rw [Below.heap_setCell _ _ _ _ h, Below.heap_setCell _ _ _ _ h, Below.heap_setCell _ _ _ _ h, Below.heap_setCell _ _ _ _ h]
  simp only [World.cell?, e]

end Go.Proofs.YtcgnmihabkgecaaGreat
