/- Part 10 of the contracts: TwoOf, Law5, RatB, TwoTwo, Nested, Fine, Ring, Whole2, Floor. -/
import Derived.Test.YtbihgllfllkkaaaPart9

/- The region 'a, b := of(x, n), of(y, n)', in whatever order its blocks are made. -/
set_option linter.unusedVariables false
namespace Go.Proofs.Ytbihgllfllkkaaa
open Go.RowKit Go.Proofs

/-- v is an integer of the specification -/
def IsJ (z : Int) (v : Value) (w : World) : Prop := ∃ n o l c, v = .agg #[.bool n, .slice o l c] ∧ l ≤ c ∧ c ≤ 9223372036854775807 ∧ Z16 w n o l z
/-- v is an integer of the program -/
def IsI (z : Int) (v : Value) (w : World) : Prop := ∃ n o l c, v = .agg #[.bool n, .slice o l c] ∧ Z32 w n o l z

theorem Stable.n16 (base : Nat) (ao : Option Addr) (len n : Nat) : Stable base (fun w => N16 w ao len n) :=
  ⟨fun w w' h hb => h.keep hb, fun w g T c k u h _ hb hc => by
    obtain ⟨xs, h1, h2⟩ := h
    exact ⟨xs, h1.setBox hb (noInts_get hc) k u, h2⟩⟩
theorem Stable.z16 (base : Nat) (neg : Bool) (ao : Option Addr) (len : Nat) (z : Int) : Stable base (fun w => Z16 w neg ao len z) :=
  Stable.ex fun n => (Stable.n16 base ao len n).and (Stable.const base _)
theorem Stable.isJ (base : Nat) (z : Int) (v : Value) : Stable base (IsJ z v) :=
  Stable.ex fun n => Stable.ex fun o => Stable.ex fun l => Stable.ex fun c => (Stable.const base _).and ((Stable.const base _).and ((Stable.const base _).and (Stable.z16 base n o l z)))
theorem Stable.isI (base : Nat) (z : Int) (v : Value) : Stable base (IsI z v) :=
  Stable.ex fun n => Stable.ex fun o => Stable.ex fun l => Stable.ex fun c => (Stable.const base _).and (Stable.z32 base n o l z)

theorem OutJ.is {W w' : World} {z : Int} {e : Ending} (h : OutJ W z e w') : ∃ v, e = .returned v ∧ IsJ z v w' ∧ Below W.heap.size W w' := by
  obtain ⟨n, o, l, c, rfl, h1, h2, h3, h4⟩ := h
  exact ⟨_, rfl, ⟨n, o, l, c, rfl, h1, h2, h3⟩, h4⟩

/-- a call as an operation of a plan -/
theorem wp_call {P : Program} {Q : Exit → Act → World → Prop} {o : Oper} {a : Act} {w : World} {f : FuncId} {args : Array Value} {φ : Value → World → Prop} {K : Act → World → Prop}
    (hr : (execOp a.eval o).run P w = .ok (.enter f args) w) (hc : Calls P f args w fun e w' => ∃ v, e = .returned v ∧ φ v w' ∧ Below w.heap.size w w')
    (hK : ∀ v w', Below w.heap.size w w' → φ v w' → K (a.put o.dst v) w') : o.wp P a w K Q := by
  unfold Oper.wp
  rw [hr]
  refine hc.mono ?_
  rintro e w' ⟨v, rfl, h1, h2⟩
  exact hK v w' h2 h1

theorem wp_value {P : Program} {Q : Exit → Act → World → Prop} {o : Oper} {a : Act} {w w' : World} {v : Value} {K : Act → World → Prop}
    (hr : (execOp a.eval o).run P w = .ok (.value v) w') (hK : K (a.put o.dst v) w') : o.wp P a w K Q := by
  unfold Oper.wp
  rw [hr]
  exact hK

theorem run_enter {P : Program} {f : FuncId} {fn : Func} {c : Code} (hf : P.funcs[f]? = some fn) (hname : (fn.name == "runtime.NumGoroutine") = false) (hb : fn.body = some c) (args : Array Value) (w : World) :
    (callFunc f args).run P w = .ok (.enter f args) w := by
  have h1 : ¬ fn.name = "runtime.NumGoroutine" := by simpa using hname
  simp [callFunc, hf, h1, hb]

theorem run_call {P : Program} {o : Oper} {f : FuncId} {fn : Func} {c : Code} {xs : Array Operand} {ts : Array TypeId} (hf : P.funcs[f]? = some fn) (hname : (fn.name == "runtime.NumGoroutine") = false) (hb : fn.body = some c)
    (h : o.op = .call { callee := .value (.func f), args := xs, argTypes := ts }) (a : Act) (w : World) :
    (execOp a.eval o).run P w = .ok (.enter f (xs.map a.eval)) w := by
  unfold execOp
  rw [h]
  simp [go_sem, Act.eval, run_enter hf hname hb]

def twoS (t0 t1 t2 t3 p q : Nat) (T : Nat) (z : Array Value) : Shape where
  f := fun i => match i with | 0 => t0 | 1 => t1 | 2 => t2 | 3 => t3 | 4 => p | 5 => q | _ => 0
  kd := fun i => match i with | 4 => .box T z | 5 => .box T z | 6 => .put 4 1 | 7 => .put 5 3 | _ => .val
  need := fun i => match i with | 1 => [0] | 3 => [2] | 6 => [4, 1] | 7 => [5, 3] | _ => []
  st := fun i => match i with | 4 => 6 | _ => 7
  src := fun i => match i with | 4 => 1 | _ => 3

def twoΦ (r1 r2 : Value) (z1 z2 : Int) (i : Nat) (v : Value) (w : World) : Prop :=
  match i with | 0 => v = r1 | 1 => IsJ z1 v w | 2 => v = r2 | _ => IsJ z2 v w

set_option maxHeartbeats 1000000 in
theorem two_of {Q : Exit → Act → World → Prop} {id : Nat} {a0 : Act} {W : World} {o0 o1 o2 o3 o4 o5 o6 o7 : Oper} (t0 t1 t2 t3 p q r s : Nat) (f : FuncId) (K : Value) (u1 u2 v1 v2 : Value) (g h : Nat) (z1 z2 : Int) (ts : Array TypeId) {fn : Func} {cb : Code}
    (hfn : Try.prog.funcs[f]? = some fn) (hname : (fn.name == "runtime.NumGoroutine") = false) (hbody : fn.body = some cb)
    (hok : (twoS t0 t1 t2 t3 p q 27 #[.bool false, .slice none 0 0]).ok #[o0, o1, o2, o3, o4, o5, o6, o7] a0.tmps.size = true)
    (h0 : o0.op = .load 24 (.tmp r)) (h1 : o1.op = .call { callee := .value (.func f), args := #[.tmp t0, .const K], argTypes := ts })
    (h2 : o2.op = .load 24 (.tmp s)) (h3 : o3.op = .call { callee := .value (.func f), args := #[.tmp t2, .const K], argTypes := ts })
    (h4 : o4.op = .alloc 27) (h5 : o5.op = .alloc 27) (h6 : o6.op = .store 27 (.tmp p) (.tmp t1)) (h7 : o7.op = .store 27 (.tmp q) (.tmp t3))
    (hr : a0.eval (.tmp r) = .pointer (some ⟨g, 0, none⟩)) (hs : a0.eval (.tmp s) = .pointer (some ⟨h, 0, none⟩))
    (hrs : r ∉ [t0, t1, t2, t3, p, q]) (hss : s ∉ [t0, t1, t2, t3, p, q]) (hg : g < W.heap.size) (hh : h < W.heap.size)
    (c1 : W.cell? ⟨g, 0, none⟩ = some u1) (c2 : W.cell? ⟨g, 1, none⟩ = some u2) (c3 : W.cell? ⟨h, 0, none⟩ = some v1) (c4 : W.cell? ⟨h, 1, none⟩ = some v2)
    (hc1 : ∀ w, Below W.heap.size W w → W.heap.size ≤ w.heap.size → Calls Try.prog f #[.agg #[u1, u2], K] w (OutJ w z1))
    (hc2 : ∀ w, Below W.heap.size W w → W.heap.size ≤ w.heap.size → Calls Try.prog f #[.agg #[v1, v2], K] w (OutJ w z2))
    (hend : ∀ w b1 b2 n1 x1 l1 k1 n2 x2 l2 k2, Below W.heap.size W w → W.heap.size ≤ b1 → W.heap.size ≤ b2 → b1 ≠ b2 → Box w b1 27 #[.bool n1, .slice x1 l1 k1] → Box w b2 27 #[.bool n2, .slice x2 l2 k2] →
      l1 ≤ k1 → k1 ≤ 9223372036854775807 → l2 ≤ k2 → k2 ≤ 9223372036854775807 → Z16 w n1 x1 l1 z1 → Z16 w n2 x2 l2 z2 →
      Q .normal (puts a0 [(t0, .agg #[u1, u2]), (t1, .agg #[.bool n1, .slice x1 l1 k1]), (t2, .agg #[v1, v2]), (t3, .agg #[.bool n2, .slice x2 l2 k2]), (p, .pointer (some ⟨b1, 0, none⟩)), (q, .pointer (some ⟨b2, 0, none⟩))]) w) :
    (Code.region id #[o0, o1, o2, o3, o4, o5, o6, o7] true).wp Try.prog Q a0 W := by
  refine Shape.region (twoS t0 t1 t2 t3 p q 27 #[.bool false, .slice none 0 0]) (fun i v w => twoΦ (.agg #[u1, u2]) (.agg #[v1, v2]) z1 z2 i (v i) w) (by kernel_rfl) hok
    (fun i v v' w _ hj hΦ => by rw [← hj i (.inl rfl)]; exact hΦ) ?stab ?val ?box ?put rfl ?fin
  case stab =>
    intro i v hi
    match i with
    | 0 => exact Stable.const _ _
    | 1 => exact Stable.isJ _ _ _
    | 2 => exact Stable.const _ _
    | i + 3 => exact Stable.isJ _ _ _
  case val =>
    intro i o ho hv a w hA hb hz hn K' hK
    match i, ho, hv with
    | 0, ho, _ =>
      have ho' : o0 = o := by simpa using ho
      subst ho'
      have e : a.eval (.tmp r) = .pointer (some ⟨g, 0, none⟩) := (hA.eval hrs).trans hr
      refine wp_value (v := .agg #[u1, u2]) (w' := w) ?_ (hK _ _ (Below.refl _ _) (by simp [upd, twoΦ]))
      have d1 := (hb.cell (p := ⟨g, 0, none⟩) hg).trans c1
      have d2 := (hb.cell (p := ⟨g, 1, none⟩) hg).trans c2
      unfold execOp
      rw [h0]
      dsimp only
      rw [e]
      simp [go_sem, d1, d2]
    | 1, ho, _ =>
      have ho' : o1 = o := by simpa using ho
      subst ho'
      have e := hn 0 (by simp [twoS]) rfl
      refine wp_call (run_call hfn hname hbody h1 a w) ((?_ : Calls _ _ _ _ _).mono fun e w' h => OutJ.is h) (fun v w' hb' hφ => hK v w' hb' (by simpa [upd, twoΦ] using hφ))
      have e2 : a.eval (.tmp t0) = .agg #[u1, u2] := e
      have em : Array.map a.eval #[Operand.tmp t0, Operand.const K] = #[a.eval (.tmp t0), K] := by simp only [List.map_toArray, List.map_cons, List.map_nil]; rfl
      rw [em, e2]
      exact hc1 w (below_undrew hb) hz
    | 2, ho, _ =>
      have ho' : o2 = o := by simpa using ho
      subst ho'
      have e : a.eval (.tmp s) = .pointer (some ⟨h, 0, none⟩) := (hA.eval hss).trans hs
      refine wp_value (v := .agg #[v1, v2]) (w' := w) ?_ (hK _ _ (Below.refl _ _) (by simp [upd, twoΦ]))
      have d1 := (hb.cell (p := ⟨h, 0, none⟩) hh).trans c3
      have d2 := (hb.cell (p := ⟨h, 1, none⟩) hh).trans c4
      unfold execOp
      rw [h2]
      dsimp only
      rw [e]
      simp [go_sem, d1, d2]
    | 3, ho, _ =>
      have ho' : o3 = o := by simpa using ho
      subst ho'
      have e := hn 2 (by simp [twoS]) rfl
      refine wp_call (run_call hfn hname hbody h3 a w) ((?_ : Calls _ _ _ _ _).mono fun e w' h => OutJ.is h) (fun v w' hb' hφ => hK v w' hb' (by simpa [upd, twoΦ] using hφ))
      have e2 : a.eval (.tmp t2) = .agg #[v1, v2] := e
      have em : Array.map a.eval #[Operand.tmp t2, Operand.const K] = #[a.eval (.tmp t2), K] := by simp only [List.map_toArray, List.map_cons, List.map_nil]; rfl
      rw [em, e2]
      exact hc2 w (below_undrew hb) hz
    | 4, _, hv => cases hv
    | 5, _, hv => cases hv
    | 6, _, hv => cases hv
    | 7, _, hv => cases hv
    | i + 8, ho, _ => simp at ho
  case box =>
    intro i o T z ho hk a w
    match i, ho, hk with
    | 0, _, hk => cases hk
    | 1, _, hk => cases hk
    | 2, _, hk => cases hk
    | 3, _, hk => cases hk
    | 6, _, hk => cases hk
    | 7, _, hk => cases hk
    | i + 8, ho, _ => simp at ho
    | 4, ho, hk => have ho' : o4 = o := by simpa using ho
                   subst ho'; cases hk; unfold execOp; rw [h4]; simp [go_sem]
    | 5, ho, hk => have ho' : o5 = o := by simpa using ho
                   subst ho'; cases hk; unfold execOp; rw [h5]; simp [go_sem]
  case put =>
    intro i o p' s' T z ho hk hp a w b hva hφ hbx
    match i, ho, hk with
    | 0, _, hk => cases hk
    | 1, _, hk => cases hk
    | 2, _, hk => cases hk
    | 3, _, hk => cases hk
    | 4, _, hk => cases hk
    | 5, _, hk => cases hk
    | i + 8, ho, _ => simp at ho
    | 6, ho, hk =>
      have ho' : o6 = o := by simpa using ho
      subst ho'; cases hk; cases hp
      obtain ⟨n, x, l, c, e, _⟩ := hφ
      have e1 : a.eval (.tmp t1) = .agg #[.bool n, .slice x l c] := e
      have e2 : a.eval (.tmp p) = .pointer (some ⟨b, 0, none⟩) := hva
      have d1 := hbx.cell 0
      have d2 := hbx.cell 1
      have f1 := hbx.frozen 0
      have f2 := hbx.frozen 1
      refine ⟨[.bool n, .slice x l c], e, rfl, by simp [isInt], ?_⟩
      unfold execOp; rw [h6]
      dsimp only
      rw [e1, e2]
      simp [go_sem, d1, d2, f1, f2, setFrom]
    | 7, ho, hk =>
      have ho' : o7 = o := by simpa using ho
      subst ho'; cases hk; cases hp
      obtain ⟨n, x, l, c, e, _⟩ := hφ
      have e1 : a.eval (.tmp t3) = .agg #[.bool n, .slice x l c] := e
      have e2 : a.eval (.tmp q) = .pointer (some ⟨b, 0, none⟩) := hva
      have d1 := hbx.cell 0
      have d2 := hbx.cell 1
      have f1 := hbx.frozen 0
      have f2 := hbx.frozen 1
      refine ⟨[.bool n, .slice x l c], e, rfl, by simp [isInt], ?_⟩
      unfold execOp; rw [h7]
      dsimp only
      rw [e1, e2]
      simp [go_sem, d1, d2, f1, f2, setFrom]
  case fin =>
    intro a w blk hI
    have n8 : (#[o0, o1, o2, o3, o4, o5, o6, o7] : Array Oper).size = 8 := rfl
    rw [n8] at hI
    have hf := hI.agree.form
    have e0 : a.eval (.tmp t0) = .agg #[u1, u2] := hI.vals 0 (by decide) (by decide) rfl
    obtain ⟨n1, x1, l1, k1, e1, a1, a2, a3⟩ : IsJ z1 (a.eval (.tmp t1)) w := hI.vals 1 (by decide) (by decide) rfl
    have e2 : a.eval (.tmp t2) = .agg #[v1, v2] := hI.vals 2 (by decide) (by decide) rfl
    obtain ⟨n2, x2, l2, k2, e3, b1, b2, b3⟩ : IsJ z2 (a.eval (.tmp t3)) w := hI.vals 3 (by decide) (by decide) rfl
    obtain ⟨p1, p2, _, p3⟩ := hI.boxes 4 27 #[.bool false, .slice none 0 0] (by decide) (by decide) rfl
    obtain ⟨us, y1, y2, y3, y4⟩ := p3 (show (6 : Nat) < 8 by decide)
    obtain ⟨q1, q2, _, q3⟩ := hI.boxes 5 27 #[.bool false, .slice none 0 0] (by decide) (by decide) rfl
    obtain ⟨vs, w1, w2, w3, w4⟩ := q3 (show (7 : Nat) < 8 by decide)
    have y5 : a.eval (.tmp t1) = .agg us.toArray := y1
    have w5 : a.eval (.tmp t3) = .agg vs.toArray := w1
    rw [e1] at y5
    rw [e3] at w5
    cases y5
    cases w5
    have e4 : a.eval (.tmp p) = .pointer (some ⟨blk 4, 0, none⟩) := p1
    have e5 : a.eval (.tmp q) = .pointer (some ⟨blk 5, 0, none⟩) := q1
    have hsl : (twoS t0 t1 t2 t3 p q 27 #[.bool false, .slice none 0 0]).slots 8 = [t0, t1, t2, t3, p, q] := rfl
    rw [hsl] at hf
    simp only [List.map_cons, List.map_nil, e0, e1, e2, e3, e4, e5] at hf
    rw [hf]
    exact hend w (blk 4) (blk 5) n1 x1 l1 k1 n2 x2 l2 k2 (below_undrew hI.below) p2 q2 (hI.apart 4 5 _ _ _ _ (by decide) (by decide) (by decide) (by decide) rfl rfl (by decide)) y4 w4 a1 a2 b1 b2 a3 b3
end Go.Proofs.Ytbihgllfllkkaaa

/- Facts for the laws of two integers. -/
set_option linter.unusedVariables false
namespace Go.Proofs.Ytbihgllfllkkaaa
open Go.RowKit Go.Proofs

/-- an answer with an error is told of z -/
def ToldOk (z er z' : Int) : Prop := (Fits z ∧ er = 0 ∧ z' = z) ∨ (¬ Fits z ∧ er = 3 ∧ z' = 0)

def OutT (W : World) (z : Int) (e : Ending) (w' : World) : Prop :=
  ∃ neg ao len cap er z', e = .returned (.tuple #[.agg #[.bool neg, .slice ao len cap], .int .i64 er]) ∧ len ≤ 512 ∧ Z32 w' neg ao len z' ∧ Below W.heap.size W w' ∧ ToldOk z er z'

theorem OutF.told {W w' : World} {z : Int} {e : Ending} (h : OutF W z e w') : OutT W z e w' := by
  rcases h with ⟨h, neg, ao, len, cap, rfl, hz, hb⟩ | ⟨h, rfl, hb⟩
  · exact ⟨neg, ao, len, cap, 0, z, rfl, fits_len hz h, hz, hb, .inl ⟨h, rfl, rfl⟩⟩
  · exact ⟨false, none, 0, 0, 3, 0, rfl, by omega, Z32.nil _, hb, .inr ⟨h, rfl, rfl⟩⟩

theorem told_any (na nb : Bool) (ao bo : Option Addr) (la lb ca cb : Nat) (z er z' : Int) (W : World) (ha : Z32 W na ao la z') (hb : Z16 W nb bo lb z) (hla : la ≤ 1000000000) (hlb : lb ≤ 1000000000) (ht : ToldOk z er z') :
    Calls Try.prog 14 #[.agg #[.bool na, .slice ao la ca], .int .i64 er, .agg #[.bool nb, .slice bo lb cb]] W (fun e w' => e = .returned (.bool true) ∧ Below W.heap.size W w') := by
  rcases ht with ⟨h1, rfl, rfl⟩ | ⟨h1, rfl, rfl⟩
  · exact told_fit _ _ _ _ _ _ _ _ _ _ ha hb hla hlb h1
  · exact told_out _ _ _ _ _ _ _ _ _ _ ha hb hla hlb h1

def Two (x y : Int) (W : World) (e : Ending) (w' : World) : Prop :=
  ∃ na ao la ca nb bo lb cb, e = .returned (.tuple #[.agg #[.bool na, .slice ao la ca], .agg #[.bool nb, .slice bo lb cb], .bool true]) ∧ la ≤ 512 ∧ lb ≤ 512 ∧ Z32 w' na ao la x ∧ Z32 w' nb bo lb y ∧ Below W.heap.size W w'

theorem TwoPost.fits {x y : Int} {W w' : World} {e : Ending} (h : TwoPost x y W e w') (hx : Fits x) (hy : Fits y) : Two x y W e w' := by
  obtain ⟨na, ao, la, ca, nb, bo, lb, cb, ok1, ok2, x', y', rfl, h1, h2, h3, h4, h5, h6, h7⟩ := h
  rcases h6 with ⟨_, rfl, rfl⟩ | ⟨h, _⟩
  · rcases h7 with ⟨_, rfl, rfl⟩ | ⟨h, _⟩
    · exact ⟨na, ao, la, ca, nb, bo, lb, cb, rfl, h1, h2, h3, h4, h5⟩
    · exact absurd hy h
  · exact absurd hx h

theorem fits_lt16 {x : Int} (hx : Fits x) : ∀ k, 16384 ≤ 16 * k → x.natAbs < B16 ^ k := by
  intro k hk
  have h1 := blen_le.2 (blen_lt x.natAbs)
  have h2 : blen x.natAbs ≤ 16 * k := Nat.le_trans hx hk
  rw [B16_pow]
  exact blen_le.1 h2

theorem sum_len16 {w : World} {neg : Bool} {ao : Option Addr} {len : Nat} {x y : Int} (hx : Fits x) (hy : Fits y) (h : Z16 w neg ao len (x + y)) : len ≤ 1000000000 := by
  refine Nat.le_trans (h.n16.len_le (k := 1026) ?_) (by omega)
  obtain ⟨k, hk⟩ : ∃ k, k = 1025 := ⟨_, rfl⟩
  have h1 := fits_lt16 hx k (by omega)
  have h2 := fits_lt16 hy k (by omega)
  have h3 : (x + y).natAbs ≤ x.natAbs + y.natAbs := Int.natAbs_add_le x y
  rw [show 1026 = k + 1 by omega, Nat.pow_succ, B16_eq] at *
  omega

theorem mul_len16 {w : World} {neg : Bool} {ao : Option Addr} {len : Nat} {x y : Int} (hx : Fits x) (hy : Fits y) (h : Z16 w neg ao len (x * y)) : len ≤ 1000000000 := by
  refine Nat.le_trans (h.n16.len_le (k := 2050) ?_) (by omega)
  obtain ⟨k, hk⟩ : ∃ k, k = 1025 := ⟨_, rfl⟩
  have h1 := fits_lt16 hx k (by omega)
  have h2 := fits_lt16 hy k (by omega)
  rw [Int.natAbs_mul, show 2050 = k + k by omega, Nat.pow_add]
  exact Nat.mul_lt_mul'' h1 h2

theorem sub_len16 {w : World} {neg : Bool} {ao : Option Addr} {len : Nat} {x y : Int} (hx : Fits x) (hy : Fits y) (h : Z16 w neg ao len (x - y)) : len ≤ 1000000000 := sum_len16 hx (fits_neg hy) h
end Go.Proofs.Ytbihgllfllkkaaa

/- Facts for the operations of fractions. -/
set_option linter.unusedVariables false
namespace Go.Proofs.Ytbihgllfllkkaaa
open Go.RowKit

/-- an answer with an error is told of p / q -/
def ToldQ (p : Int) (q : Nat) (er P : Int) (Q : Nat) : Prop := (FitsQ p q ∧ er = 0 ∧ P = p ∧ Q = q) ∨ (¬ FitsQ p q ∧ er = 3 ∧ P = 0 ∧ Q = 1)

def OutTQ (W : World) (p : Int) (q : Nat) (e : Ending) (w' : World) : Prop :=
  ∃ na ao la ca bo lb cb er P Q, e = .returned (.tuple #[.agg #[.bool na, .slice ao la ca, .slice bo lb cb], .int .i64 er]) ∧ la ≤ 512 ∧ lb ≤ 512 ∧ Q32 w' na ao la bo lb P Q ∧ Below W.heap.size W w' ∧ ToldQ p q er P Q

theorem Q32.lens {W : World} {na : Bool} {ao bo : Option Addr} {la lb : Nat} {p : Int} {q : Nat} (h : Q32 W na ao la bo lb p q) (hf : FitsQ p q) : la ≤ 512 ∧ lb ≤ 512 := by
  refine ⟨fits_len h.1 hf.1, ?_⟩
  rcases h.2 with ⟨h1, _⟩ | ⟨h1, _⟩
  · omega
  · refine h1.len_le ?_
    obtain ⟨k, hk⟩ : ∃ k, k = 512 := ⟨_, rfl⟩
    rw [← hk, B32_pow]
    exact blen_le.1 (Nat.le_trans hf.2 (by omega))

theorem OutFQ.told {W w' : World} {p : Int} {q : Nat} {e : Ending} (h : OutFQ W p q e w') : OutTQ W p q e w' := by
  rcases h with ⟨h, na, ao, la, ca, bo, lb, cb, rfl, hq, hb⟩ | ⟨h, rfl, hb⟩
  · exact ⟨na, ao, la, ca, bo, lb, cb, 0, p, q, rfl, (hq.lens h).1, (hq.lens h).2, hq, hb, .inl ⟨h, rfl, rfl, rfl⟩⟩
  · exact ⟨false, none, 0, 0, none, 0, 0, 3, 0, 1, rfl, by omega, by omega, ⟨Z32.nil _, .inl ⟨rfl, rfl⟩⟩, hb, .inr ⟨h, rfl, rfl, rfl⟩⟩

theorem Q32.pos {W : World} {na : Bool} {ao bo : Option Addr} {la lb : Nat} {p : Int} {q : Nat} (h : Q32 W na ao la bo lb p q) : 0 < q := by
  rcases h.2 with ⟨_, h1⟩ | ⟨_, h1⟩ <;> omega

/-- OutI with a bound for the number of digits -/
def OutIL (W : World) (z : Int) (L : Nat) (e : Ending) (w' : World) : Prop := ∃ neg ao len cap, e = .returned (.agg #[.bool neg, .slice ao len cap]) ∧ len ≤ L ∧ Z32 w' neg ao len z ∧ Below W.heap.size W w'

theorem OutI.len {W w' : World} {z : Int} {L : Nat} {e : Ending} (h : OutI W z e w') (hL : z.natAbs < B32 ^ L) : OutIL W z L e w' := by
  obtain ⟨neg, ao, len, cap, rfl, hz, hb⟩ := h
  exact ⟨neg, ao, len, cap, rfl, hz.n32.len_le hL, hz, hb⟩

theorem times_L (na nb : Bool) (ao bo : Option Addr) (la lb ca cb : Nat) (x y : Int) (W : World) (ha : Z32 W na ao la x) (hb : Z32 W nb bo lb y) (hla : la ≤ 100000000) (hlb : lb ≤ 100000000) :
    Calls Try.prog 53 #[.agg #[.bool na, .slice ao la ca], .agg #[.bool nb, .slice bo lb cb]] W (OutIL W (x * y) (la + lb + 1)) :=
  (times_any na nb ao bo la lb ca cb x y W ha hb (by omega) (by omega)).mono fun e w h => h.len (mulI_len ha.n32.lt hb.n32.lt)

theorem plus_L (na nb : Bool) (ao bo : Option Addr) (la lb ca cb : Nat) (x y : Int) (W : World) (ha : Z32 W na ao la x) (hb : Z32 W nb bo lb y) (hla : la ≤ 100000000) (hlb : lb ≤ 100000000) :
    Calls Try.prog 58 #[.agg #[.bool na, .slice ao la ca], .agg #[.bool nb, .slice bo lb cb]] W (OutIL W (x + y) (la + lb + 1)) :=
  (plus_any na nb ao bo la lb ca cb x y W ha hb (by omega) (by omega)).mono fun e w h => h.len (addI_len ha.n32.lt hb.n32.lt)

theorem den_L (na : Bool) (ao bo : Option Addr) (la lb ca cb : Nat) (p : Int) (q : Nat) (W : World) (h : Q32 W na ao la bo lb p q) (hlb : lb ≤ 100000000) :
    Calls Try.prog 27 #[.agg #[.bool na, .slice ao la ca, .slice bo lb cb]] W (OutIL W q (lb + 1)) :=
  (den_any na ao bo la lb ca cb p q W h (by omega)).mono fun e w k => k.len (by
    rw [Int.natAbs_natCast]
    rcases h.2 with ⟨h1, h2⟩ | ⟨h1, _⟩
    · rw [h2]; exact Nat.one_lt_pow (by omega) (by decide)
    · exact Nat.lt_of_lt_of_le h1.lt (Nat.pow_le_pow_right B32_pos (by omega)))

def OutQL (W : World) (p : Int) (q L M : Nat) (e : Ending) (w' : World) : Prop :=
  ∃ neg ao len cap bo bl bc, e = .returned (.agg #[.bool neg, .slice ao len cap, .slice bo bl bc]) ∧ len ≤ L ∧ bl ≤ M ∧ Q32 w' neg ao len bo bl p q ∧ Below W.heap.size W w'

theorem reduced_L (na nb : Bool) (ao bo : Option Addr) (la lb ca cb : Nat) (x y : Int) (W : World) (ha : Z32 W na ao la x) (hb : Z32 W nb bo lb y) (hla : la ≤ 1000000000) (hlb : lb ≤ 1000000000) (hy : y ≠ 0) :
    Calls Try.prog 55 #[.agg #[.bool na, .slice ao la ca], .agg #[.bool nb, .slice bo lb cb]] W (OutQL W (lowP x y) (lowQ x y) la lb) := by
  have hp : lowP x y = sgn (na != nb) (x.natAbs / Nat.gcd x.natAbs y.natAbs) := by unfold lowP; rw [ha.neg_eq, hb.neg_eq]
  have hg : 0 < Nat.gcd x.natAbs y.natAbs := Nat.gcd_pos_of_pos_right _ (by omega)
  have h1 := ha.n32.lt
  have h2 := hb.n32.lt
  refine (reduced_any na nb ao bo la lb ca cb x.natAbs y.natAbs W ha.n32 hb.n32 hla hlb (by omega) (gcd_ok _ _) (divide_ok _ _ hg) (divide_ok _ _ hg)).mono fun e w h => ?_
  obtain ⟨neg, uo, ul, uc, so, sl, sc, rfl, hq, hbel⟩ := h
  rw [← hp] at hq
  refine ⟨neg, uo, ul, uc, so, sl, sc, rfl, hq.1.n32.len_le ?_, ?_, hq, hbel⟩
  · rw [hp, sgn_natAbs]; exact Nat.lt_of_le_of_lt (Nat.div_le_self _ _) h1
  · rcases hq.2 with ⟨h3, _⟩ | ⟨h3, _⟩
    · omega
    · exact h3.len_le (Nat.lt_of_le_of_lt (Nat.div_le_self _ _) h2)

theorem newRat_L (na nb : Bool) (ao bo : Option Addr) (la lb ca cb : Nat) (x y : Int) (W : World) (ha : Z32 W na ao la x) (hb : Z32 W nb bo lb y) (hla : la ≤ 1000000000) (hlb : lb ≤ 1000000000) (hy : y ≠ 0) :
    Calls Try.prog 23 #[.agg #[.bool na, .slice ao la ca], .agg #[.bool nb, .slice bo lb cb]] W (OutQE W (lowP x y) (lowQ x y)) := by
  have hg : 0 < Nat.gcd x.natAbs y.natAbs := Nat.gcd_pos_of_pos_right _ (by omega)
  exact newRat_any na nb ao bo la lb ca cb x y W ha hb hla hlb hy (gcd_ok _ _) (divide_ok _ _ hg) (divide_ok _ _ hg)

theorem cell_set3 (w : World) (g b o : Nat) (u v x : Value) (h : b ≠ g) : (((w.setCell ⟨g, 0, none⟩ u).setCell ⟨g, 1, none⟩ v).setCell ⟨g, 2, none⟩ x).cell? ⟨b, o, none⟩ = w.cell? ⟨b, o, none⟩ := by
  have e : (((w.setCell ⟨g, 0, none⟩ u).setCell ⟨g, 1, none⟩ v).setCell ⟨g, 2, none⟩ x).heap[b]? = w.heap[b]? := by
    rw [Below.heap_setCell _ _ _ _ h, Below.heap_setCell _ _ _ _ h, Below.heap_setCell _ _ _ _ h]
  simp only [World.cell?, e]
end Go.Proofs.Ytbihgllfllkkaaa

/- Two more regions whose blocks may be made in any order: 'x, y, ok := two(of(a, n), of(b, n))' and 'i, e := x.f(y.g())'. -/
set_option linter.unusedVariables false
namespace Go.Proofs.Ytbihgllfllkkaaa
open Go.RowKit Go.Proofs

/-- v is an integer of the program, not long -/
def IsS (z : Int) (v : Value) (w : World) : Prop := ∃ n o l c, v = .agg #[.bool n, .slice o l c] ∧ l ≤ 512 ∧ Z32 w n o l z
def IsTwo (x y : Int) (v : Value) (w : World) : Prop := ∃ na ao la ca nb bo lb cb, v = .tuple #[.agg #[.bool na, .slice ao la ca], .agg #[.bool nb, .slice bo lb cb], .bool true] ∧ la ≤ 512 ∧ lb ≤ 512 ∧ Z32 w na ao la x ∧ Z32 w nb bo lb y
/-- v is an integer and no error -/
def IsE (z : Int) (v : Value) (w : World) : Prop := ∃ n o l c, v = .tuple #[.agg #[.bool n, .slice o l c], .int .i64 0] ∧ l ≤ 512 ∧ Z32 w n o l z

theorem Stable.isS (base : Nat) (z : Int) (v : Value) : Stable base (IsS z v) :=
  Stable.ex fun n => Stable.ex fun o => Stable.ex fun l => Stable.ex fun c => (Stable.const base _).and ((Stable.const base _).and (Stable.z32 base n o l z))
theorem Stable.isE (base : Nat) (z : Int) (v : Value) : Stable base (IsE z v) :=
  Stable.ex fun n => Stable.ex fun o => Stable.ex fun l => Stable.ex fun c => (Stable.const base _).and ((Stable.const base _).and (Stable.z32 base n o l z))
theorem Stable.isTwo (base : Nat) (x y : Int) (v : Value) : Stable base (IsTwo x y v) :=
  Stable.ex fun na => Stable.ex fun ao => Stable.ex fun la => Stable.ex fun ca => Stable.ex fun nb => Stable.ex fun bo => Stable.ex fun lb => Stable.ex fun cb =>
    (Stable.const base _).and ((Stable.const base _).and ((Stable.const base _).and ((Stable.z32 base na ao la x).and (Stable.z32 base nb bo lb y))))

theorem OutF.noErr {W w' : World} {z : Int} {e : Ending} (h : OutF W z e w') (hf : Fits z) : ∃ v, e = .returned v ∧ IsE z v w' ∧ Below W.heap.size W w' := by
  rcases h with ⟨_, n, o, l, c, rfl, hz, hb⟩ | ⟨hn, _⟩
  · exact ⟨_, rfl, ⟨n, o, l, c, rfl, fits_len hz hf, hz⟩, hb⟩
  · exact absurd hf hn

theorem Two.is {x y : Int} {W w' : World} {e : Ending} (h : Two x y W e w') : ∃ v, e = .returned v ∧ IsTwo x y v w' ∧ Below W.heap.size W w' := by
  obtain ⟨na, ao, la, ca, nb, bo, lb, cb, rfl, h1, h2, h3, h4, h5⟩ := h
  exact ⟨_, rfl, ⟨na, ao, la, ca, nb, bo, lb, cb, rfl, h1, h2, h3, h4⟩, h5⟩

theorem OutI.is {W w' : World} {z : Int} {e : Ending} (h : OutI W z e w') : ∃ v, e = .returned v ∧ IsI z v w' ∧ Below W.heap.size W w' := by
  obtain ⟨n, o, l, c, rfl, h3, h4⟩ := h
  exact ⟨_, rfl, ⟨n, o, l, c, rfl, h3⟩, h4⟩

theorem run_move {P : Program} {o : Oper} {t : Nat} (h : o.op = .move (.tmp t)) (a : Act) (w : World) : (execOp a.eval o).run P w = .ok (.value (a.eval (.tmp t))) w := by
  unfold execOp
  rw [h]
  rfl
theorem run_assign {P : Program} {o : Oper} {t : Nat} (h : o.op = .assign (.tmp t)) (a : Act) (w : World) : (execOp a.eval o).run P w = .ok (.value (a.eval (.tmp t))) w := by
  unfold execOp
  rw [h]
  rfl
theorem run_extract {P : Program} {o : Oper} {t i : Nat} {vs : Array Value} {v : Value} (h : o.op = .extract (.tmp t) i) {a : Act} (he : a.eval (.tmp t) = .tuple vs) (hv : vs[i]? = some v) (w : World) : (execOp a.eval o).run P w = .ok (.value v) w := by
  unfold execOp
  rw [h]
  dsimp only
  rw [he]
  simp [go_sem, Instr.extract, hv]

def ttS (t0 t1 t2 t3 t4 t5 t6 t7 t8 p q k : Nat) (T : Nat) (z : Array Value) : Shape where
  f := fun i => match i with | 0 => t0 | 1 => t1 | 2 => t2 | 3 => t3 | 4 => t4 | 5 => t5 | 6 => t6 | 7 => t7 | 8 => t8 | 9 => p | 10 => q | 13 => k | _ => 0
  kd := fun i => match i with | 9 => .box T z | 10 => .box T z | 11 => .put 9 6 | 12 => .put 10 7 | _ => .val
  need := fun i => match i with | 1 => [0] | 3 => [2] | 4 => [1, 3] | 5 => [4] | 6 => [5] | 7 => [5] | 8 => [5] | 11 => [9, 6] | 12 => [10, 7] | 13 => [8] | _ => []
  st := fun i => match i with | 9 => 11 | _ => 12
  src := fun i => match i with | 9 => 6 | _ => 7

def ttΦ (r1 r2 : Value) (z1 z2 : Int) (i : Nat) (v : Value) (w : World) : Prop :=
  match i with | 0 => v = r1 | 1 => IsJ z1 v w | 2 => v = r2 | 3 => IsJ z2 v w | 4 => IsTwo z1 z2 v w | 5 => IsTwo z1 z2 v w | 6 => IsS z1 v w | 7 => IsS z2 v w | _ => v = .bool true

set_option maxHeartbeats 2000000 in
theorem two_two {Q : Exit → Act → World → Prop} {id : Nat} {a0 : Act} {W : World} {o0 o1 o2 o3 o4 o5 o6 o7 o8 o9 o10 o11 o12 o13 : Oper} (t0 t1 t2 t3 t4 t5 t6 t7 t8 p q k r s : Nat) (f f2 : FuncId) (K : Value) (u1 u2 v1 v2 : Value) (g h : Nat) (z1 z2 : Int) (ts ts2 : Array TypeId) {fn fn2 : Func} {cb cb2 : Code}
    (hfn : Try.prog.funcs[f]? = some fn) (hname : (fn.name == "runtime.NumGoroutine") = false) (hbody : fn.body = some cb)
    (hfn2 : Try.prog.funcs[f2]? = some fn2) (hname2 : (fn2.name == "runtime.NumGoroutine") = false) (hbody2 : fn2.body = some cb2)
    (hok : (ttS t0 t1 t2 t3 t4 t5 t6 t7 t8 p q k 31 #[.bool false, .slice none 0 0]).ok #[o0, o1, o2, o3, o4, o5, o6, o7, o8, o9, o10, o11, o12, o13] a0.tmps.size = true)
    (h0 : o0.op = .load 24 (.tmp r)) (h1 : o1.op = .call { callee := .value (.func f), args := #[.tmp t0, .const K], argTypes := ts })
    (h2 : o2.op = .load 24 (.tmp s)) (h3 : o3.op = .call { callee := .value (.func f), args := #[.tmp t2, .const K], argTypes := ts })
    (h4 : o4.op = .call { callee := .value (.func f2), args := #[.tmp t1, .tmp t3], argTypes := ts2 }) (h5 : o5.op = .move (.tmp t4))
    (h6 : o6.op = .extract (.tmp t5) 0) (h7 : o7.op = .extract (.tmp t5) 1) (h8 : o8.op = .extract (.tmp t5) 2)
    (h9 : o9.op = .alloc 31) (h10 : o10.op = .alloc 31) (h11 : o11.op = .store 31 (.tmp p) (.tmp t6)) (h12 : o12.op = .store 31 (.tmp q) (.tmp t7)) (h13 : o13.op = .assign (.tmp t8))
    (hr : a0.eval (.tmp r) = .pointer (some ⟨g, 0, none⟩)) (hs : a0.eval (.tmp s) = .pointer (some ⟨h, 0, none⟩))
    (hrs : r ∉ [t0, t1, t2, t3, t4, t5, t6, t7, t8, p, q, k]) (hss : s ∉ [t0, t1, t2, t3, t4, t5, t6, t7, t8, p, q, k]) (hg : g < W.heap.size) (hh : h < W.heap.size)
    (c1 : W.cell? ⟨g, 0, none⟩ = some u1) (c2 : W.cell? ⟨g, 1, none⟩ = some u2) (c3 : W.cell? ⟨h, 0, none⟩ = some v1) (c4 : W.cell? ⟨h, 1, none⟩ = some v2)
    (hc1 : ∀ w, Below W.heap.size W w → W.heap.size ≤ w.heap.size → Calls Try.prog f #[.agg #[u1, u2], K] w (OutJ w z1))
    (hc2 : ∀ w, Below W.heap.size W w → W.heap.size ≤ w.heap.size → Calls Try.prog f #[.agg #[v1, v2], K] w (OutJ w z2))
    (hc3 : ∀ w n1 x1 l1 k1 n2 x2 l2 k2, Z16 w n1 x1 l1 z1 → Z16 w n2 x2 l2 z2 → Calls Try.prog f2 #[.agg #[.bool n1, .slice x1 l1 k1], .agg #[.bool n2, .slice x2 l2 k2]] w (Two z1 z2 w))
    (hend : ∀ w b1 b2 n1 x1 l1 k1 n2 x2 l2 k2 d1 d3 d4 d5, Below W.heap.size W w → W.heap.size ≤ b1 → W.heap.size ≤ b2 → b1 ≠ b2 → Box w b1 31 #[.bool n1, .slice x1 l1 k1] → Box w b2 31 #[.bool n2, .slice x2 l2 k2] →
      l1 ≤ 512 → l2 ≤ 512 → Z32 w n1 x1 l1 z1 → Z32 w n2 x2 l2 z2 →
      Q .normal (puts a0 [(t0, .agg #[u1, u2]), (t1, d1), (t2, .agg #[v1, v2]), (t3, d3), (t4, d4), (t5, d5), (t6, .agg #[.bool n1, .slice x1 l1 k1]), (t7, .agg #[.bool n2, .slice x2 l2 k2]), (t8, .bool true),
        (p, .pointer (some ⟨b1, 0, none⟩)), (q, .pointer (some ⟨b2, 0, none⟩)), (k, .bool true)]) w) :
    (Code.region id #[o0, o1, o2, o3, o4, o5, o6, o7, o8, o9, o10, o11, o12, o13] true).wp Try.prog Q a0 W := by
  refine Shape.region (ttS t0 t1 t2 t3 t4 t5 t6 t7 t8 p q k 31 #[.bool false, .slice none 0 0]) (fun i v w => ttΦ (.agg #[u1, u2]) (.agg #[v1, v2]) z1 z2 i (v i) w) (by kernel_rfl) hok
    (fun i v v' w _ hj hΦ => by rw [← hj i (.inl rfl)]; exact hΦ) ?stab ?val ?box ?put rfl ?fin
  case stab =>
    intro i v hi
    match i with
    | 0 => exact Stable.const _ _
    | 1 => exact Stable.isJ _ _ _
    | 2 => exact Stable.const _ _
    | 3 => exact Stable.isJ _ _ _
    | 4 => exact Stable.isTwo _ _ _ _
    | 5 => exact Stable.isTwo _ _ _ _
    | 6 => exact Stable.isS _ _ _
    | 7 => exact Stable.isS _ _ _
    | i + 8 => exact Stable.const _ _
  case val =>
    intro i o ho hv a w hA hb hz hn K' hK
    match i, ho, hv with
    | 0, ho, _ =>
      have ho' : o0 = o := by simpa using ho
      subst ho'
      have e : a.eval (.tmp r) = .pointer (some ⟨g, 0, none⟩) := (hA.eval hrs).trans hr
      refine wp_value (v := .agg #[u1, u2]) (w' := w) ?_ (hK _ _ (Below.refl _ _) (by simp [upd, ttΦ]))
      have d1 := (hb.cell (p := ⟨g, 0, none⟩) hg).trans c1
      have d2 := (hb.cell (p := ⟨g, 1, none⟩) hg).trans c2
      unfold execOp
      rw [h0]
      dsimp only
      rw [e]
      simp [go_sem, d1, d2]
    | 1, ho, _ =>
      have ho' : o1 = o := by simpa using ho
      subst ho'
      have e := hn 0 (by simp [ttS]) rfl
      refine wp_call (run_call hfn hname hbody h1 a w) ((?_ : Calls _ _ _ _ _).mono fun e w' h => OutJ.is h) (fun v w' hb' hφ => hK v w' hb' (by simpa [upd, ttΦ] using hφ))
      have e2 : a.eval (.tmp t0) = .agg #[u1, u2] := e
      have em : Array.map a.eval #[Operand.tmp t0, Operand.const K] = #[a.eval (.tmp t0), K] := by simp only [List.map_toArray, List.map_cons, List.map_nil]; rfl
      rw [em, e2]
      exact hc1 w (below_undrew hb) hz
    | 2, ho, _ =>
      have ho' : o2 = o := by simpa using ho
      subst ho'
      have e : a.eval (.tmp s) = .pointer (some ⟨h, 0, none⟩) := (hA.eval hss).trans hs
      refine wp_value (v := .agg #[v1, v2]) (w' := w) ?_ (hK _ _ (Below.refl _ _) (by simp [upd, ttΦ]))
      have d1 := (hb.cell (p := ⟨h, 0, none⟩) hh).trans c3
      have d2 := (hb.cell (p := ⟨h, 1, none⟩) hh).trans c4
      unfold execOp
      rw [h2]
      dsimp only
      rw [e]
      simp [go_sem, d1, d2]
    | 3, ho, _ =>
      have ho' : o3 = o := by simpa using ho
      subst ho'
      have e := hn 2 (by simp [ttS]) rfl
      refine wp_call (run_call hfn hname hbody h3 a w) ((?_ : Calls _ _ _ _ _).mono fun e w' h => OutJ.is h) (fun v w' hb' hφ => hK v w' hb' (by simpa [upd, ttΦ] using hφ))
      have e2 : a.eval (.tmp t2) = .agg #[v1, v2] := e
      have em : Array.map a.eval #[Operand.tmp t2, Operand.const K] = #[a.eval (.tmp t2), K] := by simp only [List.map_toArray, List.map_cons, List.map_nil]; rfl
      rw [em, e2]
      exact hc2 w (below_undrew hb) hz
    | 4, ho, _ =>
      have ho' : o4 = o := by simpa using ho
      subst ho'
      obtain ⟨n1, x1, l1, k1, e1, _, _, y1⟩ : IsJ z1 (a.eval (.tmp t1)) w := hn 1 (by simp [ttS]) rfl
      obtain ⟨n2, x2, l2, k2, e2, _, _, y2⟩ : IsJ z2 (a.eval (.tmp t3)) w := hn 3 (by simp [ttS]) rfl
      refine wp_call (run_call hfn2 hname2 hbody2 h4 a w) ((?_ : Calls _ _ _ _ _).mono fun e w' h => Two.is h) (fun v w' hb' hφ => hK v w' hb' (by simpa [upd, ttΦ] using hφ))
      have em : Array.map a.eval #[Operand.tmp t1, Operand.tmp t3] = #[a.eval (.tmp t1), a.eval (.tmp t3)] := by simp only [List.map_toArray, List.map_cons, List.map_nil]
      rw [em, e1, e2]
      exact hc3 w n1 x1 l1 k1 n2 x2 l2 k2 y1 y2
    | 5, ho, _ =>
      have ho' : o5 = o := by simpa using ho
      subst ho'
      have e : IsTwo z1 z2 (a.eval (.tmp t4)) w := hn 4 (by simp [ttS]) rfl
      exact wp_value (run_move h5 a w) (hK _ _ (Below.refl _ _) (by simpa [upd, ttΦ] using e))
    | 6, ho, _ =>
      have ho' : o6 = o := by simpa using ho
      subst ho'
      obtain ⟨na, ao, la, ca, nb, bo, lb, cb, e, m1, m2, y1, y2⟩ : IsTwo z1 z2 (a.eval (.tmp t5)) w := hn 5 (by simp [ttS]) rfl
      exact wp_value (run_extract h6 e rfl w) (hK _ _ (Below.refl _ _) (by simp only [upd, ttΦ, if_true]; exact ⟨na, ao, la, ca, rfl, m1, y1⟩))
    | 7, ho, _ =>
      have ho' : o7 = o := by simpa using ho
      subst ho'
      obtain ⟨na, ao, la, ca, nb, bo, lb, cb, e, m1, m2, y1, y2⟩ : IsTwo z1 z2 (a.eval (.tmp t5)) w := hn 5 (by simp [ttS]) rfl
      exact wp_value (run_extract h7 e rfl w) (hK _ _ (Below.refl _ _) (by simp only [upd, ttΦ, if_true]; exact ⟨nb, bo, lb, cb, rfl, m2, y2⟩))
    | 8, ho, _ =>
      have ho' : o8 = o := by simpa using ho
      subst ho'
      obtain ⟨na, ao, la, ca, nb, bo, lb, cb, e, m1, m2, y1, y2⟩ : IsTwo z1 z2 (a.eval (.tmp t5)) w := hn 5 (by simp [ttS]) rfl
      exact wp_value (run_extract h8 e rfl w) (hK _ _ (Below.refl _ _) (by simp [upd, ttΦ]))
    | 13, ho, _ =>
      have ho' : o13 = o := by simpa using ho
      subst ho'
      have e : a.eval (.tmp t8) = .bool true := hn 8 (by simp [ttS]) rfl
      exact wp_value (run_assign h13 a w) (hK _ _ (Below.refl _ _) (by simpa [upd, ttΦ] using e))
    | 9, _, hv => cases hv
    | 10, _, hv => cases hv
    | 11, _, hv => cases hv
    | 12, _, hv => cases hv
    | i + 14, ho, _ => simp at ho
  case box =>
    intro i o T z ho hk a w
    match i, ho, hk with
    | 9, ho, hk => have ho' : o9 = o := by simpa using ho
                   subst ho'; cases hk; unfold execOp; rw [h9]; simp [go_sem]
    | 10, ho, hk => have ho' : o10 = o := by simpa using ho
                    subst ho'; cases hk; unfold execOp; rw [h10]; simp [go_sem]
    | 0, _, hk => cases hk
    | 1, _, hk => cases hk
    | 2, _, hk => cases hk
    | 3, _, hk => cases hk
    | 4, _, hk => cases hk
    | 5, _, hk => cases hk
    | 6, _, hk => cases hk
    | 7, _, hk => cases hk
    | 8, _, hk => cases hk
    | 11, _, hk => cases hk
    | 12, _, hk => cases hk
    | 13, _, hk => cases hk
    | i + 14, ho, _ => simp at ho
  case put =>
    intro i o p' s' T z ho hk hp a w b hva hφ hbx
    match i, ho, hk with
    | 0, _, hk => cases hk
    | 1, _, hk => cases hk
    | 2, _, hk => cases hk
    | 3, _, hk => cases hk
    | 4, _, hk => cases hk
    | 5, _, hk => cases hk
    | 6, _, hk => cases hk
    | 7, _, hk => cases hk
    | 8, _, hk => cases hk
    | 9, _, hk => cases hk
    | 10, _, hk => cases hk
    | 13, _, hk => cases hk
    | i + 14, ho, _ => simp at ho
    | 11, ho, hk =>
      have ho' : o11 = o := by simpa using ho
      subst ho'; cases hk; cases hp
      obtain ⟨n, x, l, c, e, _⟩ := hφ
      have e1 : a.eval (.tmp t6) = .agg #[.bool n, .slice x l c] := e
      have e2 : a.eval (.tmp p) = .pointer (some ⟨b, 0, none⟩) := hva
      have d1 := hbx.cell 0
      have d2 := hbx.cell 1
      have f1 := hbx.frozen 0
      have f2 := hbx.frozen 1
      refine ⟨[.bool n, .slice x l c], e, rfl, by simp [isInt], ?_⟩
      unfold execOp; rw [h11]
      dsimp only
      rw [e1, e2]
      simp [go_sem, d1, d2, f1, f2, setFrom]
    | 12, ho, hk =>
      have ho' : o12 = o := by simpa using ho
      subst ho'; cases hk; cases hp
      obtain ⟨n, x, l, c, e, _⟩ := hφ
      have e1 : a.eval (.tmp t7) = .agg #[.bool n, .slice x l c] := e
      have e2 : a.eval (.tmp q) = .pointer (some ⟨b, 0, none⟩) := hva
      have d1 := hbx.cell 0
      have d2 := hbx.cell 1
      have f1 := hbx.frozen 0
      have f2 := hbx.frozen 1
      refine ⟨[.bool n, .slice x l c], e, rfl, by simp [isInt], ?_⟩
      unfold execOp; rw [h12]
      dsimp only
      rw [e1, e2]
      simp [go_sem, d1, d2, f1, f2, setFrom]
  case fin =>
    intro a w blk hI
    have n8 : (#[o0, o1, o2, o3, o4, o5, o6, o7, o8, o9, o10, o11, o12, o13] : Array Oper).size = 14 := rfl
    rw [n8] at hI
    have hf := hI.agree.form
    have e0 : a.eval (.tmp t0) = .agg #[u1, u2] := hI.vals 0 (by decide) (by decide) rfl
    have e2 : a.eval (.tmp t2) = .agg #[v1, v2] := hI.vals 2 (by decide) (by decide) rfl
    obtain ⟨n1, x1, l1, k1, e6, a1, a3⟩ : IsS z1 (a.eval (.tmp t6)) w := hI.vals 6 (by decide) (by decide) rfl
    obtain ⟨n2, x2, l2, k2, e7, b1, b3⟩ : IsS z2 (a.eval (.tmp t7)) w := hI.vals 7 (by decide) (by decide) rfl
    have e8 : a.eval (.tmp t8) = .bool true := hI.vals 8 (by decide) (by decide) rfl
    have e13 : a.eval (.tmp k) = .bool true := hI.vals 13 (by decide) (by decide) rfl
    obtain ⟨p1, p2, _, p3⟩ := hI.boxes 9 31 #[.bool false, .slice none 0 0] (by decide) (by decide) rfl
    obtain ⟨us, y1, y2, y3, y4⟩ := p3 (show (11 : Nat) < 14 by decide)
    obtain ⟨q1, q2, _, q3⟩ := hI.boxes 10 31 #[.bool false, .slice none 0 0] (by decide) (by decide) rfl
    obtain ⟨vs, w1, w2, w3, w4⟩ := q3 (show (12 : Nat) < 14 by decide)
    have y5 : a.eval (.tmp t6) = .agg us.toArray := y1
    have w5 : a.eval (.tmp t7) = .agg vs.toArray := w1
    rw [e6] at y5
    rw [e7] at w5
    cases y5
    cases w5
    have e9 : a.eval (.tmp p) = .pointer (some ⟨blk 9, 0, none⟩) := p1
    have e10 : a.eval (.tmp q) = .pointer (some ⟨blk 10, 0, none⟩) := q1
    have hsl : (ttS t0 t1 t2 t3 t4 t5 t6 t7 t8 p q k 31 #[.bool false, .slice none 0 0]).slots 14 = [t0, t1, t2, t3, t4, t5, t6, t7, t8, p, q, k] := rfl
    rw [hsl] at hf
    simp only [List.map_cons, List.map_nil, e0, e2, e6, e7, e8, e9, e10, e13] at hf
    rw [hf]
    exact hend w (blk 9) (blk 10) n1 x1 l1 k1 n2 x2 l2 k2 _ _ _ _ (below_undrew hI.below) p2 q2 (hI.apart 9 10 _ _ _ _ (by decide) (by decide) (by decide) (by decide) rfl rfl (by decide)) y4 w4 a1 b1 a3 b3
end Go.Proofs.Ytbihgllfllkkaaa

/- A region 'i, e := x.f(y.g())', whose block may be made at any time. -/
set_option linter.unusedVariables false
namespace Go.Proofs.Ytbihgllfllkkaaa
open Go.RowKit Go.Proofs

def neS (t0 t1 t2 t3 t4 t5 t6 p k : Nat) (T : Nat) (z : Array Value) : Shape where
  f := fun i => match i with | 0 => t0 | 1 => t1 | 2 => t2 | 3 => t3 | 4 => t4 | 5 => t5 | 6 => t6 | 7 => p | 9 => k | _ => 0
  kd := fun i => match i with | 7 => .box T z | 8 => .put 7 5 | _ => .val
  need := fun i => match i with | 2 => [1] | 3 => [0, 2] | 4 => [3] | 5 => [4] | 6 => [4] | 8 => [7, 5] | 9 => [6] | _ => []
  st := fun _ => 8
  src := fun _ => 5

def neΦ (r1 r2 : Value) (zn z : Int) (i : Nat) (v : Value) (w : World) : Prop :=
  match i with | 0 => v = r1 | 1 => v = r2 | 2 => IsS zn v w | 3 => IsE z v w | 4 => IsE z v w | 5 => IsS z v w | _ => v = .int .i64 0

set_option maxHeartbeats 2000000 in
theorem nested {Q : Exit → Act → World → Prop} {id : Nat} {a0 : Act} {W : World} {o0 o1 o2 o3 o4 o5 o6 o7 o8 o9 : Oper} (t0 t1 t2 t3 t4 t5 t6 p k r s : Nat) (f f2 : FuncId) (u1 u2 v1 v2 : Value) (g h : Nat) (zn z : Int) (ts ts2 : Array TypeId) {fn fn2 : Func} {cb cb2 : Code}
    (hfn : Try.prog.funcs[f]? = some fn) (hname : (fn.name == "runtime.NumGoroutine") = false) (hbody : fn.body = some cb)
    (hfn2 : Try.prog.funcs[f2]? = some fn2) (hname2 : (fn2.name == "runtime.NumGoroutine") = false) (hbody2 : fn2.body = some cb2)
    (hok : (neS t0 t1 t2 t3 t4 t5 t6 p k 31 #[.bool false, .slice none 0 0]).ok #[o0, o1, o2, o3, o4, o5, o6, o7, o8, o9] a0.tmps.size = true)
    (h0 : o0.op = .load 31 (.tmp r)) (h1 : o1.op = .load 31 (.tmp s)) (h2 : o2.op = .call { callee := .value (.func f), args := #[.tmp t1], argTypes := ts })
    (h3 : o3.op = .call { callee := .value (.func f2), args := #[.tmp t0, .tmp t2], argTypes := ts2 }) (h4 : o4.op = .move (.tmp t3))
    (h5 : o5.op = .extract (.tmp t4) 0) (h6 : o6.op = .extract (.tmp t4) 1)
    (h7 : o7.op = .alloc 31) (h8 : o8.op = .store 31 (.tmp p) (.tmp t5)) (h9 : o9.op = .assign (.tmp t6))
    (hr : a0.eval (.tmp r) = .pointer (some ⟨g, 0, none⟩)) (hs : a0.eval (.tmp s) = .pointer (some ⟨h, 0, none⟩))
    (hrs : r ∉ [t0, t1, t2, t3, t4, t5, t6, p, k]) (hss : s ∉ [t0, t1, t2, t3, t4, t5, t6, p, k]) (hg : g < W.heap.size) (hh : h < W.heap.size)
    (c1 : W.cell? ⟨g, 0, none⟩ = some u1) (c2 : W.cell? ⟨g, 1, none⟩ = some u2) (c3 : W.cell? ⟨h, 0, none⟩ = some v1) (c4 : W.cell? ⟨h, 1, none⟩ = some v2)
    (hc1 : ∀ w, Below W.heap.size W w → Calls Try.prog f #[.agg #[v1, v2]] w (fun e w' => ∃ v, e = .returned v ∧ IsS zn v w' ∧ Below w.heap.size w w'))
    (hc2 : ∀ w n x l c, Below W.heap.size W w → l ≤ 512 → Z32 w n x l zn → Calls Try.prog f2 #[.agg #[u1, u2], .agg #[.bool n, .slice x l c]] w (fun e w' => ∃ v, e = .returned v ∧ IsE z v w' ∧ Below w.heap.size w w'))
    (hend : ∀ w b1 n x l c d2 d3 d4, Below W.heap.size W w → W.heap.size ≤ b1 → Box w b1 31 #[.bool n, .slice x l c] → l ≤ 512 → Z32 w n x l z →
      Q .normal (puts a0 [(t0, .agg #[u1, u2]), (t1, .agg #[v1, v2]), (t2, d2), (t3, d3), (t4, d4), (t5, .agg #[.bool n, .slice x l c]), (t6, .int .i64 0), (p, .pointer (some ⟨b1, 0, none⟩)), (k, .int .i64 0)]) w) :
    (Code.region id #[o0, o1, o2, o3, o4, o5, o6, o7, o8, o9] true).wp Try.prog Q a0 W := by
  refine Shape.region (neS t0 t1 t2 t3 t4 t5 t6 p k 31 #[.bool false, .slice none 0 0]) (fun i v w => neΦ (.agg #[u1, u2]) (.agg #[v1, v2]) zn z i (v i) w) (by kernel_rfl) hok
    (fun i v v' w _ hj hΦ => by rw [← hj i (.inl rfl)]; exact hΦ) ?stab ?val ?box ?put rfl ?fin
  case stab =>
    intro i v hi
    match i with
    | 0 => exact Stable.const _ _
    | 1 => exact Stable.const _ _
    | 2 => exact Stable.isS _ _ _
    | 3 => exact Stable.isE _ _ _
    | 4 => exact Stable.isE _ _ _
    | 5 => exact Stable.isS _ _ _
    | i + 6 => exact Stable.const _ _
  case val =>
    intro i o ho hv a w hA hb hz hn K' hK
    match i, ho, hv with
    | 0, ho, _ =>
      have ho' : o0 = o := by simpa using ho
      subst ho'
      have e : a.eval (.tmp r) = .pointer (some ⟨g, 0, none⟩) := (hA.eval hrs).trans hr
      refine wp_value (v := .agg #[u1, u2]) (w' := w) ?_ (hK _ _ (Below.refl _ _) (by simp [upd, neΦ]))
      have d1 := (hb.cell (p := ⟨g, 0, none⟩) hg).trans c1
      have d2 := (hb.cell (p := ⟨g, 1, none⟩) hg).trans c2
      unfold execOp
      rw [h0]
      dsimp only
      rw [e]
      simp [go_sem, d1, d2]
    | 1, ho, _ =>
      have ho' : o1 = o := by simpa using ho
      subst ho'
      have e : a.eval (.tmp s) = .pointer (some ⟨h, 0, none⟩) := (hA.eval hss).trans hs
      refine wp_value (v := .agg #[v1, v2]) (w' := w) ?_ (hK _ _ (Below.refl _ _) (by simp [upd, neΦ]))
      have d1 := (hb.cell (p := ⟨h, 0, none⟩) hh).trans c3
      have d2 := (hb.cell (p := ⟨h, 1, none⟩) hh).trans c4
      unfold execOp
      rw [h1]
      dsimp only
      rw [e]
      simp [go_sem, d1, d2]
    | 2, ho, _ =>
      have ho' : o2 = o := by simpa using ho
      subst ho'
      have e : a.eval (.tmp t1) = .agg #[v1, v2] := hn 1 (by simp [neS]) rfl
      refine wp_call (run_call hfn hname hbody h2 a w) ?_ (fun v w' hb' hφ => hK v w' hb' (by simpa [upd, neΦ] using hφ))
      have em : Array.map a.eval #[Operand.tmp t1] = #[a.eval (.tmp t1)] := by simp only [List.map_toArray, List.map_cons, List.map_nil]
      rw [em, e]
      exact hc1 w (below_undrew hb)
    | 3, ho, _ =>
      have ho' : o3 = o := by simpa using ho
      subst ho'
      have e : a.eval (.tmp t0) = .agg #[u1, u2] := hn 0 (by simp [neS]) rfl
      obtain ⟨n, x, l, c, e2, y1, y2⟩ : IsS zn (a.eval (.tmp t2)) w := hn 2 (by simp [neS]) rfl
      refine wp_call (run_call hfn2 hname2 hbody2 h3 a w) ?_ (fun v w' hb' hφ => hK v w' hb' (by simpa [upd, neΦ] using hφ))
      have em : Array.map a.eval #[Operand.tmp t0, Operand.tmp t2] = #[a.eval (.tmp t0), a.eval (.tmp t2)] := by simp only [List.map_toArray, List.map_cons, List.map_nil]
      rw [em, e, e2]
      exact hc2 w n x l c (below_undrew hb) y1 y2
    | 4, ho, _ =>
      have ho' : o4 = o := by simpa using ho
      subst ho'
      have e : IsE z (a.eval (.tmp t3)) w := hn 3 (by simp [neS]) rfl
      exact wp_value (run_move h4 a w) (hK _ _ (Below.refl _ _) (by simpa [upd, neΦ] using e))
    | 5, ho, _ =>
      have ho' : o5 = o := by simpa using ho
      subst ho'
      obtain ⟨n, x, l, c, e, m1, y1⟩ : IsE z (a.eval (.tmp t4)) w := hn 4 (by simp [neS]) rfl
      exact wp_value (run_extract h5 e rfl w) (hK _ _ (Below.refl _ _) (by simp only [upd, neΦ, if_true]; exact ⟨n, x, l, c, rfl, m1, y1⟩))
    | 6, ho, _ =>
      have ho' : o6 = o := by simpa using ho
      subst ho'
      obtain ⟨n, x, l, c, e, m1, y1⟩ : IsE z (a.eval (.tmp t4)) w := hn 4 (by simp [neS]) rfl
      exact wp_value (run_extract h6 e rfl w) (hK _ _ (Below.refl _ _) (by simp [upd, neΦ]))
    | 9, ho, _ =>
      have ho' : o9 = o := by simpa using ho
      subst ho'
      have e : a.eval (.tmp t6) = .int .i64 0 := hn 6 (by simp [neS]) rfl
      exact wp_value (run_assign h9 a w) (hK _ _ (Below.refl _ _) (by simpa [upd, neΦ] using e))
    | 7, _, hv => cases hv
    | 8, _, hv => cases hv
    | i + 10, ho, _ => simp at ho
  case box =>
    intro i o T z ho hk a w
    match i, ho, hk with
    | 7, ho, hk => have ho' : o7 = o := by simpa using ho
                   subst ho'; cases hk; unfold execOp; rw [h7]; simp [go_sem]
    | 0, _, hk => cases hk
    | 1, _, hk => cases hk
    | 2, _, hk => cases hk
    | 3, _, hk => cases hk
    | 4, _, hk => cases hk
    | 5, _, hk => cases hk
    | 6, _, hk => cases hk
    | 8, _, hk => cases hk
    | 9, _, hk => cases hk
    | i + 10, ho, _ => simp at ho
  case put =>
    intro i o p' s' T z ho hk hp a w b hva hφ hbx
    match i, ho, hk with
    | 0, _, hk => cases hk
    | 1, _, hk => cases hk
    | 2, _, hk => cases hk
    | 3, _, hk => cases hk
    | 4, _, hk => cases hk
    | 5, _, hk => cases hk
    | 6, _, hk => cases hk
    | 7, _, hk => cases hk
    | 9, _, hk => cases hk
    | i + 10, ho, _ => simp at ho
    | 8, ho, hk =>
      have ho' : o8 = o := by simpa using ho
      subst ho'; cases hk; cases hp
      obtain ⟨n, x, l, c, e, _⟩ := hφ
      have e1 : a.eval (.tmp t5) = .agg #[.bool n, .slice x l c] := e
      have e2 : a.eval (.tmp p) = .pointer (some ⟨b, 0, none⟩) := hva
      have d1 := hbx.cell 0
      have d2 := hbx.cell 1
      have f1 := hbx.frozen 0
      have f2 := hbx.frozen 1
      refine ⟨[.bool n, .slice x l c], e, rfl, by simp [isInt], ?_⟩
      unfold execOp; rw [h8]
      dsimp only
      rw [e1, e2]
      simp [go_sem, d1, d2, f1, f2, setFrom]
  case fin =>
    intro a w blk hI
    have n8 : (#[o0, o1, o2, o3, o4, o5, o6, o7, o8, o9] : Array Oper).size = 10 := rfl
    rw [n8] at hI
    have hf := hI.agree.form
    have e0 : a.eval (.tmp t0) = .agg #[u1, u2] := hI.vals 0 (by decide) (by decide) rfl
    have e1 : a.eval (.tmp t1) = .agg #[v1, v2] := hI.vals 1 (by decide) (by decide) rfl
    obtain ⟨n, x, l, c, e5, a1, a3⟩ : IsS z (a.eval (.tmp t5)) w := hI.vals 5 (by decide) (by decide) rfl
    have e6 : a.eval (.tmp t6) = .int .i64 0 := hI.vals 6 (by decide) (by decide) rfl
    have e9 : a.eval (.tmp k) = .int .i64 0 := hI.vals 9 (by decide) (by decide) rfl
    obtain ⟨p1, p2, _, p3⟩ := hI.boxes 7 31 #[.bool false, .slice none 0 0] (by decide) (by decide) rfl
    obtain ⟨us, y1, y2, y3, y4⟩ := p3 (show (8 : Nat) < 10 by decide)
    have y5 : a.eval (.tmp t5) = .agg us.toArray := y1
    rw [e5] at y5
    cases y5
    have e7 : a.eval (.tmp p) = .pointer (some ⟨blk 7, 0, none⟩) := p1
    have hsl : (neS t0 t1 t2 t3 t4 t5 t6 p k 31 #[.bool false, .slice none 0 0]).slots 10 = [t0, t1, t2, t3, t4, t5, t6, p, k] := rfl
    rw [hsl] at hf
    simp only [List.map_cons, List.map_nil, e0, e1, e5, e6, e7, e9] at hf
    rw [hf]
    exact hend w (blk 7) n x l c _ _ _ (below_undrew hI.below) p2 y4 a1 a3
end Go.Proofs.Ytbihgllfllkkaaa

/- The laws' helper fine. -/
set_option linter.unusedVariables false
namespace Go.Proofs.Ytbihgllfllkkaaa
open Go.RowKit Go.Proofs

end Go.Proofs.Ytbihgllfllkkaaa

/- Facts for the laws of rings. -/
set_option linter.unusedVariables false
namespace Go.Proofs.Ytbihgllfllkkaaa
open Go.RowKit Go.Proofs

def Bl (k : Nat) (z : Int) : Prop := blen z.natAbs ≤ k

theorem Bl.fits {k : Nat} {z : Int} (h : Bl k z) (hk : k ≤ 16384) : Fits z := Nat.le_trans h hk
theorem Bl.mono {k j : Nat} {z : Int} (h : Bl k z) (hk : k ≤ j) : Bl j z := Nat.le_trans h hk
theorem Bl.neg {k : Nat} {z : Int} (h : Bl k z) : Bl k (-z) := by unfold Bl at *; rwa [Int.natAbs_neg]
theorem Bl.add {k : Nat} {x y : Int} (hx : Bl k x) (hy : Bl k y) : Bl (k + 1) (x + y) := by
  unfold Bl at *
  rw [blen_le] at *
  have := Int.natAbs_add_le x y
  rw [Nat.pow_succ]
  omega
theorem Bl.sub {k : Nat} {x y : Int} (hx : Bl k x) (hy : Bl k y) : Bl (k + 1) (x - y) := hx.add hy.neg
theorem Bl.mul {j k : Nat} {x y : Int} (hx : Bl j x) (hy : Bl k y) : Bl (j + k) (x * y) := by
  unfold Bl at *
  rw [blen_le] at *
  rw [Int.natAbs_mul, Nat.pow_add]
  exact Nat.mul_lt_mul'' hx hy

theorem rawZ_bl (s : Bool) (xs : List Nat) (hd : Dig B16 xs) (most : Nat) : Bl (16 * most) (rawZ s xs most) := by
  have h1 := rawZ_lt s xs hd most
  rw [B16_pow] at h1
  exact blen_le.2 h1

def OutE (W : World) (z : Int) (e : Ending) (w' : World) : Prop :=
  ∃ neg ao len cap, e = .returned (.tuple #[.agg #[.bool neg, .slice ao len cap], .int .i64 0]) ∧ len ≤ 512 ∧ Z32 w' neg ao len z ∧ Below W.heap.size W w'

theorem OutF.fine {W w' : World} {z : Int} {e : Ending} (h : OutF W z e w') (hf : Fits z) : OutE W z e w' := by
  rcases h with ⟨_, n, o, l, c, rfl, hz, hb⟩ | ⟨hn, _⟩
  · exact ⟨n, o, l, c, rfl, fits_len hz hf, hz, hb⟩
  · exact absurd hf hn

theorem OutI.small {W w' : World} {z : Int} {e : Ending} (h : OutI W z e w') (hf : Fits z) : ∃ v, e = .returned v ∧ IsS z v w' ∧ Below W.heap.size W w' := by
  obtain ⟨n, o, l, c, rfl, hz, hb⟩ := h
  exact ⟨_, rfl, ⟨n, o, l, c, rfl, fits_len hz hf, hz⟩, hb⟩

theorem MadePost.fits {z : Int} {W w' : World} {e : Ending} (h : MadePost z W e w') (hf : Fits z) :
    ∃ neg ao len cap, e = .returned (.tuple #[.agg #[.bool neg, .slice ao len cap], .bool true]) ∧ len ≤ 512 ∧ Z32 w' neg ao len z ∧ Below W.heap.size W w' := by
  obtain ⟨n, o, l, c, ok, z', rfl, hl, hz, hb, ⟨_, rfl, rfl⟩ | ⟨hn, _⟩⟩ := h
  · exact ⟨n, o, l, c, rfl, hl, hz, hb⟩
  · exact absurd hf hn

/-- a row of zeros that was just made -/
theorem zeros_sl (W : World) (e n : Nat) (c : Array Value) (hc : c = cs .i64 (List.replicate n 0)) : Sl .i64 (W.alloc (.cells c e)) (some ⟨W.heap.size, 0, none⟩) n (List.replicate n 0) :=
  (Blk.new' W .i64 e (List.replicate n 0) c hc).whole (by simp)

theorem below_made {V w' : World} {o : Obj} (hb : Below (V.drew.alloc o).heap.size (V.drew.alloc o) w') : Below V.heap.size V w' :=
  below_then (((Below.refl _ _).drew).alloc (Nat.le_refl _) o) hb
end Go.Proofs.Ytbihgllfllkkaaa

/- The specification's text of a fraction; Floor. -/
set_option linter.unusedVariables false
namespace Go.Proofs.Ytbihgllfllkkaaa
open Go.RowKit

end Go.Proofs.Ytbihgllfllkkaaa

/- Floor: its blocks may be made at any time. -/
set_option linter.unusedVariables false
namespace Go.Proofs.Ytbihgllfllkkaaa
open Go.RowKit Go.Proofs

def IsDZ (x y : Int) (v : Value) (w : World) : Prop := ∃ na ao la ca nb bo lb cb, v = .tuple #[.agg #[.bool na, .slice ao la ca], .agg #[.bool nb, .slice bo lb cb], .int .i64 0] ∧ Z32 w na ao la x ∧ Z32 w nb bo lb y
theorem Stable.isDZ (base : Nat) (x y : Int) (v : Value) : Stable base (IsDZ x y v) :=
  Stable.ex fun na => Stable.ex fun ao => Stable.ex fun la => Stable.ex fun ca => Stable.ex fun nb => Stable.ex fun bo => Stable.ex fun lb => Stable.ex fun cb =>
    (Stable.const base _).and ((Stable.z32 base na ao la x).and (Stable.z32 base nb bo lb y))
theorem DivZPost.is {x y : Int} {W w' : World} {e : Ending} (h : DivZPost x y W e w') : ∃ v, e = .returned v ∧ IsDZ (x / y) (x % y) v w' ∧ Below W.heap.size W w' := by
  obtain ⟨na, ao, la, ca, nb, bo, lb, cb, rfl, h1, h2, h3⟩ := h
  exact ⟨_, rfl, ⟨na, ao, la, ca, nb, bo, lb, cb, rfl, h1, h2⟩, h3⟩

def flS (t0 t1 t2 t3 t4 t5 t6 t7 t8 p q k : Nat) (T : Nat) (z : Array Value) : Shape where
  f := fun i => match i with | 0 => t0 | 1 => t1 | 2 => t2 | 3 => t3 | 4 => t4 | 5 => t5 | 6 => t6 | 7 => t7 | 8 => t8 | 9 => p | 10 => q | 13 => k | _ => 0
  kd := fun i => match i with | 9 => .box T z | 10 => .box T z | 11 => .put 9 6 | 12 => .put 10 7 | _ => .val
  need := fun i => match i with | 1 => [0] | 3 => [2] | 4 => [1, 3] | 5 => [4] | 6 => [5] | 7 => [5] | 8 => [5] | 11 => [9, 6] | 12 => [10, 7] | 13 => [8] | _ => []
  st := fun i => match i with | 9 => 11 | _ => 12
  src := fun i => match i with | 9 => 6 | _ => 7

def flΦ (r0 r1 r2 : Value) (zq z1 z2 : Int) (i : Nat) (v : Value) (w : World) : Prop :=
  match i with | 0 => v = r0 | 1 => v = r1 | 2 => v = r2 | 3 => IsS zq v w | 4 => IsDZ z1 z2 v w | 5 => IsDZ z1 z2 v w | 6 => IsI z1 v w | 7 => IsI z2 v w | _ => v = .int .i64 0

set_option maxHeartbeats 2000000 in
theorem floor_region {Q : Exit → Act → World → Prop} {id : Nat} {a0 : Act} {W : World} {o0 o1 o2 o3 o4 o5 o6 o7 o8 o9 o10 o11 o12 o13 : Oper} (t0 t1 t2 t3 t4 t5 t6 t7 t8 p q k r : Nat) (f f2 : FuncId) (u1 u2 u3 : Value) (g : Nat) (zq z1 z2 : Int) (ts ts2 : Array TypeId) {fn fn2 : Func} {cb cb2 : Code}
    (hfn : Try.prog.funcs[f]? = some fn) (hname : (fn.name == "runtime.NumGoroutine") = false) (hbody : fn.body = some cb)
    (hfn2 : Try.prog.funcs[f2]? = some fn2) (hname2 : (fn2.name == "runtime.NumGoroutine") = false) (hbody2 : fn2.body = some cb2)
    (hok : (flS t0 t1 t2 t3 t4 t5 t6 t7 t8 p q k 31 #[.bool false, .slice none 0 0]).ok #[o0, o1, o2, o3, o4, o5, o6, o7, o8, o9, o10, o11, o12, o13] a0.tmps.size = true)
    (h0 : o0.op = .fieldAddr 52 (.tmp r) 0) (h1 : o1.op = .load 31 (.tmp t0)) (h2 : o2.op = .load 52 (.tmp r)) (h3 : o3.op = .call { callee := .value (.func f), args := #[.tmp t2], argTypes := ts })
    (h4 : o4.op = .call { callee := .value (.func f2), args := #[.tmp t1, .tmp t3], argTypes := ts2 }) (h5 : o5.op = .move (.tmp t4))
    (h6 : o6.op = .extract (.tmp t5) 0) (h7 : o7.op = .extract (.tmp t5) 1) (h8 : o8.op = .extract (.tmp t5) 2)
    (h9 : o9.op = .alloc 31) (h10 : o10.op = .alloc 31) (h11 : o11.op = .store 31 (.tmp p) (.tmp t6)) (h12 : o12.op = .store 31 (.tmp q) (.tmp t7)) (h13 : o13.op = .assign (.tmp t8))
    (hr : a0.eval (.tmp r) = .pointer (some ⟨g, 0, none⟩)) (hrs : r ∉ [t0, t1, t2, t3, t4, t5, t6, t7, t8, p, q, k]) (hg : g < W.heap.size)
    (c1 : W.cell? ⟨g, 0, none⟩ = some u1) (c2 : W.cell? ⟨g, 1, none⟩ = some u2) (c3 : W.cell? ⟨g, 2, none⟩ = some u3)
    (hc1 : ∀ w, Below W.heap.size W w → Calls Try.prog f #[.agg #[u1, u2, u3]] w (fun e w' => ∃ v, e = .returned v ∧ IsS zq v w' ∧ Below w.heap.size w w'))
    (hc2 : ∀ w n x l c, Below W.heap.size W w → l ≤ 512 → Z32 w n x l zq → Calls Try.prog f2 #[.agg #[u1, u2], .agg #[.bool n, .slice x l c]] w (fun e w' => ∃ v, e = .returned v ∧ IsDZ z1 z2 v w' ∧ Below w.heap.size w w'))
    (hend : ∀ w b1 b2 n1 x1 l1 k1 d3 d4 d5 d7, Below W.heap.size W w → W.heap.size ≤ b1 → Box w b1 31 #[.bool n1, .slice x1 l1 k1] → Z32 w n1 x1 l1 z1 →
      Q .normal (puts a0 [(t0, .pointer (some ⟨g, 0, none⟩)), (t1, .agg #[u1, u2]), (t2, .agg #[u1, u2, u3]), (t3, d3), (t4, d4), (t5, d5), (t6, .agg #[.bool n1, .slice x1 l1 k1]), (t7, d7), (t8, .int .i64 0),
        (p, .pointer (some ⟨b1, 0, none⟩)), (q, .pointer (some ⟨b2, 0, none⟩)), (k, .int .i64 0)]) w) :
    (Code.region id #[o0, o1, o2, o3, o4, o5, o6, o7, o8, o9, o10, o11, o12, o13] true).wp Try.prog Q a0 W := by
  refine Shape.region (flS t0 t1 t2 t3 t4 t5 t6 t7 t8 p q k 31 #[.bool false, .slice none 0 0]) (fun i v w => flΦ (.pointer (some ⟨g, 0, none⟩)) (.agg #[u1, u2]) (.agg #[u1, u2, u3]) zq z1 z2 i (v i) w) (by kernel_rfl) hok
    (fun i v v' w _ hj hΦ => by rw [← hj i (.inl rfl)]; exact hΦ) ?stab ?val ?box ?put rfl ?fin
  case stab =>
    intro i v hi
    match i with
    | 0 => exact Stable.const _ _
    | 1 => exact Stable.const _ _
    | 2 => exact Stable.const _ _
    | 3 => exact Stable.isS _ _ _
    | 4 => exact Stable.isDZ _ _ _ _
    | 5 => exact Stable.isDZ _ _ _ _
    | 6 => exact Stable.isI _ _ _
    | 7 => exact Stable.isI _ _ _
    | i + 8 => exact Stable.const _ _
  case val =>
    intro i o ho hv a w hA hb hz hn K' hK
    have er : a.eval (.tmp r) = .pointer (some ⟨g, 0, none⟩) := (hA.eval hrs).trans hr
    have d1 := (hb.cell (p := ⟨g, 0, none⟩) hg).trans c1
    have d2 := (hb.cell (p := ⟨g, 1, none⟩) hg).trans c2
    have d3 := (hb.cell (p := ⟨g, 2, none⟩) hg).trans c3
    match i, ho, hv with
    | 0, ho, _ =>
      have ho' : o0 = o := by simpa using ho
      subst ho'
      refine wp_value (v := .pointer (some ⟨g, 0, none⟩)) (w' := w) ?_ (hK _ _ (Below.refl _ _) (by simp [upd, flΦ]))
      unfold execOp
      rw [h0]
      dsimp only
      rw [er]
      simp [go_sem]
    | 1, ho, _ =>
      have ho' : o1 = o := by simpa using ho
      subst ho'
      have e : a.eval (.tmp t0) = .pointer (some ⟨g, 0, none⟩) := hn 0 (by simp [flS]) rfl
      refine wp_value (v := .agg #[u1, u2]) (w' := w) ?_ (hK _ _ (Below.refl _ _) (by simp [upd, flΦ]))
      unfold execOp
      rw [h1]
      dsimp only
      rw [e]
      simp [go_sem, d1, d2]
    | 2, ho, _ =>
      have ho' : o2 = o := by simpa using ho
      subst ho'
      refine wp_value (v := .agg #[u1, u2, u3]) (w' := w) ?_ (hK _ _ (Below.refl _ _) (by simp [upd, flΦ]))
      unfold execOp
      rw [h2]
      dsimp only
      rw [er]
      simp [go_sem, d1, d2, d3]
    | 3, ho, _ =>
      have ho' : o3 = o := by simpa using ho
      subst ho'
      have e : a.eval (.tmp t2) = .agg #[u1, u2, u3] := hn 2 (by simp [flS]) rfl
      refine wp_call (run_call hfn hname hbody h3 a w) ?_ (fun v w' hb' hφ => hK v w' hb' (by simpa [upd, flΦ] using hφ))
      have em : Array.map a.eval #[Operand.tmp t2] = #[a.eval (.tmp t2)] := by simp only [List.map_toArray, List.map_cons, List.map_nil]
      rw [em, e]
      exact hc1 w (below_undrew hb)
    | 4, ho, _ =>
      have ho' : o4 = o := by simpa using ho
      subst ho'
      have e : a.eval (.tmp t1) = .agg #[u1, u2] := hn 1 (by simp [flS]) rfl
      obtain ⟨n, x, l, c, e2, y1, y2⟩ : IsS zq (a.eval (.tmp t3)) w := hn 3 (by simp [flS]) rfl
      refine wp_call (run_call hfn2 hname2 hbody2 h4 a w) ?_ (fun v w' hb' hφ => hK v w' hb' (by simpa [upd, flΦ] using hφ))
      have em : Array.map a.eval #[Operand.tmp t1, Operand.tmp t3] = #[a.eval (.tmp t1), a.eval (.tmp t3)] := by simp only [List.map_toArray, List.map_cons, List.map_nil]
      rw [em, e, e2]
      exact hc2 w n x l c (below_undrew hb) y1 y2
    | 5, ho, _ =>
      have ho' : o5 = o := by simpa using ho
      subst ho'
      have e : IsDZ z1 z2 (a.eval (.tmp t4)) w := hn 4 (by simp [flS]) rfl
      exact wp_value (run_move h5 a w) (hK _ _ (Below.refl _ _) (by simpa [upd, flΦ] using e))
    | 6, ho, _ =>
      have ho' : o6 = o := by simpa using ho
      subst ho'
      obtain ⟨na, ao, la, ca, nb, bo, lb, cb, e, y1, y2⟩ : IsDZ z1 z2 (a.eval (.tmp t5)) w := hn 5 (by simp [flS]) rfl
      exact wp_value (run_extract h6 e rfl w) (hK _ _ (Below.refl _ _) (by simp only [upd, flΦ, if_true]; exact ⟨na, ao, la, ca, rfl, y1⟩))
    | 7, ho, _ =>
      have ho' : o7 = o := by simpa using ho
      subst ho'
      obtain ⟨na, ao, la, ca, nb, bo, lb, cb, e, y1, y2⟩ : IsDZ z1 z2 (a.eval (.tmp t5)) w := hn 5 (by simp [flS]) rfl
      exact wp_value (run_extract h7 e rfl w) (hK _ _ (Below.refl _ _) (by simp only [upd, flΦ, if_true]; exact ⟨nb, bo, lb, cb, rfl, y2⟩))
    | 8, ho, _ =>
      have ho' : o8 = o := by simpa using ho
      subst ho'
      obtain ⟨na, ao, la, ca, nb, bo, lb, cb, e, y1, y2⟩ : IsDZ z1 z2 (a.eval (.tmp t5)) w := hn 5 (by simp [flS]) rfl
      exact wp_value (run_extract h8 e rfl w) (hK _ _ (Below.refl _ _) (by simp [upd, flΦ]))
    | 13, ho, _ =>
      have ho' : o13 = o := by simpa using ho
      subst ho'
      have e : a.eval (.tmp t8) = .int .i64 0 := hn 8 (by simp [flS]) rfl
      exact wp_value (run_assign h13 a w) (hK _ _ (Below.refl _ _) (by simpa [upd, flΦ] using e))
    | 9, _, hv => cases hv
    | 10, _, hv => cases hv
    | 11, _, hv => cases hv
    | 12, _, hv => cases hv
    | i + 14, ho, _ => simp at ho
  case box =>
    intro i o T z ho hk a w
    match i, ho, hk with
    | 9, ho, hk => have ho' : o9 = o := by simpa using ho
                   subst ho'; cases hk; unfold execOp; rw [h9]; simp [go_sem]
    | 10, ho, hk => have ho' : o10 = o := by simpa using ho
                    subst ho'; cases hk; unfold execOp; rw [h10]; simp [go_sem]
    | 0, _, hk => cases hk
    | 1, _, hk => cases hk
    | 2, _, hk => cases hk
    | 3, _, hk => cases hk
    | 4, _, hk => cases hk
    | 5, _, hk => cases hk
    | 6, _, hk => cases hk
    | 7, _, hk => cases hk
    | 8, _, hk => cases hk
    | 11, _, hk => cases hk
    | 12, _, hk => cases hk
    | 13, _, hk => cases hk
    | i + 14, ho, _ => simp at ho
  case put =>
    intro i o p' s' T z ho hk hp a w b hva hφ hbx
    match i, ho, hk with
    | 0, _, hk => cases hk
    | 1, _, hk => cases hk
    | 2, _, hk => cases hk
    | 3, _, hk => cases hk
    | 4, _, hk => cases hk
    | 5, _, hk => cases hk
    | 6, _, hk => cases hk
    | 7, _, hk => cases hk
    | 8, _, hk => cases hk
    | 9, _, hk => cases hk
    | 10, _, hk => cases hk
    | 13, _, hk => cases hk
    | i + 14, ho, _ => simp at ho
    | 11, ho, hk =>
      have ho' : o11 = o := by simpa using ho
      subst ho'; cases hk; cases hp
      obtain ⟨n, x, l, c, e, _⟩ := hφ
      have e1 : a.eval (.tmp t6) = .agg #[.bool n, .slice x l c] := e
      have e2 : a.eval (.tmp p) = .pointer (some ⟨b, 0, none⟩) := hva
      have d1 := hbx.cell 0
      have d2 := hbx.cell 1
      have f1 := hbx.frozen 0
      have f2 := hbx.frozen 1
      refine ⟨[.bool n, .slice x l c], e, rfl, by simp [isInt], ?_⟩
      unfold execOp; rw [h11]
      dsimp only
      rw [e1, e2]
      simp [go_sem, d1, d2, f1, f2, setFrom]
    | 12, ho, hk =>
      have ho' : o12 = o := by simpa using ho
      subst ho'; cases hk; cases hp
      obtain ⟨n, x, l, c, e, _⟩ := hφ
      have e1 : a.eval (.tmp t7) = .agg #[.bool n, .slice x l c] := e
      have e2 : a.eval (.tmp q) = .pointer (some ⟨b, 0, none⟩) := hva
      have d1 := hbx.cell 0
      have d2 := hbx.cell 1
      have f1 := hbx.frozen 0
      have f2 := hbx.frozen 1
      refine ⟨[.bool n, .slice x l c], e, rfl, by simp [isInt], ?_⟩
      unfold execOp; rw [h12]
      dsimp only
      rw [e1, e2]
      simp [go_sem, d1, d2, f1, f2, setFrom]
  case fin =>
    intro a w blk hI
    have n8 : (#[o0, o1, o2, o3, o4, o5, o6, o7, o8, o9, o10, o11, o12, o13] : Array Oper).size = 14 := rfl
    rw [n8] at hI
    have hf := hI.agree.form
    have e0 : a.eval (.tmp t0) = .pointer (some ⟨g, 0, none⟩) := hI.vals 0 (by decide) (by decide) rfl
    have e1 : a.eval (.tmp t1) = .agg #[u1, u2] := hI.vals 1 (by decide) (by decide) rfl
    have e2 : a.eval (.tmp t2) = .agg #[u1, u2, u3] := hI.vals 2 (by decide) (by decide) rfl
    obtain ⟨n1, x1, l1, k1, e6, a3⟩ : IsI z1 (a.eval (.tmp t6)) w := hI.vals 6 (by decide) (by decide) rfl
    have e8 : a.eval (.tmp t8) = .int .i64 0 := hI.vals 8 (by decide) (by decide) rfl
    have e13 : a.eval (.tmp k) = .int .i64 0 := hI.vals 13 (by decide) (by decide) rfl
    obtain ⟨p1, p2, _, p3⟩ := hI.boxes 9 31 #[.bool false, .slice none 0 0] (by decide) (by decide) rfl
    obtain ⟨us, y1, y2, y3, y4⟩ := p3 (show (11 : Nat) < 14 by decide)
    obtain ⟨q1, q2, _, q3⟩ := hI.boxes 10 31 #[.bool false, .slice none 0 0] (by decide) (by decide) rfl
    have y5 : a.eval (.tmp t6) = .agg us.toArray := y1
    rw [e6] at y5
    cases y5
    have e9 : a.eval (.tmp p) = .pointer (some ⟨blk 9, 0, none⟩) := p1
    have e10 : a.eval (.tmp q) = .pointer (some ⟨blk 10, 0, none⟩) := q1
    have hsl : (flS t0 t1 t2 t3 t4 t5 t6 t7 t8 p q k 31 #[.bool false, .slice none 0 0]).slots 14 = [t0, t1, t2, t3, t4, t5, t6, t7, t8, p, q, k] := rfl
    rw [hsl] at hf
    simp only [List.map_cons, List.map_nil, e0, e1, e2, e6, e8, e9, e10, e13] at hf
    rw [hf]
    exact hend w (blk 9) (blk 10) n1 x1 l1 k1 _ _ _ _ (below_undrew hI.below) p2 y4 a3

end Go.Proofs.Ytbihgllfllkkaaa
