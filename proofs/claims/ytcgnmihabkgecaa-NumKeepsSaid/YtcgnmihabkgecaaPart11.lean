/- Part 11 of the contracts: Preds, PlanC, PlanA, Low, RefK, Same, Half, RatC, RatD, RatE, RatF, RatG, QuoAny, OrderF. -/
import Derived.Deep.Cut
import Derived.Test.YtcgnmihabkgecaaPart10

/- What the operations of drawn regions compute, said of a value and a world. -/
set_option linter.unusedVariables false
namespace Go.Proofs.Ytcgnmihabkgecaa
open Go.RowKit Go.Proofs

def IsIL (z : Int) (L : Nat) (v : Value) (w : World) : Prop := ∃ n o l c, v = .agg #[.bool n, .slice o l c] ∧ l ≤ L ∧ Z32 w n o l z
theorem Stable.isIL (base : Nat) (z : Int) (L : Nat) (v : Value) : Stable base (IsIL z L v) :=
  Stable.ex fun n => Stable.ex fun o => Stable.ex fun l => Stable.ex fun c => (Stable.const base _).and ((Stable.const base _).and (Stable.z32 base n o l z))
theorem OutIL.is {W w' : World} {z : Int} {L : Nat} {e : Ending} (h : OutIL W z L e w') : ∃ v, e = .returned v ∧ IsIL z L v w' ∧ Below W.heap.size W w' := by
  obtain ⟨n, o, l, c, rfl, h1, h2, h3⟩ := h
  exact ⟨_, rfl, ⟨n, o, l, c, rfl, h1, h2⟩, h3⟩

theorem Stable.q32 (base : Nat) (neg : Bool) (ao bo : Option Addr) (len bl : Nat) (p : Int) (q : Nat) : Stable base (fun w => Q32 w neg ao len bo bl p q) :=
  (Stable.z32 base neg ao len p).and ((Stable.const base _).or ((Stable.n32 base bo bl q).and (Stable.const base _)))

def IsQL (p : Int) (q L M : Nat) (v : Value) (w : World) : Prop := ∃ n o l c b m d, v = .agg #[.bool n, .slice o l c, .slice b m d] ∧ l ≤ L ∧ m ≤ M ∧ Q32 w n o l b m p q
theorem Stable.isQL (base : Nat) (p : Int) (q L M : Nat) (v : Value) : Stable base (IsQL p q L M v) :=
  Stable.ex fun n => Stable.ex fun o => Stable.ex fun l => Stable.ex fun c => Stable.ex fun b => Stable.ex fun m => Stable.ex fun d =>
    (Stable.const base _).and ((Stable.const base _).and ((Stable.const base _).and (Stable.q32 base n o b l m p q)))
/-- a tuple of a fraction and OK -/
def IsQE (p : Int) (q : Nat) (v : Value) (w : World) : Prop := ∃ n o l c b m d, v = .tuple #[.agg #[.bool n, .slice o l c, .slice b m d], .int .i64 0] ∧ Q32 w n o l b m p q
theorem Stable.isQE (base : Nat) (p : Int) (q : Nat) (v : Value) : Stable base (IsQE p q v) :=
  Stable.ex fun n => Stable.ex fun o => Stable.ex fun l => Stable.ex fun c => Stable.ex fun b => Stable.ex fun m => Stable.ex fun d =>
    (Stable.const base _).and (Stable.q32 base n o b l m p q)
theorem OutQE.is {W w' : World} {p : Int} {q : Nat} {e : Ending} (h : OutQE W p q e w') : ∃ v, e = .returned v ∧ IsQE p q v w' ∧ Below W.heap.size W w' := by
  obtain ⟨n, o, l, c, b, m, d, rfl, h1, h2⟩ := h
  exact ⟨_, rfl, ⟨n, o, l, c, b, m, d, rfl, h1⟩, h2⟩
def IsQ (p : Int) (q : Nat) (v : Value) (w : World) : Prop := ∃ n o l c b m d, v = .agg #[.bool n, .slice o l c, .slice b m d] ∧ Q32 w n o l b m p q
theorem Stable.isQ (base : Nat) (p : Int) (q : Nat) (v : Value) : Stable base (IsQ p q v) :=
  Stable.ex fun n => Stable.ex fun o => Stable.ex fun l => Stable.ex fun c => Stable.ex fun b => Stable.ex fun m => Stable.ex fun d =>
    (Stable.const base _).and (Stable.q32 base n o b l m p q)
/-- a fraction of the specification -/
def IsK (p q : Int) (v : Value) (w : World) : Prop := ∃ s1 o1 l1 c1 s2 o2 l2 c2, v = .agg #[.bool s1, .slice o1 l1 c1, .bool s2, .slice o2 l2 c2] ∧ l1 ≤ c1 ∧ c1 ≤ 9223372036854775807 ∧ l2 ≤ c2 ∧ c2 ≤ 9223372036854775807 ∧ Z16 w s1 o1 l1 p ∧ Z16 w s2 o2 l2 q
theorem Stable.isK (base : Nat) (p q : Int) (v : Value) : Stable base (IsK p q v) :=
  Stable.ex fun s1 => Stable.ex fun o1 => Stable.ex fun l1 => Stable.ex fun c1 => Stable.ex fun s2 => Stable.ex fun o2 => Stable.ex fun l2 => Stable.ex fun c2 =>
    (Stable.const base _).and ((Stable.const base _).and ((Stable.const base _).and ((Stable.const base _).and ((Stable.const base _).and ((Stable.z16 base s1 o1 l1 p).and (Stable.z16 base s2 o2 l2 q))))))
end Go.Proofs.Ytcgnmihabkgecaa

/- The region of half that makes blocks. -/
set_option linter.unusedVariables false
set_option linter.unusedSimpArgs false
namespace Go.Proofs.Ytcgnmihabkgecaa
open Go.RowKit Go.Proofs

def half_regionS : Shape where
  f := fun i => match i with | 0 => 16 | 1 => 17 | 2 => 18 | 3 => 19 | 4 => 20 | 5 => 21 | 6 => 9 | 7 => 10 | _ => 0
  kd := fun i => match i with | 6 => .box 32 #[.bool false, .slice none 0 0] | 7 => .box 32 #[.bool false, .slice none 0 0] | 8 => .put 6 2 | 9 => .put 7 5 | _ => .val
  need := fun i => match i with | 2 => [0, 1] | 5 => [3, 4] | 8 => [6, 2] | 9 => [7, 5] | _ => []
  st := fun i => match i with | 6 => 8 | 7 => 9 | _ => 0
  src := fun i => match i with | 6 => 2 | 7 => 5 | _ => 0

set_option maxRecDepth 4000 in
set_option maxHeartbeats 2000000 in
/-- the helper half reads its integers -/
theorem half_region {Q : Exit → Act → World → Prop} {id : Nat} {a0 : Act} {W : World} {o0 o1 o2 o3 o4 o5 o6 o7 o8 o9 : Oper} (sx sy : Bool) (ax ay : Option Addr) (lx ly kx ky M : Nat) (xs ys : List Nat) (gX : Nat) (gY : Nat) (ts2 : Array TypeId) (ts5 : Array TypeId)
    (hok : half_regionS.ok #[o0, o1, o2, o3, o4, o5, o6, o7, o8, o9] a0.tmps.size = true)
    (h0 : o0.op = .load 24 (.tmp 3)) (h1 : o1.op = .move (.tmp 2)) (h2 : o2.op = .call { callee := .value (.func 5), args := #[.tmp 16, .tmp 17], argTypes := ts2 }) (h3 : o3.op = .load 24 (.tmp 4)) (h4 : o4.op = .move (.tmp 2)) (h5 : o5.op = .call { callee := .value (.func 5), args := #[.tmp 19, .tmp 20], argTypes := ts5 }) (h6 : o6.op = .alloc 32) (h7 : o7.op = .alloc 32) (h8 : o8.op = .store 32 (.tmp 9) (.tmp 18)) (h9 : o9.op = .store 32 (.tmp 10) (.tmp 21))
    (hrX : a0.eval (.tmp 3) = .pointer (some ⟨gX, 0, none⟩)) (hgX : gX < W.heap.size) (cX_0 : W.cell? ⟨gX, 0, none⟩ = some (.bool sx)) (cX_1 : W.cell? ⟨gX, 1, none⟩ = some (.slice ax lx kx))
    (hrY : a0.eval (.tmp 4) = .pointer (some ⟨gY, 0, none⟩)) (hgY : gY < W.heap.size) (cY_0 : W.cell? ⟨gY, 0, none⟩ = some (.bool sy)) (cY_1 : W.cell? ⟨gY, 1, none⟩ = some (.slice ay ly ky))
    (hmM : a0.eval (.tmp 2) = .int .i64 (M : Int))
    (hsx : Sl .u16 W ax lx xs) (hdx : Dig B16 xs) (hsy : Sl .u16 W ay ly ys) (hdy : Dig B16 ys) (hM : M ≤ 1000000) (hlx : lx ≤ 9223372036854775807) (hly : ly ≤ 9223372036854775807)
    (hend : ∀ w b6 b7 n2 o2 l2 c2 n5 o5 l5 c5 , Below W.heap.size W w → W.heap.size ≤ b6 → Box w b6 32 #[.bool n2, .slice o2 l2 c2] → W.heap.size ≤ b7 → Box w b7 32 #[.bool n5, .slice o5 l5 c5] → b6 ≠ b7 → l2 ≤ c2 → c2 ≤ 9223372036854775807 → Z16 w n2 o2 l2 (rawZ sx xs M) → l5 ≤ c5 → c5 ≤ 9223372036854775807 → Z16 w n5 o5 l5 (rawZ sy ys M) → 
      Q .normal (puts a0 [(16, .agg #[.bool sx, .slice ax lx kx]), (17, .int .i64 (M : Int)), (18, .agg #[.bool n2, .slice o2 l2 c2]), (19, .agg #[.bool sy, .slice ay ly ky]), (20, .int .i64 (M : Int)), (21, .agg #[.bool n5, .slice o5 l5 c5]), (9, .pointer (some ⟨b6, 0, none⟩)), (10, .pointer (some ⟨b7, 0, none⟩))]) w) :
    (Code.region id #[o0, o1, o2, o3, o4, o5, o6, o7, o8, o9] true).wp Try.prog Q a0 W := by
  refine Shape.region half_regionS (fun i v w => (fun (v : Value) => (match i with | 0 => v = .agg #[.bool sx, .slice ax lx kx] | 1 => v = .int .i64 (M : Int) | 2 => IsJ (rawZ sx xs M) v w | 3 => v = .agg #[.bool sy, .slice ay ly ky] | 4 => v = .int .i64 (M : Int) | 5 => IsJ (rawZ sy ys M) v w | _ => True : Prop)) (v i)) (by kernel_rfl) hok
    (fun i v v' w _ hj hΦ => by rw [← hj i (.inl rfl)]; exact hΦ) ?stab ?val ?box ?put rfl ?fin
  case stab =>
    intro i v hi
    match i with
    | 0 => exact Stable.const _ _
    | 1 => exact Stable.const _ _
    | 2 => exact Stable.isJ _ _ _
    | 3 => exact Stable.const _ _
    | 4 => exact Stable.const _ _
    | 5 => exact Stable.isJ _ _ _
    | 6 => exact Stable.const _ _
    | 7 => exact Stable.const _ _
    | 8 => exact Stable.const _ _
    | 9 => exact Stable.const _ _
    | i + 10 => exact Stable.const _ _
  case val =>
    intro i o ho hv a w hA hb hz hn K' hK
    have hw := below_undrew hb
    have erX : a.eval (.tmp 3) = .pointer (some ⟨gX, 0, none⟩) := (hA.eval (show 3 ∉ half_regionS.slots 10 by decide)).trans hrX
    have kX_0 := (hb.cell (p := ⟨gX, 0, none⟩) hgX).trans cX_0
    have kX_1 := (hb.cell (p := ⟨gX, 1, none⟩) hgX).trans cX_1
    have erY : a.eval (.tmp 4) = .pointer (some ⟨gY, 0, none⟩) := (hA.eval (show 4 ∉ half_regionS.slots 10 by decide)).trans hrY
    have kY_0 := (hb.cell (p := ⟨gY, 0, none⟩) hgY).trans cY_0
    have kY_1 := (hb.cell (p := ⟨gY, 1, none⟩) hgY).trans cY_1
    have emM : a.eval (.tmp 2) = .int .i64 (M : Int) := (hA.eval (show 2 ∉ half_regionS.slots 10 by decide)).trans hmM
    match i, ho, hv with
    | 0, ho, _ =>
      have ho' : o0 = o := by simpa using ho
      subst ho'
      refine wp_value (v := .agg #[.bool sx, .slice ax lx kx]) (w' := w) ?_ (hK _ _ (Below.refl _ _) (by simp [upd]))
      unfold execOp
      rw [h0]
      dsimp only
      rw [erX]
      simp [go_sem, kX_0, kX_1]
    | 1, ho, _ =>
      have ho' : o1 = o := by simpa using ho
      subst ho'
      exact wp_value (run_move h1 a w) (hK _ _ (Below.refl _ _) (by simp [upd, emM]))
    | 2, ho, _ =>
      have ho' : o2 = o := by simpa using ho
      subst ho'
      have e0 : a.eval (.tmp 16) = .agg #[.bool sx, .slice ax lx kx] := hn 0 (by simp [half_regionS]) rfl
      have e1 : a.eval (.tmp 17) = .int .i64 (M : Int) := hn 1 (by simp [half_regionS]) rfl
      refine wp_call (run_call Try.func5 (by kernel_rfl) rfl h2 a w) ?_ (fun v w' hb' hφ => hK v w' hb' (by simpa [upd] using hφ))
      have em : Array.map a.eval #[Operand.tmp 16, Operand.tmp 17] = #[a.eval (.tmp 16), a.eval (.tmp 17)] := by first | (simp only [List.map_toArray, List.map_cons, List.map_nil]; done) | (simp only [List.map_toArray, List.map_cons, List.map_nil]; rfl) | rfl
      rw [em, e0, e1]
      exact (lawOf_any sx ax lx kx xs (M : Int) M w (hsx.keep hw) hdx rfl hM hlx).mono fun e w h => h.is
    | 3, ho, _ =>
      have ho' : o3 = o := by simpa using ho
      subst ho'
      refine wp_value (v := .agg #[.bool sy, .slice ay ly ky]) (w' := w) ?_ (hK _ _ (Below.refl _ _) (by simp [upd]))
      unfold execOp
      rw [h3]
      dsimp only
      rw [erY]
      simp [go_sem, kY_0, kY_1]
    | 4, ho, _ =>
      have ho' : o4 = o := by simpa using ho
      subst ho'
      exact wp_value (run_move h4 a w) (hK _ _ (Below.refl _ _) (by simp [upd, emM]))
    | 5, ho, _ =>
      have ho' : o5 = o := by simpa using ho
      subst ho'
      have e3 : a.eval (.tmp 19) = .agg #[.bool sy, .slice ay ly ky] := hn 3 (by simp [half_regionS]) rfl
      have e4 : a.eval (.tmp 20) = .int .i64 (M : Int) := hn 4 (by simp [half_regionS]) rfl
      refine wp_call (run_call Try.func5 (by kernel_rfl) rfl h5 a w) ?_ (fun v w' hb' hφ => hK v w' hb' (by simpa [upd] using hφ))
      have em : Array.map a.eval #[Operand.tmp 19, Operand.tmp 20] = #[a.eval (.tmp 19), a.eval (.tmp 20)] := by first | (simp only [List.map_toArray, List.map_cons, List.map_nil]; done) | (simp only [List.map_toArray, List.map_cons, List.map_nil]; rfl) | rfl
      rw [em, e3, e4]
      exact (lawOf_any sy ay ly ky ys (M : Int) M w (hsy.keep hw) hdy rfl hM hly).mono fun e w h => h.is
    | 6, _, hv => cases hv
    | 7, _, hv => cases hv
    | 8, _, hv => cases hv
    | 9, _, hv => cases hv
    | i + 10, ho, _ => simp at ho
  case box =>
    intro i o T z ho hk a w
    match i, ho, hk with
    | 0, _, hk => cases hk
    | 1, _, hk => cases hk
    | 2, _, hk => cases hk
    | 3, _, hk => cases hk
    | 4, _, hk => cases hk
    | 5, _, hk => cases hk
    | 6, ho, hk =>
      have ho' : o6 = o := by simpa using ho
      subst ho'; cases hk; unfold execOp; rw [h6]; simp [go_sem]
    | 7, ho, hk =>
      have ho' : o7 = o := by simpa using ho
      subst ho'; cases hk; unfold execOp; rw [h7]; simp [go_sem]
    | 8, _, hk => cases hk
    | 9, _, hk => cases hk
    | i + 10, ho, _ => simp at ho
  case put =>
    intro i o p' s' T z ho hk hp a w b hva hφ hbx
    match i, ho, hk with
    | 0, _, hk => cases hk
    | 1, _, hk => cases hk
    | 2, _, hk => cases hk
    | 3, _, hk => cases hk
    | 4, _, hk => cases hk
    | 5, _, hk => cases hk
    | 6, _, hk => cases hk
    | 7, _, hk => cases hk
    | 8, ho, hk =>
      have ho' : o8 = o := by simpa using ho
      subst ho'; cases hk; cases hp
      obtain ⟨n2, o2, l2, c2, e2, x2, z2, y2⟩ := hφ
      have q1 : a.eval (.tmp 18) = .agg #[.bool n2, .slice o2 l2 c2] := e2
      have q2 : a.eval (.tmp 9) = .pointer (some ⟨b, 0, none⟩) := hva
      have u0 := hbx.cell 0
      have f0 := hbx.frozen 0
      have u1 := hbx.cell 1
      have f1 := hbx.frozen 1
      refine ⟨[.bool n2, .slice o2 l2 c2], e2, rfl, by simp [isInt], ?_⟩
      unfold execOp; rw [h8]
      dsimp only
      rw [q1, q2]
      simp [go_sem, u0, f0, u1, f1, setFrom]
    | 9, ho, hk =>
      have ho' : o9 = o := by simpa using ho
      subst ho'; cases hk; cases hp
      obtain ⟨n5, o5, l5, c5, e5, x5, z5, y5⟩ := hφ
      have q1 : a.eval (.tmp 21) = .agg #[.bool n5, .slice o5 l5 c5] := e5
      have q2 : a.eval (.tmp 10) = .pointer (some ⟨b, 0, none⟩) := hva
      have u0 := hbx.cell 0
      have f0 := hbx.frozen 0
      have u1 := hbx.cell 1
      have f1 := hbx.frozen 1
      refine ⟨[.bool n5, .slice o5 l5 c5], e5, rfl, by simp [isInt], ?_⟩
      unfold execOp; rw [h9]
      dsimp only
      rw [q1, q2]
      simp [go_sem, u0, f0, u1, f1, setFrom]
    | i + 10, ho, _ => simp at ho
  case fin =>
    intro a w blk hI
    have n8 : (#[o0, o1, o2, o3, o4, o5, o6, o7, o8, o9] : Array Oper).size = 10 := rfl
    rw [n8] at hI
    have hf := hI.agree.form
    have e0 : a.eval (.tmp 16) = .agg #[.bool sx, .slice ax lx kx] := hI.vals 0 (by decide) (by decide) rfl
    have e1 : a.eval (.tmp 17) = .int .i64 (M : Int) := hI.vals 1 (by decide) (by decide) rfl
    obtain ⟨n2, o2, l2, c2, e2, x2, z2, y2⟩ : IsJ (rawZ sx xs M) (a.eval (.tmp 18)) w := hI.vals 2 (by decide) (by decide) rfl
    have e3 : a.eval (.tmp 19) = .agg #[.bool sy, .slice ay ly ky] := hI.vals 3 (by decide) (by decide) rfl
    have e4 : a.eval (.tmp 20) = .int .i64 (M : Int) := hI.vals 4 (by decide) (by decide) rfl
    obtain ⟨n5, o5, l5, c5, e5, x5, z5, y5⟩ : IsJ (rawZ sy ys M) (a.eval (.tmp 21)) w := hI.vals 5 (by decide) (by decide) rfl
    obtain ⟨p6, r6, _, k6⟩ := hI.boxes 6 32 #[.bool false, .slice none 0 0] (by decide) (by decide) rfl
    obtain ⟨us6, i6, _, _, j6⟩ := k6 (show (8 : Nat) < 10 by decide)
    have y_6 : a.eval (.tmp 18) = .agg us6.toArray := i6
    rw [e2] at y_6
    cases y_6
    have e6 : a.eval (.tmp 9) = .pointer (some ⟨blk 6, 0, none⟩) := p6
    obtain ⟨p7, r7, _, k7⟩ := hI.boxes 7 32 #[.bool false, .slice none 0 0] (by decide) (by decide) rfl
    obtain ⟨us7, i7, _, _, j7⟩ := k7 (show (9 : Nat) < 10 by decide)
    have y_7 : a.eval (.tmp 21) = .agg us7.toArray := i7
    rw [e5] at y_7
    cases y_7
    have e7 : a.eval (.tmp 10) = .pointer (some ⟨blk 7, 0, none⟩) := p7
    have hsl : half_regionS.slots 10 = [16, 17, 18, 19, 20, 21, 9, 10] := rfl
    rw [hsl] at hf
    simp only [List.map_cons, List.map_nil, e0, e1, e2, e3, e4, e5, e6, e7] at hf
    rw [hf]
    exact hend w (blk 6) (blk 7) n2 o2 l2 c2 n5 o5 l5 c5  (below_undrew hI.below) r6 j6 r7 j7 (hI.apart 6 7 _ _ _ _ (by decide) (by decide) (by decide) (by decide) rfl rfl (by decide)) x2 z2 y2 x5 z5 y5
end Go.Proofs.Ytcgnmihabkgecaa

/- Add of fractions: the region that makes a block. -/
set_option linter.unusedVariables false
set_option linter.unusedSimpArgs false
namespace Go.Proofs.Ytcgnmihabkgecaa
open Go.RowKit Go.Proofs

theorem OutIL.up {W w' : World} {z : Int} {L M : Nat} {e : Ending} (h : OutIL W z L e w') (hL : L ≤ M) : OutIL W z M e w' := by
  obtain ⟨n, o, l, c, rfl, h1, h2⟩ := h
  exact ⟨n, o, l, c, rfl, Nat.le_trans h1 hL, h2⟩

def addQ_regionS : Shape where
  f := fun i => match i with | 0 => 7 | 1 => 8 | 2 => 9 | 3 => 10 | 4 => 11 | 5 => 12 | 6 => 13 | 7 => 14 | 8 => 15 | 9 => 16 | 10 => 17 | 11 => 6 | _ => 0
  kd := fun i => match i with | 11 => .box 27 #[.bool false, .slice none 0 0] | 12 => .put 11 10 | _ => .val
  need := fun i => match i with | 1 => [0] | 3 => [2] | 4 => [1, 3] | 6 => [5] | 8 => [7] | 9 => [6, 8] | 10 => [4, 9] | 12 => [11, 10] | _ => []
  st := fun i => match i with | 11 => 12 | _ => 0
  src := fun i => match i with | 11 => 10 | _ => 0

set_option maxRecDepth 4000 in
set_option maxHeartbeats 2000000 in
/-- the sum's numerator, whose block may be made at any time -/
theorem addQ_region {Q : Exit → Act → World → Prop} {id : Nat} {a0 : Act} {W : World} {o0 o1 o2 o3 o4 o5 o6 o7 o8 o9 o10 o11 o12 : Oper} (na nc : Bool) (ao bo co d_o : Option Addr) (la lb lc ld ca cb cc cd : Nat) (p r : Int) (q s : Nat) (gF : Nat) (gG : Nat) (ts3 : Array TypeId) (ts4 : Array TypeId) (ts8 : Array TypeId) (ts9 : Array TypeId) (ts10 : Array TypeId)
    (hok : addQ_regionS.ok #[o0, o1, o2, o3, o4, o5, o6, o7, o8, o9, o10, o11, o12] a0.tmps.size = true)
    (h0 : o0.op = .fieldAddr 45 (.tmp 2) 0) (h1 : o1.op = .load 27 (.tmp 7)) (h2 : o2.op = .load 45 (.tmp 3)) (h3 : o3.op = .call { callee := .value (.func 33), args := #[.tmp 9], argTypes := ts3 }) (h4 : o4.op = .call { callee := .value (.func 24), args := #[.tmp 8, .tmp 10], argTypes := ts4 }) (h5 : o5.op = .fieldAddr 45 (.tmp 3) 0) (h6 : o6.op = .load 27 (.tmp 12)) (h7 : o7.op = .load 45 (.tmp 2)) (h8 : o8.op = .call { callee := .value (.func 33), args := #[.tmp 14], argTypes := ts8 }) (h9 : o9.op = .call { callee := .value (.func 24), args := #[.tmp 13, .tmp 15], argTypes := ts9 }) (h10 : o10.op = .call { callee := .value (.func 23), args := #[.tmp 11, .tmp 16], argTypes := ts10 }) (h11 : o11.op = .alloc 27) (h12 : o12.op = .store 27 (.tmp 6) (.tmp 17))
    (hrF : a0.eval (.tmp 2) = .pointer (some ⟨gF, 0, none⟩)) (hgF : gF < W.heap.size) (cF_0 : W.cell? ⟨gF, 0, none⟩ = some (.bool na)) (cF_1 : W.cell? ⟨gF, 1, none⟩ = some (.slice ao la ca)) (cF_2 : W.cell? ⟨gF, 2, none⟩ = some (.slice bo lb cb))
    (hrG : a0.eval (.tmp 3) = .pointer (some ⟨gG, 0, none⟩)) (hgG : gG < W.heap.size) (cG_0 : W.cell? ⟨gG, 0, none⟩ = some (.bool nc)) (cG_1 : W.cell? ⟨gG, 1, none⟩ = some (.slice co lc cc)) (cG_2 : W.cell? ⟨gG, 2, none⟩ = some (.slice d_o ld cd))
    (hF : Q32 W na ao la bo lb p q) (hG : Q32 W nc co lc d_o ld r s) (hla : la ≤ 100000) (hlb : lb ≤ 100000) (hlc : lc ≤ 100000) (hld : ld ≤ 100000)
    (hend : ∀ w b11 n10 o10 l10 c10 d3 d4 d8 d9, Below W.heap.size W w → W.heap.size ≤ b11 → Box w b11 27 #[.bool n10, .slice o10 l10 c10] → l10 ≤ (la + lb + lc + ld + 7) → Z32 w n10 o10 l10 (p * (s : Int) + r * (q : Int)) → 
      Q .normal (puts a0 [(7, .pointer (some ⟨gF, 0, none⟩)), (8, .agg #[.bool na, .slice ao la ca]), (9, .agg #[.bool nc, .slice co lc cc, .slice d_o ld cd]), (10, d3), (11, d4), (12, .pointer (some ⟨gG, 0, none⟩)), (13, .agg #[.bool nc, .slice co lc cc]), (14, .agg #[.bool na, .slice ao la ca, .slice bo lb cb]), (15, d8), (16, d9), (17, .agg #[.bool n10, .slice o10 l10 c10]), (6, .pointer (some ⟨b11, 0, none⟩))]) w) :
    (Code.region id #[o0, o1, o2, o3, o4, o5, o6, o7, o8, o9, o10, o11, o12] true).wp Try.prog Q a0 W := by
  refine Shape.region addQ_regionS (fun i v w => (fun (v : Value) => (match i with | 0 => v = .pointer (some ⟨gF, 0, none⟩) | 1 => v = .agg #[.bool na, .slice ao la ca] | 2 => v = .agg #[.bool nc, .slice co lc cc, .slice d_o ld cd] | 3 => IsIL ((s : Int)) (ld + 1) v w | 4 => IsIL (p * (s : Int)) (la + (ld + 1) + 1) v w | 5 => v = .pointer (some ⟨gG, 0, none⟩) | 6 => v = .agg #[.bool nc, .slice co lc cc] | 7 => v = .agg #[.bool na, .slice ao la ca, .slice bo lb cb] | 8 => IsIL ((q : Int)) (lb + 1) v w | 9 => IsIL (r * (q : Int)) (lc + (lb + 1) + 1) v w | 10 => IsIL (p * (s : Int) + r * (q : Int)) (la + lb + lc + ld + 7) v w | _ => True : Prop)) (v i)) (by kernel_rfl) hok
    (fun i v v' w _ hj hΦ => by rw [← hj i (.inl rfl)]; exact hΦ) ?stab ?val ?box ?put rfl ?fin
  case stab =>
    intro i v hi
    match i with
    | 0 => exact Stable.const _ _
    | 1 => exact Stable.const _ _
    | 2 => exact Stable.const _ _
    | 3 => exact Stable.isIL _ _ _ _
    | 4 => exact Stable.isIL _ _ _ _
    | 5 => exact Stable.const _ _
    | 6 => exact Stable.const _ _
    | 7 => exact Stable.const _ _
    | 8 => exact Stable.isIL _ _ _ _
    | 9 => exact Stable.isIL _ _ _ _
    | 10 => exact Stable.isIL _ _ _ _
    | 11 => exact Stable.const _ _
    | 12 => exact Stable.const _ _
    | i + 13 => exact Stable.const _ _
  case val =>
    intro i o ho hv a w hA hb hz hn K' hK
    have hw := below_undrew hb
    have erF : a.eval (.tmp 2) = .pointer (some ⟨gF, 0, none⟩) := (hA.eval (show 2 ∉ addQ_regionS.slots 13 by decide)).trans hrF
    have kF_0 := (hb.cell (p := ⟨gF, 0, none⟩) hgF).trans cF_0
    have kF_1 := (hb.cell (p := ⟨gF, 1, none⟩) hgF).trans cF_1
    have kF_2 := (hb.cell (p := ⟨gF, 2, none⟩) hgF).trans cF_2
    have erG : a.eval (.tmp 3) = .pointer (some ⟨gG, 0, none⟩) := (hA.eval (show 3 ∉ addQ_regionS.slots 13 by decide)).trans hrG
    have kG_0 := (hb.cell (p := ⟨gG, 0, none⟩) hgG).trans cG_0
    have kG_1 := (hb.cell (p := ⟨gG, 1, none⟩) hgG).trans cG_1
    have kG_2 := (hb.cell (p := ⟨gG, 2, none⟩) hgG).trans cG_2
    match i, ho, hv with
    | 0, ho, _ =>
      have ho' : o0 = o := by simpa using ho
      subst ho'
      refine wp_value (v := .pointer (some ⟨gF, 0, none⟩)) (w' := w) ?_ (hK _ _ (Below.refl _ _) (by simp [upd]))
      unfold execOp
      rw [h0]
      dsimp only
      rw [erF]
      simp [go_sem]
    | 1, ho, _ =>
      have ho' : o1 = o := by simpa using ho
      subst ho'
      have e : a.eval (.tmp 7) = .pointer (some ⟨gF, 0, none⟩) := hn 0 (by simp [addQ_regionS]) rfl
      refine wp_value (v := .agg #[.bool na, .slice ao la ca]) (w' := w) ?_ (hK _ _ (Below.refl _ _) (by simp [upd]))
      unfold execOp
      rw [h1]
      dsimp only
      rw [e]
      simp [go_sem, kF_0, kF_1, kF_2]
    | 2, ho, _ =>
      have ho' : o2 = o := by simpa using ho
      subst ho'
      refine wp_value (v := .agg #[.bool nc, .slice co lc cc, .slice d_o ld cd]) (w' := w) ?_ (hK _ _ (Below.refl _ _) (by simp [upd]))
      unfold execOp
      rw [h2]
      dsimp only
      rw [erG]
      simp [go_sem, kG_0, kG_1, kG_2]
    | 3, ho, _ =>
      have ho' : o3 = o := by simpa using ho
      subst ho'
      have e2 : a.eval (.tmp 9) = .agg #[.bool nc, .slice co lc cc, .slice d_o ld cd] := hn 2 (by simp [addQ_regionS]) rfl
      refine wp_call (run_call Try.func33 (by kernel_rfl) rfl h3 a w) ?_ (fun v w' hb' hφ => hK v w' hb' (by simpa [upd] using hφ))
      have em : Array.map a.eval #[Operand.tmp 9] = #[a.eval (.tmp 9)] := by first | (simp only [List.map_toArray, List.map_cons, List.map_nil]; done) | (simp only [List.map_toArray, List.map_cons, List.map_nil]; rfl) | rfl
      rw [em, e2]
      exact (den_L nc co d_o lc ld cc cd r s w (hG.keep hw) (by omega)).mono fun e w h => h.is
    | 4, ho, _ =>
      have ho' : o4 = o := by simpa using ho
      subst ho'
      have e1 : a.eval (.tmp 8) = .agg #[.bool na, .slice ao la ca] := hn 1 (by simp [addQ_regionS]) rfl
      obtain ⟨n3, o3, l3, c3, e3, x3, y3⟩ : IsIL ((s : Int)) (ld + 1) (a.eval (.tmp 10)) w := hn 3 (by simp [addQ_regionS]) rfl
      refine wp_call (run_call Try.func24 (by kernel_rfl) rfl h4 a w) ?_ (fun v w' hb' hφ => hK v w' hb' (by simpa [upd] using hφ))
      have em : Array.map a.eval #[Operand.tmp 8, Operand.tmp 10] = #[a.eval (.tmp 8), a.eval (.tmp 10)] := by first | (simp only [List.map_toArray, List.map_cons, List.map_nil]; done) | (simp only [List.map_toArray, List.map_cons, List.map_nil]; rfl) | rfl
      rw [em, e1, e3]
      exact (times_L na n3 ao o3 la l3 ca c3 p (s : Int) w (hF.1.keep hw) y3 (by omega) (by omega)).mono fun e w h => OutIL.is (h.up (by omega))
    | 5, ho, _ =>
      have ho' : o5 = o := by simpa using ho
      subst ho'
      refine wp_value (v := .pointer (some ⟨gG, 0, none⟩)) (w' := w) ?_ (hK _ _ (Below.refl _ _) (by simp [upd]))
      unfold execOp
      rw [h5]
      dsimp only
      rw [erG]
      simp [go_sem]
    | 6, ho, _ =>
      have ho' : o6 = o := by simpa using ho
      subst ho'
      have e : a.eval (.tmp 12) = .pointer (some ⟨gG, 0, none⟩) := hn 5 (by simp [addQ_regionS]) rfl
      refine wp_value (v := .agg #[.bool nc, .slice co lc cc]) (w' := w) ?_ (hK _ _ (Below.refl _ _) (by simp [upd]))
      unfold execOp
      rw [h6]
      dsimp only
      rw [e]
      simp [go_sem, kG_0, kG_1, kG_2]
    | 7, ho, _ =>
      have ho' : o7 = o := by simpa using ho
      subst ho'
      refine wp_value (v := .agg #[.bool na, .slice ao la ca, .slice bo lb cb]) (w' := w) ?_ (hK _ _ (Below.refl _ _) (by simp [upd]))
      unfold execOp
      rw [h7]
      dsimp only
      rw [erF]
      simp [go_sem, kF_0, kF_1, kF_2]
    | 8, ho, _ =>
      have ho' : o8 = o := by simpa using ho
      subst ho'
      have e7 : a.eval (.tmp 14) = .agg #[.bool na, .slice ao la ca, .slice bo lb cb] := hn 7 (by simp [addQ_regionS]) rfl
      refine wp_call (run_call Try.func33 (by kernel_rfl) rfl h8 a w) ?_ (fun v w' hb' hφ => hK v w' hb' (by simpa [upd] using hφ))
      have em : Array.map a.eval #[Operand.tmp 14] = #[a.eval (.tmp 14)] := by first | (simp only [List.map_toArray, List.map_cons, List.map_nil]; done) | (simp only [List.map_toArray, List.map_cons, List.map_nil]; rfl) | rfl
      rw [em, e7]
      exact (den_L na ao bo la lb ca cb p q w (hF.keep hw) (by omega)).mono fun e w h => h.is
    | 9, ho, _ =>
      have ho' : o9 = o := by simpa using ho
      subst ho'
      have e6 : a.eval (.tmp 13) = .agg #[.bool nc, .slice co lc cc] := hn 6 (by simp [addQ_regionS]) rfl
      obtain ⟨n8, o8, l8, c8, e8, x8, y8⟩ : IsIL ((q : Int)) (lb + 1) (a.eval (.tmp 15)) w := hn 8 (by simp [addQ_regionS]) rfl
      refine wp_call (run_call Try.func24 (by kernel_rfl) rfl h9 a w) ?_ (fun v w' hb' hφ => hK v w' hb' (by simpa [upd] using hφ))
      have em : Array.map a.eval #[Operand.tmp 13, Operand.tmp 15] = #[a.eval (.tmp 13), a.eval (.tmp 15)] := by first | (simp only [List.map_toArray, List.map_cons, List.map_nil]; done) | (simp only [List.map_toArray, List.map_cons, List.map_nil]; rfl) | rfl
      rw [em, e6, e8]
      exact (times_L nc n8 co o8 lc l8 cc c8 r (q : Int) w (hG.1.keep hw) y8 (by omega) (by omega)).mono fun e w h => OutIL.is (h.up (by omega))
    | 10, ho, _ =>
      have ho' : o10 = o := by simpa using ho
      subst ho'
      obtain ⟨n4, o4, l4, c4, e4, x4, y4⟩ : IsIL (p * (s : Int)) (la + (ld + 1) + 1) (a.eval (.tmp 11)) w := hn 4 (by simp [addQ_regionS]) rfl
      obtain ⟨n9, o9, l9, c9, e9, x9, y9⟩ : IsIL (r * (q : Int)) (lc + (lb + 1) + 1) (a.eval (.tmp 16)) w := hn 9 (by simp [addQ_regionS]) rfl
      refine wp_call (run_call Try.func23 (by kernel_rfl) rfl h10 a w) ?_ (fun v w' hb' hφ => hK v w' hb' (by simpa [upd] using hφ))
      have em : Array.map a.eval #[Operand.tmp 11, Operand.tmp 16] = #[a.eval (.tmp 11), a.eval (.tmp 16)] := by first | (simp only [List.map_toArray, List.map_cons, List.map_nil]; done) | (simp only [List.map_toArray, List.map_cons, List.map_nil]; rfl) | rfl
      rw [em, e4, e9]
      exact (plus_L n4 n9 o4 o9 l4 l9 c4 c9 (p * (s : Int)) (r * (q : Int)) w y4 y9 (by omega) (by omega)).mono fun e w h => OutIL.is (h.up (by omega))
    | 11, _, hv => cases hv
    | 12, _, hv => cases hv
    | i + 13, ho, _ => simp at ho
  case box =>
    intro i o T z ho hk a w
    match i, ho, hk with
    | 0, _, hk => cases hk
    | 1, _, hk => cases hk
    | 2, _, hk => cases hk
    | 3, _, hk => cases hk
    | 4, _, hk => cases hk
    | 5, _, hk => cases hk
    | 6, _, hk => cases hk
    | 7, _, hk => cases hk
    | 8, _, hk => cases hk
    | 9, _, hk => cases hk
    | 10, _, hk => cases hk
    | 11, ho, hk =>
      have ho' : o11 = o := by simpa using ho
      subst ho'; cases hk; unfold execOp; rw [h11]; simp [go_sem]
    | 12, _, hk => cases hk
    | i + 13, ho, _ => simp at ho
  case put =>
    intro i o p' s' T z ho hk hp a w b hva hφ hbx
    match i, ho, hk with
    | 0, _, hk => cases hk
    | 1, _, hk => cases hk
    | 2, _, hk => cases hk
    | 3, _, hk => cases hk
    | 4, _, hk => cases hk
    | 5, _, hk => cases hk
    | 6, _, hk => cases hk
    | 7, _, hk => cases hk
    | 8, _, hk => cases hk
    | 9, _, hk => cases hk
    | 10, _, hk => cases hk
    | 11, _, hk => cases hk
    | 12, ho, hk =>
      have ho' : o12 = o := by simpa using ho
      subst ho'; cases hk; cases hp
      obtain ⟨n10, o10, l10, c10, e10, x10, y10⟩ := hφ
      have q1 : a.eval (.tmp 17) = .agg #[.bool n10, .slice o10 l10 c10] := e10
      have q2 : a.eval (.tmp 6) = .pointer (some ⟨b, 0, none⟩) := hva
      have u0 := hbx.cell 0
      have f0 := hbx.frozen 0
      have u1 := hbx.cell 1
      have f1 := hbx.frozen 1
      refine ⟨[.bool n10, .slice o10 l10 c10], e10, rfl, by simp [isInt], ?_⟩
      unfold execOp; rw [h12]
      dsimp only
      rw [q1, q2]
      simp [go_sem, u0, f0, u1, f1, setFrom]
    | i + 13, ho, _ => simp at ho
  case fin =>
    intro a w blk hI
    have n8 : (#[o0, o1, o2, o3, o4, o5, o6, o7, o8, o9, o10, o11, o12] : Array Oper).size = 13 := rfl
    rw [n8] at hI
    have hf := hI.agree.form
    have e0 : a.eval (.tmp 7) = .pointer (some ⟨gF, 0, none⟩) := hI.vals 0 (by decide) (by decide) rfl
    have e1 : a.eval (.tmp 8) = .agg #[.bool na, .slice ao la ca] := hI.vals 1 (by decide) (by decide) rfl
    have e2 : a.eval (.tmp 9) = .agg #[.bool nc, .slice co lc cc, .slice d_o ld cd] := hI.vals 2 (by decide) (by decide) rfl
    have e5 : a.eval (.tmp 12) = .pointer (some ⟨gG, 0, none⟩) := hI.vals 5 (by decide) (by decide) rfl
    have e6 : a.eval (.tmp 13) = .agg #[.bool nc, .slice co lc cc] := hI.vals 6 (by decide) (by decide) rfl
    have e7 : a.eval (.tmp 14) = .agg #[.bool na, .slice ao la ca, .slice bo lb cb] := hI.vals 7 (by decide) (by decide) rfl
    obtain ⟨n10, o10, l10, c10, e10, x10, y10⟩ : IsIL (p * (s : Int) + r * (q : Int)) (la + lb + lc + ld + 7) (a.eval (.tmp 17)) w := hI.vals 10 (by decide) (by decide) rfl
    obtain ⟨p11, r11, _, k11⟩ := hI.boxes 11 27 #[.bool false, .slice none 0 0] (by decide) (by decide) rfl
    obtain ⟨us11, i11, _, _, j11⟩ := k11 (show (12 : Nat) < 13 by decide)
    have y_11 : a.eval (.tmp 17) = .agg us11.toArray := i11
    rw [e10] at y_11
    cases y_11
    have e11 : a.eval (.tmp 6) = .pointer (some ⟨blk 11, 0, none⟩) := p11
    have hsl : addQ_regionS.slots 13 = [7, 8, 9, 10, 11, 12, 13, 14, 15, 16, 17, 6] := rfl
    rw [hsl] at hf
    simp only [List.map_cons, List.map_nil, e0, e1, e2, e5, e6, e7, e10, e11] at hf
    rw [hf]
    exact hend w (blk 11) n10 o10 l10 c10 _ _ _ _ (below_undrew hI.below) r11 j11 x10 y10
end Go.Proofs.Ytcgnmihabkgecaa

/- The specification's Low. -/
set_option linter.unusedVariables false
namespace Go.Proofs.Ytcgnmihabkgecaa
open Go.RowKit Go.Proofs

theorem lowP_zero (y : Int) : lowP 0 y = 0 := by
  unfold lowP
  rw [Int.natAbs_zero, Nat.zero_div]
  generalize (decide ((0 : Int) < 0) != decide (y < 0)) = b
  cases b <;> rfl
theorem lowQ_zero {y : Int} (hy : y ≠ 0) : lowQ 0 y = 1 := by
  unfold lowQ
  rw [Int.natAbs_zero, Nat.gcd_zero_left, Nat.div_self (by omega)]

/-- OutK with a bound for the number of digits -/
def OutKB (W : World) (p : Int) (q : Int) (e : Ending) (w' : World) : Prop :=
  ∃ s1 o1 l1 c1 s2 o2 l2 c2, e = .returned (.agg #[.bool s1, .slice o1 l1 c1, .bool s2, .slice o2 l2 c2]) ∧ l1 ≤ 100000 ∧ l2 ≤ 100000 ∧ l1 ≤ c1 ∧ c1 ≤ 9223372036854775807 ∧ l2 ≤ c2 ∧ c2 ≤ 9223372036854775807 ∧ Z16 w' s1 o1 l1 p ∧ Z16 w' s2 o2 l2 q ∧ Below W.heap.size W w'

end Go.Proofs.Ytcgnmihabkgecaa

/- The specification's operations of fractions. -/
set_option linter.unusedVariables false
namespace Go.Proofs.Ytcgnmihabkgecaa
open Go.RowKit Go.Proofs

/-- OutJ with a bound for the number of digits -/
def OutJL (W : World) (z : Int) (L : Nat) (e : Ending) (w' : World) : Prop := ∃ neg ao len cap, e = .returned (.agg #[.bool neg, .slice ao len cap]) ∧ len ≤ L ∧ len ≤ cap ∧ cap ≤ 9223372036854775807 ∧ Z16 w' neg ao len z ∧ Below W.heap.size W w'

theorem OutJ.len {W w' : World} {z : Int} {L : Nat} {e : Ending} (h : OutJ W z e w') (hL : z.natAbs < B16 ^ L) : OutJL W z L e w' := by
  obtain ⟨neg, ao, len, cap, rfl, h1, h2, hz, hb⟩ := h
  exact ⟨neg, ao, len, cap, rfl, hz.n16.len_le hL, h1, h2, hz, hb⟩

theorem mul16_lt {x y : Int} {a b : Nat} (hx : x.natAbs < B16 ^ a) (hy : y.natAbs < B16 ^ b) : (x * y).natAbs < B16 ^ (a + b) := by
  rw [Int.natAbs_mul, Nat.pow_add]
  exact Nat.mul_lt_mul'' hx hy

theorem add16_lt {x y : Int} {a b : Nat} (hx : x.natAbs < B16 ^ a) (hy : y.natAbs < B16 ^ b) : (x + y).natAbs < B16 ^ (a + b + 1) := by
  have h3 : (x + y).natAbs ≤ x.natAbs + y.natAbs := Int.natAbs_add_le x y
  have ha : B16 ^ a ≤ B16 ^ (a + b) := Nat.pow_le_pow_right B16_pos (by omega)
  have hb : B16 ^ b ≤ B16 ^ (a + b) := Nat.pow_le_pow_right B16_pos (by omega)
  rw [Nat.pow_succ, B16_eq] at *
  omega

theorem cell_set4 (w : World) (g b o : Nat) (u v x y : Value) (h : b ≠ g) : ((((w.setCell ⟨g, 0, none⟩ u).setCell ⟨g, 1, none⟩ v).setCell ⟨g, 2, none⟩ x).setCell ⟨g, 3, none⟩ y).cell? ⟨b, o, none⟩ = w.cell? ⟨b, o, none⟩ := by
  have e : ((((w.setCell ⟨g, 0, none⟩ u).setCell ⟨g, 1, none⟩ v).setCell ⟨g, 2, none⟩ x).setCell ⟨g, 3, none⟩ y).heap[b]? = w.heap[b]? := by
    rw [Below.heap_setCell _ _ _ _ h, Below.heap_setCell _ _ _ _ h, Below.heap_setCell _ _ _ _ h, Below.heap_setCell _ _ _ _ h]
  simp only [World.cell?, e]

end Go.Proofs.Ytcgnmihabkgecaa

/- The laws' helper same. -/
set_option linter.unusedVariables false
set_option linter.unusedSimpArgs false
namespace Go.Proofs.Ytcgnmihabkgecaa
open Go.RowKit Go.Proofs

theorem fits_cast (q : Nat) : Fits (q : Int) ↔ blen q ≤ 16384 := by unfold Fits; rw [Int.natAbs_natCast]

theorem textQ_zero : textQ 0 1 = [48] := by unfold textQ; rw [if_pos rfl]; rfl

end Go.Proofs.Ytcgnmihabkgecaa

/- The laws' helper half. -/
set_option linter.unusedVariables false
set_option linter.unusedSimpArgs false
namespace Go.Proofs.Ytcgnmihabkgecaa
open Go.RowKit Go.Proofs

theorem fits_lowP {x y : Int} (h : Fits x) : Fits (lowP x y) := by
  unfold Fits at *
  rw [blen_le] at *
  unfold lowP; rw [sgn_natAbs]
  exact Nat.lt_of_le_of_lt (Nat.div_le_self _ _) h
theorem fits_lowQ {x y : Int} (h : Fits y) : blen (lowQ x y) ≤ 16384 := by
  unfold Fits at h
  rw [blen_le] at *
  unfold lowQ
  exact Nat.lt_of_le_of_lt (Nat.div_le_self _ _) h

/-- what half returns: the program's fraction and the specification's -/
def HalfOut (X Y : Int) (W : World) (e : Ending) (w' : World) : Prop :=
  ∃ na ao la ca bo lb cb s1 o1 l1 c1 s2 o2 l2 c2 P Q, e = .returned (.tuple #[.agg #[.bool na, .slice ao la ca, .slice bo lb cb], .agg #[.bool s1, .slice o1 l1 c1, .bool s2, .slice o2 l2 c2], .bool (decide (Y ≠ 0))]) ∧ la ≤ 512 ∧ lb ≤ 512 ∧ Q32 w' na ao la bo lb P Q ∧
    (Y ≠ 0 → P = lowP X Y ∧ Q = lowQ X Y ∧ l1 ≤ 1024 ∧ l2 ≤ 1024 ∧ Z16 w' s1 o1 l1 P ∧ Z16 w' s2 o2 l2 (Q : Int)) ∧ Below W.heap.size W w'

end Go.Proofs.Ytcgnmihabkgecaa

/- The program's product of fractions. -/
set_option linter.unusedVariables false
namespace Go.Proofs.Ytcgnmihabkgecaa
open Go.RowKit

end Go.Proofs.Ytcgnmihabkgecaa

/- Add of fractions. -/
set_option linter.unusedVariables false
namespace Go.Proofs.Ytcgnmihabkgecaa
open Go.RowKit Go.Proofs

set_option maxRecDepth 4000 in
set_option maxHeartbeats 2000000 in
theorem ratAdd_any (na nc : Bool) (ao bo co d_o : Option Addr) (la lb lc ld ca cb cc cd : Nat) (p r : Int) (q s : Nat) (W : World) (hf0 : Q32 W na ao la bo lb p q) (hg0 : Q32 W nc co lc d_o ld r s) (hla : la ≤ 100000) (hlb : lb ≤ 100000) (hlc : lc ≤ 100000) (hld : ld ≤ 100000) :
    Calls Try.prog 15 #[.agg #[.bool na, .slice ao la ca, .slice bo lb cb], .agg #[.bool nc, .slice co lc cc, .slice d_o ld cd]] W (OutTQ W (lowP (p * (s : Int) + r * (q : Int)) ((q : Int) * (s : Int))) (lowQ (p * (s : Int) + r * (q : Int)) ((q : Int) * (s : Int)))) := by
  have hf : Fr W (((W.alloc (.cells #[.bool na, .slice ao la ca, .slice bo lb cb] 45)).alloc (.cells #[.bool nc, .slice co lc cc, .slice d_o ld cd] 45)).alloc (.cells #[.bool false, .slice none 0 0, .slice none 0 0] 45)) [(45, #[.bool na, .slice ao la ca, .slice bo lb cb]), (45, #[.bool nc, .slice co lc cc, .slice d_o ld cd]), (45, #[.bool false, .slice none 0 0, .slice none 0 0])] := (((Fr.nil W).alloc rfl _ _).alloc (by simp) _ _).alloc (by simp) _ _
  have hy0 : (q : Int) * (s : Int) ≠ 0 := by
    have h1 := hf0.pos
    have h2 := hg0.pos
    have h3 : 0 < (q : Int) * (s : Int) := Int.mul_pos (by omega) (by omega)
    omega
  have HF := Lib.hid hf
  have HF_0 := Lib.hid (hf0.keep hf.below)
  have HG_0 := Lib.hid (hg0.keep hf.below)
  clear hf hf0 hg0
  go_enter Try.func15, Try.ntmps15
  go_wp2_with fail
  obtain ⟨V, hV⟩ : ∃ V, V = (((W.alloc (.cells #[.bool na, .slice ao la ca, .slice bo lb cb] 45)).alloc (.cells #[.bool nc, .slice co lc cc, .slice d_o ld cd] 45)).alloc (.cells #[.bool false, .slice none 0 0, .slice none 0 0] 45)) := ⟨_, rfl⟩
  rw [← hV] at HF HF_0 HG_0 ⊢
  clear hV
  have hv : W.heap.size + 3 ≤ V.heap.size := by have := HF.out.size; simpa using this
  rename_i hK0
  refine addQ_region na nc ao bo co d_o la lb lc ld ca cb cc cd p r q s W.heap.size (W.heap.size + 1) _ _ _ _ _ (by kernel_rfl) rfl rfl rfl rfl rfl rfl rfl rfl rfl rfl rfl rfl rfl rfl (by omega) (HF.out.cell 0 0 rfl rfl) (HF.out.cell 0 1 rfl rfl) (HF.out.cell 0 2 rfl rfl) rfl (by omega) (HF.out.cell 1 0 rfl rfl) (HF.out.cell 1 1 rfl rfl) (HF.out.cell 1 2 rfl rfl) HF_0.out HG_0.out hla hlb hlc hld ?_
  intro w1 b11 n10 o10 l10 c10 d3 d4 d8 d9 hb hb11 hbx hl hz
  refine hK0 _ _ ?_
  have FP1 := Lib.hid (HF.out.later hb)
  have HF1 := Lib.hid (HF_0.out.keep hb)
  have HG1 := Lib.hid (HG_0.out.keep hb)
  have BX1 := Lib.hid hbx
  have HX1 := Lib.hid hz
  clear hb hbx hz hK0
  simp only [puts, Act.put]
  go_wp2_with fail
  have qq0 : w1.cell? ⟨W.heap.size, 0, none⟩ = some (.bool na) := FP1.out.cell 0 0 rfl rfl
  have qq1 : w1.cell? ⟨W.heap.size, 1, none⟩ = some (.slice ao la ca) := FP1.out.cell 0 1 rfl rfl
  have qq2 : w1.cell? ⟨W.heap.size, 2, none⟩ = some (.slice bo lb cb) := FP1.out.cell 0 2 rfl rfl
  have qq3 : w1.cell? ⟨W.heap.size + 1, 0, none⟩ = some (.bool nc) := FP1.out.cell 1 0 rfl rfl
  have qq4 : w1.cell? ⟨W.heap.size + 1, 1, none⟩ = some (.slice co lc cc) := FP1.out.cell 1 1 rfl rfl
  have qq5 : w1.cell? ⟨W.heap.size + 1, 2, none⟩ = some (.slice d_o ld cd) := FP1.out.cell 1 2 rfl rfl
  have qq6 : w1.cell? ⟨b11, 0, none⟩ = some (.bool n10) := BX1.out.cell 0
  have qq7 : w1.cell? ⟨b11, 1, none⟩ = some (.slice o10 l10 c10) := BX1.out.cell 1
  go_region_held3 (fun w' => w'.cell? ⟨W.heap.size, 0, none⟩ = some (.bool na) ∧ w'.cell? ⟨W.heap.size, 1, none⟩ = some (.slice ao la ca) ∧ w'.cell? ⟨W.heap.size, 2, none⟩ = some (.slice bo lb cb) ∧ w'.cell? ⟨W.heap.size + 1, 0, none⟩ = some (.bool nc) ∧ w'.cell? ⟨W.heap.size + 1, 1, none⟩ = some (.slice co lc cc) ∧ w'.cell? ⟨W.heap.size + 1, 2, none⟩ = some (.slice d_o ld cd) ∧ w'.cell? ⟨b11, 0, none⟩ = some (.bool n10) ∧ w'.cell? ⟨b11, 1, none⟩ = some (.slice o10 l10 c10)) (first | (go_keep; done) | ((try dsimp only); (repeat' apply And.intro) <;> (first | (go_keep; done) | (rw [cell_set3 _ _ _ _ _ _ _ (by omega)]; assumption) | (rw [cell_set2 _ _ _ _ _ _ (by omega)]; assumption))))
    (first | (go_at_call 34; refine ((fittingRat_any _ _ _ _ _ _ _ (lowP (p * (s : Int) + r * (q : Int)) ((q : Int) * (s : Int))) (lowQ (p * (s : Int) + r * (q : Int)) ((q : Int) * (s : Int))) _ HQ0.out (by omega) (by omega)).mono fun e w h => h.told).mono ?_; rintro e aw4 ⟨n8, o8, l8, c8, u8, m8, d8, e8, P8, Q8, rfl, hl8, hm8, hz, hb, ht⟩; have hbb := hb; have FPa4 := Lib.hid (FPa3.out.later hbb); have BXa4 := Lib.hid (BXa3.out.below hbb BXa3.out.lt); have HFa4 := Lib.hid (HFa3.out.keep hbb); have HGa4 := Lib.hid (HGa3.out.keep hbb); have HXa4 := Lib.hid (HXa3.out.keep hbb); have HDa4 := Lib.hid (HDa3.out.keep hbb); have HEa4 := Lib.hid (HEa3.out.keep hbb); have HYa4 := Lib.hid (HYa3.out.keep hbb); have HQa4 := Lib.hid (HQ0.out.keep hbb); have HZ0 := Lib.hid hz; have HT := Lib.hid ht; clear hz ht; clear hb hbb; have a4c0 : aw4.cell? ⟨W.heap.size, 0, none⟩ = some (.bool na) := FPa4.out.cell 0 0 rfl rfl; have a4c1 : aw4.cell? ⟨W.heap.size, 1, none⟩ = some (.slice ao la ca) := FPa4.out.cell 0 1 rfl rfl; have a4c2 : aw4.cell? ⟨W.heap.size, 2, none⟩ = some (.slice bo lb cb) := FPa4.out.cell 0 2 rfl rfl; have a4c3 : aw4.cell? ⟨W.heap.size + 1, 0, none⟩ = some (.bool nc) := FPa4.out.cell 1 0 rfl rfl; have a4c4 : aw4.cell? ⟨W.heap.size + 1, 1, none⟩ = some (.slice co lc cc) := FPa4.out.cell 1 1 rfl rfl; have a4c5 : aw4.cell? ⟨W.heap.size + 1, 2, none⟩ = some (.slice d_o ld cd) := FPa4.out.cell 1 2 rfl rfl; have a4c6 : aw4.cell? ⟨b11, 0, none⟩ = some (.bool n10) := BXa4.out.cell 0; have a4c7 : aw4.cell? ⟨b11, 1, none⟩ = some (.slice o10 l10 c10) := BXa4.out.cell 1; have az0 : aw4.cell? ⟨W.heap.size + 2, 0, none⟩ = some (.bool false) := FPa4.out.cell 2 0 rfl rfl; have az1 : aw4.cell? ⟨W.heap.size + 2, 1, none⟩ = some (.slice none 0 0) := FPa4.out.cell 2 1 rfl rfl; have az2 : aw4.cell? ⟨W.heap.size + 2, 2, none⟩ = some (.slice none 0 0) := FPa4.out.cell 2 2 rfl rfl; have azf0 : aw4.frozen? ⟨W.heap.size + 2, 0, none⟩ = false := FPa4.out.frozen 2 0 rfl; have azf1 : aw4.frozen? ⟨W.heap.size + 2, 1, none⟩ = false := FPa4.out.frozen 2 1 rfl; have azf2 : aw4.frozen? ⟨W.heap.size + 2, 2, none⟩ = false := FPa4.out.frozen 2 2 rfl) | (go_at_call 32; refine (reduced_L _ _ _ _ _ _ _ _ (p * (s : Int) + r * (q : Int)) ((q : Int) * (s : Int)) _ HXa2.out HY0.out (by omega) (by omega) hy0).mono ?_; rintro e aw3 ⟨n7, o7, l7, c7, u7, m7, d7, rfl, hl7, hm7, hz, hb⟩; have hbb := hb; have FPa3 := Lib.hid (FPa2.out.later hbb); have BXa3 := Lib.hid (BXa2.out.below hbb BXa2.out.lt); have HFa3 := Lib.hid (HFa2.out.keep hbb); have HGa3 := Lib.hid (HGa2.out.keep hbb); have HXa3 := Lib.hid (HXa2.out.keep hbb); have HDa3 := Lib.hid (HDa2.out.keep hbb); have HEa3 := Lib.hid (HEa2.out.keep hbb); have HYa3 := Lib.hid (HY0.out.keep hbb); have HQ0 := Lib.hid hz; clear hz; clear hb hbb; have a3c0 : aw3.cell? ⟨W.heap.size, 0, none⟩ = some (.bool na) := FPa3.out.cell 0 0 rfl rfl; have a3c1 : aw3.cell? ⟨W.heap.size, 1, none⟩ = some (.slice ao la ca) := FPa3.out.cell 0 1 rfl rfl; have a3c2 : aw3.cell? ⟨W.heap.size, 2, none⟩ = some (.slice bo lb cb) := FPa3.out.cell 0 2 rfl rfl; have a3c3 : aw3.cell? ⟨W.heap.size + 1, 0, none⟩ = some (.bool nc) := FPa3.out.cell 1 0 rfl rfl; have a3c4 : aw3.cell? ⟨W.heap.size + 1, 1, none⟩ = some (.slice co lc cc) := FPa3.out.cell 1 1 rfl rfl; have a3c5 : aw3.cell? ⟨W.heap.size + 1, 2, none⟩ = some (.slice d_o ld cd) := FPa3.out.cell 1 2 rfl rfl; have a3c6 : aw3.cell? ⟨b11, 0, none⟩ = some (.bool n10) := BXa3.out.cell 0; have a3c7 : aw3.cell? ⟨b11, 1, none⟩ = some (.slice o10 l10 c10) := BXa3.out.cell 1) | (go_at_call 24; refine (times_L _ _ _ _ _ _ _ _ ((q : Int)) ((s : Int)) _ HDa1.out HE0.out (by omega) (by omega)).mono ?_; rintro e aw2 ⟨n4, o4, l4, c4, rfl, hl4, hz, hb⟩; have hbb := hb; have FPa2 := Lib.hid (FPa1.out.later hbb); have BXa2 := Lib.hid (BXa1.out.below hbb BXa1.out.lt); have HFa2 := Lib.hid (HFa1.out.keep hbb); have HGa2 := Lib.hid (HGa1.out.keep hbb); have HXa2 := Lib.hid (HXa1.out.keep hbb); have HDa2 := Lib.hid (HDa1.out.keep hbb); have HEa2 := Lib.hid (HE0.out.keep hbb); have HY0 := Lib.hid hz; clear hz; clear hb hbb; have a2c0 : aw2.cell? ⟨W.heap.size, 0, none⟩ = some (.bool na) := FPa2.out.cell 0 0 rfl rfl; have a2c1 : aw2.cell? ⟨W.heap.size, 1, none⟩ = some (.slice ao la ca) := FPa2.out.cell 0 1 rfl rfl; have a2c2 : aw2.cell? ⟨W.heap.size, 2, none⟩ = some (.slice bo lb cb) := FPa2.out.cell 0 2 rfl rfl; have a2c3 : aw2.cell? ⟨W.heap.size + 1, 0, none⟩ = some (.bool nc) := FPa2.out.cell 1 0 rfl rfl; have a2c4 : aw2.cell? ⟨W.heap.size + 1, 1, none⟩ = some (.slice co lc cc) := FPa2.out.cell 1 1 rfl rfl; have a2c5 : aw2.cell? ⟨W.heap.size + 1, 2, none⟩ = some (.slice d_o ld cd) := FPa2.out.cell 1 2 rfl rfl; have a2c6 : aw2.cell? ⟨b11, 0, none⟩ = some (.bool n10) := BXa2.out.cell 0; have a2c7 : aw2.cell? ⟨b11, 1, none⟩ = some (.slice o10 l10 c10) := BXa2.out.cell 1) | (go_at_call 33; refine (den_L nc _ _ _ _ _ _ r s _ HGa0.out (by omega)).mono ?_; rintro e aw1 ⟨n3, o3, l3, c3, rfl, hl3, hz, hb⟩; have hbb := hb; have FPa1 := Lib.hid (FPa0.out.later hbb); have BXa1 := Lib.hid (BXa0.out.below hbb BXa0.out.lt); have HFa1 := Lib.hid (HFa0.out.keep hbb); have HGa1 := Lib.hid (HGa0.out.keep hbb); have HXa1 := Lib.hid (HXa0.out.keep hbb); have HDa1 := Lib.hid (HD0.out.keep hbb); have HE0 := Lib.hid hz; clear hz; clear hb hbb; have a1c0 : aw1.cell? ⟨W.heap.size, 0, none⟩ = some (.bool na) := FPa1.out.cell 0 0 rfl rfl; have a1c1 : aw1.cell? ⟨W.heap.size, 1, none⟩ = some (.slice ao la ca) := FPa1.out.cell 0 1 rfl rfl; have a1c2 : aw1.cell? ⟨W.heap.size, 2, none⟩ = some (.slice bo lb cb) := FPa1.out.cell 0 2 rfl rfl; have a1c3 : aw1.cell? ⟨W.heap.size + 1, 0, none⟩ = some (.bool nc) := FPa1.out.cell 1 0 rfl rfl; have a1c4 : aw1.cell? ⟨W.heap.size + 1, 1, none⟩ = some (.slice co lc cc) := FPa1.out.cell 1 1 rfl rfl; have a1c5 : aw1.cell? ⟨W.heap.size + 1, 2, none⟩ = some (.slice d_o ld cd) := FPa1.out.cell 1 2 rfl rfl; have a1c6 : aw1.cell? ⟨b11, 0, none⟩ = some (.bool n10) := BXa1.out.cell 0; have a1c7 : aw1.cell? ⟨b11, 1, none⟩ = some (.slice o10 l10 c10) := BXa1.out.cell 1) | (go_at_call 33; refine (den_L na _ _ _ _ _ _ p q w1.drew (HF1.out.keep (Below.refl _ _).drew) (by omega)).mono ?_; rintro e aw0 ⟨n2, o2, l2, c2, rfl, hl2, hz, hb⟩; have hbb := below_of_drew hb; have FPa0 := Lib.hid (FP1.out.later hbb); have BXa0 := Lib.hid (BX1.out.below hbb BX1.out.lt); have HFa0 := Lib.hid (HF1.out.keep hbb); have HGa0 := Lib.hid (HG1.out.keep hbb); have HXa0 := Lib.hid (HX1.out.keep hbb); have HD0 := Lib.hid hz; clear hz; clear hb hbb; have a0c0 : aw0.cell? ⟨W.heap.size, 0, none⟩ = some (.bool na) := FPa0.out.cell 0 0 rfl rfl; have a0c1 : aw0.cell? ⟨W.heap.size, 1, none⟩ = some (.slice ao la ca) := FPa0.out.cell 0 1 rfl rfl; have a0c2 : aw0.cell? ⟨W.heap.size, 2, none⟩ = some (.slice bo lb cb) := FPa0.out.cell 0 2 rfl rfl; have a0c3 : aw0.cell? ⟨W.heap.size + 1, 0, none⟩ = some (.bool nc) := FPa0.out.cell 1 0 rfl rfl; have a0c4 : aw0.cell? ⟨W.heap.size + 1, 1, none⟩ = some (.slice co lc cc) := FPa0.out.cell 1 1 rfl rfl; have a0c5 : aw0.cell? ⟨W.heap.size + 1, 2, none⟩ = some (.slice d_o ld cd) := FPa0.out.cell 1 2 rfl rfl; have a0c6 : aw0.cell? ⟨b11, 0, none⟩ = some (.bool n10) := BXa0.out.cell 0; have a0c7 : aw0.cell? ⟨b11, 1, none⟩ = some (.slice o10 l10 c10) := BXa0.out.cell 1))
  go_wp2
  obtain ⟨e0, e1, e2, hq, hbel⟩ := FPa4.out.finQ (cap := c8) (bc := d8) 2 rfl HZ0.out
  exact bodyPost_ret (v := .tuple #[.agg #[.bool n8, .slice o8 l8 c8, .slice u8 m8 d8], .int .i64 e8]) (by simp [results, Try.results15, go_sem, e0, e1, e2]) rfl ⟨n8, o8, l8, c8, u8, m8, d8, e8, P8, Q8, rfl, hl8, hm8, hq, hbel, HT.out⟩
end Go.Proofs.Ytcgnmihabkgecaa

/- Quo of fractions. -/
set_option linter.unusedVariables false
namespace Go.Proofs.Ytcgnmihabkgecaa
open Go.RowKit Go.Proofs

end Go.Proofs.Ytcgnmihabkgecaa

/- Neg and Cmp of fractions. -/
set_option linter.unusedVariables false
namespace Go.Proofs.Ytcgnmihabkgecaa
open Go.RowKit Go.Proofs

theorem Q32.den2 {W : World} {na : Bool} {ao bo : Option Addr} {la lb : Nat} {p : Int} {q : Nat} (h : Q32 W na ao la bo lb p q) : ∃ d, N32 W bo lb d ∧ ((lb = 0 ∧ q = 1) ∨ (d = q ∧ 1 < q)) := by
  rcases h.2 with ⟨h1, h2⟩ | ⟨h1, h2⟩
  · exact ⟨0, by rw [h1]; exact N32.nil _ _, .inl ⟨h1, h2⟩⟩
  · exact ⟨q, h1, .inr ⟨rfl, h2⟩⟩

set_option maxRecDepth 4000 in
set_option maxHeartbeats 2000000 in
theorem ratNeg_any (na : Bool) (ao bo : Option Addr) (la lb ca cb : Nat) (p : Int) (q : Nat) (W : World) (hf0 : Q32 W na ao la bo lb p q) (hla : la ≤ 1000000000) (hlb : lb ≤ 1000000000) :
    Calls Try.prog 16 #[.agg #[.bool na, .slice ao la ca, .slice bo lb cb]] W (OutQL W (-p) q la lb) := by
  have hf : Fr W ((W.alloc (.cells #[.bool na, .slice ao la ca, .slice bo lb cb] 45)).alloc (.cells #[.bool false, .slice none 0 0, .slice none 0 0] 45)) [(45, #[.bool na, .slice ao la ca, .slice bo lb cb]), (45, #[.bool false, .slice none 0 0, .slice none 0 0])] := ((Fr.nil W).alloc rfl _ _).alloc (by simp) _ _
  obtain ⟨d, hd, hdq⟩ := hf0.den2
  have hplt : (-p).natAbs < B32 ^ la := by rw [Int.natAbs_neg]; exact hf0.1.n32.lt
  have HPLT := Lib.hid hplt
  clear hplt
  have HF := Lib.hid hf
  have HF_0 := Lib.hid (hf0.keep hf.below)
  have HE_0 := Lib.hid (hd.keep hf.below)
  clear hf hf0 hd
  go_enter Try.func16, Try.ntmps16
  go_wp2_with fail
  obtain ⟨V, hV⟩ : ∃ V, V = ((W.alloc (.cells #[.bool na, .slice ao la ca, .slice bo lb cb] 45)).alloc (.cells #[.bool false, .slice none 0 0, .slice none 0 0] 45)) := ⟨_, rfl⟩
  rw [← hV] at HF HF_0 HE_0 ⊢
  clear hV
  have qq0 : V.cell? ⟨W.heap.size, 0, none⟩ = some (.bool na) := HF.out.cell 0 0 rfl rfl
  have qq1 : V.cell? ⟨W.heap.size, 1, none⟩ = some (.slice ao la ca) := HF.out.cell 0 1 rfl rfl
  have qq2 : V.cell? ⟨W.heap.size, 2, none⟩ = some (.slice bo lb cb) := HF.out.cell 0 2 rfl rfl
  go_region_held3 (fun w' => w'.cell? ⟨W.heap.size, 0, none⟩ = some (.bool na) ∧ w'.cell? ⟨W.heap.size, 1, none⟩ = some (.slice ao la ca) ∧ w'.cell? ⟨W.heap.size, 2, none⟩ = some (.slice bo lb cb)) (first | (go_keep; done) | ((try dsimp only); (repeat' apply And.intro) <;> (first | (go_keep; done) | (rw [cell_set3 _ _ _ _ _ _ _ (by omega)]; assumption) | (rw [cell_set2 _ _ _ _ _ _ (by omega)]; assumption))))
    (first | (go_at_call 29; refine (duplicate_n _ _ _ d _ HEn0.out hlb).mono ?_; rintro e nw1 ⟨o2, c2, rfl, hz, hb⟩; have hbb := hb; have FPn1 := Lib.hid (FPn0.out.later hbb); have HFn1 := Lib.hid (HFn0.out.keep hbb); have HEn1 := Lib.hid (HEn0.out.keep hbb); have HXn1 := Lib.hid (HX0.out.keep hbb); have HY0 := Lib.hid hz; clear hz; clear hb hbb; have n1c0 : nw1.cell? ⟨W.heap.size, 0, none⟩ = some (.bool na) := FPn1.out.cell 0 0 rfl rfl; have n1c1 : nw1.cell? ⟨W.heap.size, 1, none⟩ = some (.slice ao la ca) := FPn1.out.cell 0 1 rfl rfl; have n1c2 : nw1.cell? ⟨W.heap.size, 2, none⟩ = some (.slice bo lb cb) := FPn1.out.cell 0 2 rfl rfl; have nz0 : nw1.cell? ⟨W.heap.size + 1, 0, none⟩ = some (.bool false) := FPn1.out.cell 1 0 rfl rfl; have nz1 : nw1.cell? ⟨W.heap.size + 1, 1, none⟩ = some (.slice none 0 0) := FPn1.out.cell 1 1 rfl rfl; have nz2 : nw1.cell? ⟨W.heap.size + 1, 2, none⟩ = some (.slice none 0 0) := FPn1.out.cell 1 2 rfl rfl; have nzf0 : nw1.frozen? ⟨W.heap.size + 1, 0, none⟩ = false := FPn1.out.frozen 1 0 rfl; have nzf1 : nw1.frozen? ⟨W.heap.size + 1, 1, none⟩ = false := FPn1.out.frozen 1 1 rfl; have nzf2 : nw1.frozen? ⟨W.heap.size + 1, 2, none⟩ = false := FPn1.out.frozen 1 2 rfl) | (go_at_call 11; refine ((neg_any _ _ _ _ p V.drew ((HF_0.out.keep (Below.refl _ _).drew)).1 hla).mono fun e w h => OutI.len h HPLT.out).mono ?_; rintro e nw0 ⟨n1, o1, l1, c1, rfl, hl1, hz, hb⟩; have hbb := below_of_drew hb; have FPn0 := Lib.hid (HF.out.later hbb); have HFn0 := Lib.hid (HF_0.out.keep hbb); have HEn0 := Lib.hid (HE_0.out.keep hbb); have HX0 := Lib.hid hz; clear hz; clear hb hbb; have n0c0 : nw0.cell? ⟨W.heap.size, 0, none⟩ = some (.bool na) := FPn0.out.cell 0 0 rfl rfl; have n0c1 : nw0.cell? ⟨W.heap.size, 1, none⟩ = some (.slice ao la ca) := FPn0.out.cell 0 1 rfl rfl; have n0c2 : nw0.cell? ⟨W.heap.size, 2, none⟩ = some (.slice bo lb cb) := FPn0.out.cell 0 2 rfl rfl))
  go_wp2
  have HQ : Q32 nw1 n1 o1 l1 o2 lb (-p) q := ⟨HXn1.out, hdq.elim .inl fun h => .inr ⟨h.1 ▸ HY0.out, h.2⟩⟩
  obtain ⟨e0, e1, e2, hq, hbel⟩ := FPn1.out.finQ (cap := c1) (bc := c2) 1 rfl HQ
  exact bodyPost_ret (v := .agg #[.bool n1, .slice o1 l1 c1, .slice o2 lb c2]) (by simp [results, Try.results16, go_sem, e0, e1, e2]) rfl ⟨n1, o1, l1, c1, o2, lb, c2, rfl, hl1, Nat.le_refl _, hq, hbel⟩

end Go.Proofs.Ytcgnmihabkgecaa

/- Sub of fractions. -/
set_option linter.unusedVariables false
namespace Go.Proofs.Ytcgnmihabkgecaa
open Go.RowKit Go.Proofs

end Go.Proofs.Ytcgnmihabkgecaa

/- Facts for the laws of fractions. -/
set_option linter.unusedVariables false
namespace Go.Proofs.Ytcgnmihabkgecaa
open Go.RowKit Go.Proofs

def HalfOut2 (W : World) (Y : Int) (e : Ending) (w' : World) : Prop :=
  ∃ na ao la ca bo lb cb s1 o1 l1 c1 s2 o2 l2 c2 P Q ok, e = .returned (.tuple #[.agg #[.bool na, .slice ao la ca, .slice bo lb cb], .agg #[.bool s1, .slice o1 l1 c1, .bool s2, .slice o2 l2 c2], .bool ok]) ∧ la ≤ 512 ∧ lb ≤ 512 ∧ Q32 w' na ao la bo lb P Q ∧
    (ok = true → l1 ≤ 1024 ∧ l2 ≤ 1024 ∧ Z16 w' s1 o1 l1 P ∧ Z16 w' s2 o2 l2 (Q : Int)) ∧ Below W.heap.size W w'

theorem HalfOut.two {X Y : Int} {W w' : World} {e : Ending} (h : HalfOut X Y W e w') : HalfOut2 W Y e w' := by
  obtain ⟨na, ao, la, ca, bo, lb, cb, s1, o1, l1, c1, s2, o2, l2, c2, P, Q, rfl, h1, h2, h3, h4, h5⟩ := h
  exact ⟨na, ao, la, ca, bo, lb, cb, s1, o1, l1, c1, s2, o2, l2, c2, P, Q, _, rfl, h1, h2, h3, fun h => ⟨(h4 (of_decide_eq_true h)).2.2.1, (h4 (of_decide_eq_true h)).2.2.2.1, (h4 (of_decide_eq_true h)).2.2.2.2.1, (h4 (of_decide_eq_true h)).2.2.2.2.2⟩, h5⟩

def OutTQ0 (W : World) (p : Int) (q : Nat) (r : Int) (e : Ending) (w' : World) : Prop :=
  ∃ na ao la ca bo lb cb er P Q, e = .returned (.tuple #[.agg #[.bool na, .slice ao la ca, .slice bo lb cb], .int .i64 er]) ∧ la ≤ 512 ∧ lb ≤ 512 ∧ Q32 w' na ao la bo lb P Q ∧ Below W.heap.size W w' ∧ (r ≠ 0 → ToldQ p q er P Q) ∧ (r = 0 → er = 10 ∧ P = 0 ∧ Q = 1)

end Go.Proofs.Ytcgnmihabkgecaa

/- Facts for NumOrder: fractions in lowest terms. No function of the program is walked here. -/
set_option linter.unusedVariables false
namespace Go.Proofs.Ytcgnmihabkgecaa
open Go.RowKit Go.Proofs

theorem low_back {x y : Int} (hy : 0 < y) : ∃ g : Nat, 0 < g ∧ lowP x y * (g : Int) = x ∧ (lowQ x y : Int) * (g : Int) = y := by
  have hy0 : 0 < y.natAbs := by omega
  have h1 := Nat.div_mul_cancel (Nat.gcd_dvd_left x.natAbs y.natAbs)
  have h2 := Nat.div_mul_cancel (Nat.gcd_dvd_right x.natAbs y.natAbs)
  refine ⟨Nat.gcd x.natAbs y.natAbs, Nat.gcd_pos_of_pos_right _ hy0, ?_, ?_⟩
  · unfold lowP
    rw [decide_eq_false (show ¬ y < 0 by omega)]
    by_cases hx : x < 0
    · rw [decide_eq_true hx]
      show -((x.natAbs / Nat.gcd x.natAbs y.natAbs : Nat) : Int) * _ = x
      rw [Int.neg_mul, ← Int.natCast_mul, h1]; omega
    · rw [decide_eq_false hx]
      show ((x.natAbs / Nat.gcd x.natAbs y.natAbs : Nat) : Int) * _ = x
      rw [← Int.natCast_mul, h1]; omega
  · unfold lowQ
    rw [← Int.natCast_mul, h2]; omega

theorem cross_low {x y x' y' : Int} (hy : 0 < y) (hy' : 0 < y') : (lowP x y * (lowQ x' y' : Int) - lowP x' y' * (lowQ x y : Int)).sign = (x * y' - x' * y).sign := by
  obtain ⟨g, hg, h1, h2⟩ := low_back (x := x) hy
  obtain ⟨k, hk, h3, h4⟩ := low_back (x := x') hy'
  generalize lowP x y = a at *
  generalize (lowQ x y : Int) = b at *
  generalize lowP x' y' = c at *
  generalize (lowQ x' y' : Int) = d at *
  have e : x * y' - x' * y = (a * d - c * b) * ((g : Int) * (k : Int)) := by
    rw [← h1, ← h2, ← h3, ← h4]; grind
  rw [e, Int.sign_mul, Int.sign_eq_one_of_pos (Int.mul_pos (by omega) (by omega)), Int.mul_one]

theorem sign_low {x y : Int} (hy : 0 < y) : (lowP x y).sign = x.sign := by
  obtain ⟨g, hg, h1, _⟩ := low_back (x := x) hy
  conv => rhs; rw [← h1, Int.sign_mul, Int.sign_eq_one_of_pos (show (0 : Int) < (g : Int) by omega), Int.mul_one]

theorem low_coprime {x y : Int} (hy : y ≠ 0) : Nat.gcd (lowP x y).natAbs (lowQ x y) = 1 := by
  unfold lowP lowQ
  rw [sgn_natAbs]
  exact Nat.gcd_div_gcd_div_gcd_of_pos_right (by omega)

theorem low_unique {p r : Int} {q s : Nat} (hq : 0 < q) (hs : 0 < s) (h1 : Nat.gcd p.natAbs q = 1) (h2 : Nat.gcd r.natAbs s = 1) (h : p * (s : Int) - r * (q : Int) = 0) : p = r ∧ q = s := by
  have e : p * (s : Int) = r * (q : Int) := by omega
  have en : p.natAbs * s = r.natAbs * q := by
    have := congrArg Int.natAbs e
    rwa [Int.natAbs_mul, Int.natAbs_mul, Int.natAbs_natCast, Int.natAbs_natCast] at this
  have d1 : q ∣ s := by
    have : q ∣ p.natAbs * s := ⟨r.natAbs, by rw [en, Nat.mul_comm]⟩
    exact Nat.Coprime.dvd_of_dvd_mul_left (show Nat.Coprime q p.natAbs by unfold Nat.Coprime; rw [Nat.gcd_comm]; exact h1) this
  have d2 : s ∣ q := by
    have : s ∣ r.natAbs * q := ⟨p.natAbs, by rw [← en, Nat.mul_comm]⟩
    exact Nat.Coprime.dvd_of_dvd_mul_left (show Nat.Coprime s r.natAbs by unfold Nat.Coprime; rw [Nat.gcd_comm]; exact h2) this
  have hqs : q = s := Nat.dvd_antisymm d1 d2
  subst hqs
  exact ⟨Int.eq_of_mul_eq_mul_right (by omega) e, rfl⟩

theorem split47 {a b c d : List UInt8} (ha : (47 : UInt8) ∉ a) (hc : (47 : UInt8) ∉ c) (h : a ++ 47 :: b = c ++ 47 :: d) : a = c ∧ b = d := by
  induction a generalizing c with
  | nil =>
    cases c with
    | nil => simpa using h
    | cons x c => simp at h; exact absurd h.1 (fun e => hc (by rw [← e]; simp))
  | cons x a ih =>
    cases c with
    | nil => simp at h; exact absurd h.1 (fun e => ha (by rw [e]; simp))
    | cons y c =>
      simp at h
      have := ih (c := c) (fun m => ha (List.mem_cons_of_mem _ m)) (fun m => hc (List.mem_cons_of_mem _ m)) h.2
      exact ⟨by rw [h.1, this.1], this.2⟩

theorem numeralZ_inj {x y : Int} (h : numeralZ x = numeralZ y) : x = y := by
  have := congrArg numZ h
  rwa [numZ_numeralZ, numZ_numeralZ] at this

theorem numeral_no47 (n : Nat) : (47 : UInt8) ∉ numeral n := by
  intro hm
  by_cases h : n = 0
  · rw [h] at hm; exact absurd hm (by decide)
  · have h1 := numeral_pos h
    unfold isPos hasDigs at h1
    simp only [Bool.and_eq_true] at h1
    exact absurd (List.all_eq_true.1 h1.1.1 47 hm) (by decide)

theorem numeralZ_no47 (z : Int) : (47 : UInt8) ∉ numeralZ z := by
  unfold numeralZ
  by_cases h : z < 0
  · rw [if_pos h]
    intro hm
    rcases List.mem_cons.1 hm with h1 | h1
    · exact absurd h1 (by decide)
    · exact numeral_no47 _ h1
  · rw [if_neg h]; exact numeral_no47 _

theorem textQ_inj {p r : Int} {q s : Nat} (h : textQ p q = textQ r s) : p = r ∧ q = s := by
  unfold textQ at h
  have hmem : ∀ (z : Int) (n : Nat), (47 : UInt8) ∈ numeralZ z ++ [47] ++ numeral n := fun z n => by simp
  by_cases h1 : q = 1
  · rw [if_pos h1] at h
    by_cases h2 : s = 1
    · rw [if_pos h2] at h; exact ⟨numeralZ_inj h, by omega⟩
    · rw [if_neg h2] at h; exact absurd (h ▸ hmem r s) (numeralZ_no47 p)
  · rw [if_neg h1] at h
    by_cases h2 : s = 1
    · rw [if_pos h2] at h; exact absurd (h ▸ hmem p q) (numeralZ_no47 r)
    · rw [if_neg h2, List.append_assoc, List.append_assoc] at h
      have h3 := split47 (numeralZ_no47 p) (numeralZ_no47 r) h
      exact ⟨numeralZ_inj h3.1, by rw [← dec_numeral q, ← dec_numeral s, (show numeral q = numeral s from h3.2)]⟩

/-- the texts of two fractions in lowest terms are the same if and only if they are equal -/
theorem text_cross {p r : Int} {q s : Nat} (hq : 0 < q) (hs : 0 < s) (h1 : Nat.gcd p.natAbs q = 1) (h2 : Nat.gcd r.natAbs s = 1) :
    ((p * (s : Int) - r * (q : Int)).sign == 0) = decide (textQ p q = textQ r s) := by
  by_cases h : textQ p q = textQ r s
  · obtain ⟨rfl, rfl⟩ := textQ_inj h
    rw [decide_eq_true rfl, Int.sub_self]; rfl
  · rw [decide_eq_false h, beq_eq_false_iff_ne]
    intro h0
    have := low_unique hq hs h1 h2 (Int.sign_eq_zero_iff_zero.1 h0)
    exact h (by rw [this.1, this.2])

/-- an order: what holds of three fractions -/
theorem cross_trans {p r m : Int} {q s n : Nat} (hq : 0 < q) (hs : 0 < s) (hn : 0 < n) (h1 : (p * (s : Int) - r * (q : Int)).sign ≤ 0) (h2 : (r * (n : Int) - m * (s : Int)).sign ≤ 0) : (p * (n : Int) - m * (q : Int)).sign ≤ 0 := by
  have e1 : p * (s : Int) - r * (q : Int) ≤ 0 := Int.not_lt.1 fun h => by have := Int.sign_eq_one_of_pos h; omega
  have e2 : r * (n : Int) - m * (s : Int) ≤ 0 := Int.not_lt.1 fun h => by have := Int.sign_eq_one_of_pos h; omega
  have f1 : (p * (s : Int) - r * (q : Int)) * (n : Int) ≤ 0 := Int.mul_nonpos_of_nonpos_of_nonneg e1 (by omega)
  have f2 : (r * (n : Int) - m * (s : Int)) * (q : Int) ≤ 0 := Int.mul_nonpos_of_nonpos_of_nonneg e2 (by omega)
  have f3 : (p * (n : Int) - m * (q : Int)) * (s : Int) = (p * (s : Int) - r * (q : Int)) * (n : Int) + (r * (n : Int) - m * (s : Int)) * (q : Int) := by grind
  apply Int.not_lt.1
  intro h
  have h0 : 0 < p * (n : Int) - m * (q : Int) := by
    rcases Int.lt_trichotomy (p * (n : Int) - m * (q : Int)) 0 with h4 | h4 | h4
    · have := Int.sign_eq_neg_one_of_neg h4; omega
    · rw [h4] at h; exact absurd h (by decide)
    · exact h4
  have := Int.mul_pos h0 (show (0 : Int) < (s : Int) by omega)
  omega

theorem cross_anti (p r : Int) (q s : Nat) : (r * (q : Int) - p * (s : Int)).sign = -(p * (s : Int) - r * (q : Int)).sign := by
  rw [← Int.sign_neg]; congr 1; omega
theorem cross_neg (p r : Int) (q s : Nat) : (-p * (s : Int) - -r * (q : Int)).sign = -(p * (s : Int) - r * (q : Int)).sign := by
  rw [← Int.sign_neg]; congr 1; rw [Int.neg_mul, Int.neg_mul]; omega

theorem cross_add {p r m : Int} {q s n : Nat} (hq : 0 < q) (hs : 0 < s) (hn : 0 < n) :
    (lowP (p * (n : Int) + m * (q : Int)) ((q : Int) * (n : Int)) * (lowQ (r * (n : Int) + m * (s : Int)) ((s : Int) * (n : Int)) : Int) - lowP (r * (n : Int) + m * (s : Int)) ((s : Int) * (n : Int)) * (lowQ (p * (n : Int) + m * (q : Int)) ((q : Int) * (n : Int)) : Int)).sign
      = (p * (s : Int) - r * (q : Int)).sign := by
  rw [cross_low (Int.mul_pos (by omega) (by omega)) (Int.mul_pos (by omega) (by omega))]
  have e : (p * (n : Int) + m * (q : Int)) * ((s : Int) * (n : Int)) - (r * (n : Int) + m * (s : Int)) * ((q : Int) * (n : Int)) = (p * (s : Int) - r * (q : Int)) * ((n : Int) * (n : Int)) := by grind
  rw [e, Int.sign_mul, Int.sign_eq_one_of_pos (Int.mul_pos (show (0 : Int) < (n : Int) by omega) (by omega)), Int.mul_one]

theorem cross_mul {p r m : Int} {q s n : Nat} (hq : 0 < q) (hs : 0 < s) (hn : 0 < n) :
    (lowP (p * m) ((q : Int) * (n : Int)) * (lowQ (r * m) ((s : Int) * (n : Int)) : Int) - lowP (r * m) ((s : Int) * (n : Int)) * (lowQ (p * m) ((q : Int) * (n : Int)) : Int)).sign = (p * (s : Int) - r * (q : Int)).sign * m.sign := by
  rw [cross_low (Int.mul_pos (by omega) (by omega)) (Int.mul_pos (by omega) (by omega))]
  have e : (p * m) * ((s : Int) * (n : Int)) - (r * m) * ((q : Int) * (n : Int)) = (p * (s : Int) - r * (q : Int)) * m * (n : Int) := by grind
  rw [e, Int.sign_mul, Int.sign_mul, Int.sign_eq_one_of_pos (show (0 : Int) < (n : Int) by omega), Int.mul_one]

/-- half, with what is known of small numbers -/
def HalfOut3 (k : Nat) (W : World) (e : Ending) (w' : World) : Prop :=
  ∃ na ao la ca bo lb cb s1 o1 l1 c1 s2 o2 l2 c2 P Q ok, e = .returned (.tuple #[.agg #[.bool na, .slice ao la ca, .slice bo lb cb], .agg #[.bool s1, .slice o1 l1 c1, .bool s2, .slice o2 l2 c2], .bool ok]) ∧ la ≤ 512 ∧ lb ≤ 512 ∧ Q32 w' na ao la bo lb P Q ∧
    (ok = true → Bl k P ∧ Bl k (Q : Int) ∧ Nat.gcd P.natAbs Q = 1) ∧ Below W.heap.size W w'

theorem HalfOut.small {X Y : Int} {W w' : World} {e : Ending} {k : Nat} (h : HalfOut X Y W e w') (hX : Bl k X) (hY : Bl k Y) : HalfOut3 k W e w' := by
  obtain ⟨na, ao, la, ca, bo, lb, cb, s1, o1, l1, c1, s2, o2, l2, c2, P, Q, rfl, h1, h2, h3, h4, h5⟩ := h
  refine ⟨na, ao, la, ca, bo, lb, cb, s1, o1, l1, c1, s2, o2, l2, c2, P, Q, _, rfl, h1, h2, h3, fun h => ?_, h5⟩
  have hy := of_decide_eq_true h
  obtain ⟨rfl, rfl, _⟩ := h4 hy
  refine ⟨?_, ?_, low_coprime hy⟩
  · unfold Bl at *
    rw [blen_le] at *
    unfold lowP; rw [sgn_natAbs]
    exact Nat.lt_of_le_of_lt (Nat.div_le_self _ _) hX
  · unfold Bl at *
    rw [Int.natAbs_natCast, blen_le]
    rw [blen_le] at hY
    exact Nat.lt_of_le_of_lt (Nat.div_le_self _ _) hY

def OutQS (W : World) (p : Int) (q : Nat) (e : Ending) (w' : World) : Prop :=
  ∃ na ao la ca bo lb cb, e = .returned (.tuple #[.agg #[.bool na, .slice ao la ca, .slice bo lb cb], .int .i64 0]) ∧ la ≤ 512 ∧ lb ≤ 512 ∧ Q32 w' na ao la bo lb p q ∧ Below W.heap.size W w'

theorem OutTQ.fine {W w' : World} {x y : Int} {e : Ending} (h : OutTQ W (lowP x y) (lowQ x y) e w') (hx : Fits x) (hy : Fits y) : OutQS W (lowP x y) (lowQ x y) e w' := by
  obtain ⟨na, ao, la, ca, bo, lb, cb, er, P, Q, rfl, h1, h2, h3, h4, h5⟩ := h
  obtain ⟨_, rfl, rfl, rfl⟩ := h5.resolve_right fun k => k.1 ⟨fits_lowP hx, fits_lowQ hy⟩
  exact ⟨na, ao, la, ca, bo, lb, cb, rfl, h1, h2, h3, h4⟩

theorem sign_range (x : Int) : -1 ≤ x.sign ∧ x.sign ≤ 1 := by
  rcases Int.lt_trichotomy x 0 with h | h | h
  · have := Int.sign_eq_neg_one_of_neg h; omega
  · rw [h]; decide
  · have := Int.sign_eq_one_of_pos h; omega
end Go.Proofs.Ytcgnmihabkgecaa
