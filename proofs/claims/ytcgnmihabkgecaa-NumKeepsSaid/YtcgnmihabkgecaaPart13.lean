/- Part 13 of the contracts: KeepP. -/
import Derived.Test.YtcgnmihabkgecaaPart12

/- The region of NumKeeps that makes a block. -/
set_option linter.unusedVariables false
set_option linter.unusedSimpArgs false
namespace Go.Proofs.Ytcgnmihabkgecaa
open Go.RowKit Go.Proofs

theorem at_run (I : Int) (i g cap : Nat) (hI : I = (i : Int)) (hi : i < 9) (w : World) :
    (Instr.indexAt 42 (.slice (some ⟨g, 0, none⟩) 9 cap) (.int .i64 I)).run Try.prog w = .ok (.pointer (some ⟨g, i * 2, none⟩)) w := by
  subst hI
  refine (run_indexAt_slice (P := Try.prog) (w := w) 42 ⟨g, 0, none⟩ 9 cap .i64 (i : Int) (by kernel_rfl)).trans ?_
  rw [if_pos ⟨by omega, by omega⟩, show Try.prog.elem 42 = 27 from by kernel_rfl, Try.sizeOf27]
  simp [Result.andThen, Addr.add]
  try (intro h; omega)

def IsAny (v : Value) (w : World) : Prop := True
theorem Stable.isAny (base : Nat) (v : Value) : Stable base (IsAny v) := Stable.const base True
def IsRK (v : Value) (w : World) : Prop :=
  ∃ (n : Bool) (o : Option Addr) (l c : Nat) (b : Option Addr) (m d : Nat) (r p : Int) (q : Nat), v = .tuple #[.agg #[.bool n, .slice o l c, .slice b m d], .int .i64 r] ∧ l ≤ 512 ∧ m ≤ 512 ∧ Bl 4000 p ∧ Bl 4000 (q : Int) ∧ Q32 w n o l b m p q
def IsRQ (v : Value) (w : World) : Prop :=
  ∃ (n : Bool) (o : Option Addr) (l c : Nat) (b : Option Addr) (m d : Nat) (p : Int) (q : Nat), v = .agg #[.bool n, .slice o l c, .slice b m d] ∧ l ≤ 512 ∧ m ≤ 512 ∧ Bl 4000 p ∧ Bl 4000 (q : Int) ∧ Q32 w n o l b m p q
theorem Stable.isRK (base : Nat) (v : Value) : Stable base (IsRK v) :=
  Stable.ex fun n => Stable.ex fun o => Stable.ex fun l => Stable.ex fun c => Stable.ex fun b => Stable.ex fun m => Stable.ex fun d => Stable.ex fun r => Stable.ex fun p => Stable.ex fun q =>
    (Stable.const base _).and ((Stable.const base _).and ((Stable.const base _).and ((Stable.const base _).and ((Stable.const base _).and (Stable.q32 base n o b l m p q)))))
theorem Stable.isRQ (base : Nat) (v : Value) : Stable base (IsRQ v) :=
  Stable.ex fun n => Stable.ex fun o => Stable.ex fun l => Stable.ex fun c => Stable.ex fun b => Stable.ex fun m => Stable.ex fun d => Stable.ex fun p => Stable.ex fun q =>
    (Stable.const base _).and ((Stable.const base _).and ((Stable.const base _).and ((Stable.const base _).and ((Stable.const base _).and (Stable.q32 base n o b l m p q)))))
theorem RatK.is {W w' : World} {e : Ending} (h : RatK W e w') : ∃ v, e = .returned v ∧ IsRK v w' ∧ Below W.heap.size W w' := by
  obtain ⟨na, ao, la, ca, bo, lb, cb, er, p, q, rfl, h1, h2, h3, h4, h5, h6⟩ := h
  exact ⟨_, rfl, ⟨na, ao, la, ca, bo, lb, cb, er, p, q, rfl, h1, h2, h3, h4, h5⟩, h6⟩

def keep_regionS : Shape where
  f := fun i => match i with | 0 => 154 | 1 => 155 | 2 => 156 | 3 => 157 | 4 => 158 | 5 => 159 | 6 => 160 | 7 => 161 | 8 => 162 | 9 => 163 | 10 => 153 | 11 => 164 | 12 => 165 | 13 => 24 | 15 => 25 | _ => 0
  kd := fun i => match i with | 13 => .box 45 #[.bool false, .slice none 0 0, .slice none 0 0] | 14 => .put 13 11 | _ => .val
  need := fun i => match i with | 2 => [0, 1] | 3 => [2] | 6 => [5] | 7 => [4, 6] | 8 => [7] | 9 => [3, 8] | 10 => [9] | 11 => [10] | 12 => [10] | 14 => [13, 11] | 15 => [12] | _ => []
  st := fun i => match i with | 13 => 14 | _ => 0
  src := fun i => match i with | 13 => 11 | _ => 0

set_option maxRecDepth 4000 in
set_option maxHeartbeats 2000000 in
/-- a fraction of two neighbours -/
theorem keep_region {Q : Exit → Act → World → Prop} {id : Nat} {a0 : Act} {W : World} {o0 o1 o2 o3 o4 o5 o6 o7 o8 o9 o10 o11 o12 o13 o14 o15 : Oper} (jx : Nat) (nA nB : Bool) (oA oB : Option Addr) (lA lB cA cB : Nat) (zA zB : Int) (gL : Nat) (ts9 : Array TypeId)
    (hok : keep_regionS.ok #[o0, o1, o2, o3, o4, o5, o6, o7, o8, o9, o10, o11, o12, o13, o14, o15] a0.tmps.size = true)
    (h0 : o0.op = .move (.tmp 19)) (h1 : o1.op = .move (.tmp 23)) (h2 : o2.op = .indexAddr 42 (.tmp 154) (.tmp 155)) (h3 : o3.op = .load 27 (.tmp 156)) (h4 : o4.op = .move (.tmp 19)) (h5 : o5.op = .move (.tmp 23)) (h6 : o6.op = .binOp .add 3 (.tmp 159) (.const (.int .i64 1)) 3) (h7 : o7.op = .indexAddr 42 (.tmp 158) (.tmp 160)) (h8 : o8.op = .load 27 (.tmp 161)) (h9 : o9.op = .call { callee := .value (.func 13), args := #[.tmp 157, .tmp 162], argTypes := ts9 }) (h10 : o10.op = .move (.tmp 163)) (h11 : o11.op = .extract (.tmp 153) 0) (h12 : o12.op = .extract (.tmp 153) 1) (h13 : o13.op = .alloc 45) (h14 : o14.op = .store 45 (.tmp 24) (.tmp 164)) (h15 : o15.op = .assign (.tmp 165))
    (hgA : gL < W.heap.size) (cA_0 : W.cell? ⟨gL, jx * 2, none⟩ = some (.bool nA)) (cA_1 : W.cell? ⟨gL, jx * 2 + 1, none⟩ = some (.slice oA lA cA))
    (hgB : gL < W.heap.size) (cB_0 : W.cell? ⟨gL, (jx + 1) * 2, none⟩ = some (.bool nB)) (cB_1 : W.cell? ⟨gL, (jx + 1) * 2 + 1, none⟩ = some (.slice oB lB cB))
    (hml : a0.eval (.tmp 19) = .slice (some ⟨gL, 0, none⟩) 9 9)
    (hmi : a0.eval (.tmp 23) = .int .i64 (jx : Int))
    (hzA : Z32 W nA oA lA zA) (hzB : Z32 W nB oB lB zB) (hlA : lA ≤ 512) (hlB : lB ≤ 512) (kzA : Bl 4000 zA) (kzB : Bl 4000 zB) (hi : jx < 8) (hw1 : IntKind.i64.wrap ((jx : Int) + 1) = (jx : Int) + 1)
    (hend : ∀ w b13 n11 o11 l11 c11 b11 m11 d11 p11 q11 d9 d10 d12 d15, Below W.heap.size W w → W.heap.size ≤ b13 → Box w b13 45 #[.bool n11, .slice o11 l11 c11, .slice b11 m11 d11] → l11 ≤ 512 → m11 ≤ 512 → Bl 4000 p11 → Bl 4000 ((q11 : Nat) : Int) → Q32 w n11 o11 l11 b11 m11 p11 q11 → 
      Q .normal (puts a0 [(154, .slice (some ⟨gL, 0, none⟩) 9 9), (155, .int .i64 (jx : Int)), (156, .pointer (some ⟨gL, jx * 2, none⟩)), (157, .agg #[.bool nA, .slice oA lA cA]), (158, .slice (some ⟨gL, 0, none⟩) 9 9), (159, .int .i64 (jx : Int)), (160, .int .i64 ((jx : Int) + 1)), (161, .pointer (some ⟨gL, (jx + 1) * 2, none⟩)), (162, .agg #[.bool nB, .slice oB lB cB]), (163, d9), (153, d10), (164, .agg #[.bool n11, .slice o11 l11 c11, .slice b11 m11 d11]), (165, d12), (24, .pointer (some ⟨b13, 0, none⟩)), (25, d15)]) w) :
    (Code.region id #[o0, o1, o2, o3, o4, o5, o6, o7, o8, o9, o10, o11, o12, o13, o14, o15] true).wp Try.prog Q a0 W := by
  refine Shape.region keep_regionS (fun i v w => (fun (v : Value) => (match i with | 0 => v = .slice (some ⟨gL, 0, none⟩) 9 9 | 1 => v = .int .i64 (jx : Int) | 2 => v = .pointer (some ⟨gL, jx * 2, none⟩) | 3 => v = .agg #[.bool nA, .slice oA lA cA] | 4 => v = .slice (some ⟨gL, 0, none⟩) 9 9 | 5 => v = .int .i64 (jx : Int) | 6 => v = .int .i64 ((jx : Int) + 1) | 7 => v = .pointer (some ⟨gL, (jx + 1) * 2, none⟩) | 8 => v = .agg #[.bool nB, .slice oB lB cB] | 9 => IsRK  v w | 10 => IsRK  v w | 11 => IsRQ  v w | 12 => IsAny  v w | 15 => IsAny  v w | _ => True : Prop)) (v i)) (by kernel_rfl) hok
    (fun i v v' w _ hj hΦ => by rw [← hj i (.inl rfl)]; exact hΦ) ?stab ?val ?box ?put rfl ?fin
  case stab =>
    intro i v hi
    match i with
    | 0 => exact Stable.const _ _
    | 1 => exact Stable.const _ _
    | 2 => exact Stable.const _ _
    | 3 => exact Stable.const _ _
    | 4 => exact Stable.const _ _
    | 5 => exact Stable.const _ _
    | 6 => exact Stable.const _ _
    | 7 => exact Stable.const _ _
    | 8 => exact Stable.const _ _
    | 9 => exact Stable.isRK _  _
    | 10 => exact Stable.isRK _  _
    | 11 => exact Stable.isRQ _  _
    | 12 => exact Stable.isAny _  _
    | 13 => exact Stable.const _ _
    | 14 => exact Stable.const _ _
    | 15 => exact Stable.isAny _  _
    | i + 16 => exact Stable.const _ _
  case val =>
    intro i o ho hv a w hA hb hz hn K' hK
    have hw := below_undrew hb
    have kA_0 := (hb.cell (p := ⟨gL, jx * 2, none⟩) hgA).trans cA_0
    have kA_1 := (hb.cell (p := ⟨gL, jx * 2 + 1, none⟩) hgA).trans cA_1
    have kB_0 := (hb.cell (p := ⟨gL, (jx + 1) * 2, none⟩) hgB).trans cB_0
    have kB_1 := (hb.cell (p := ⟨gL, (jx + 1) * 2 + 1, none⟩) hgB).trans cB_1
    have eml : a.eval (.tmp 19) = .slice (some ⟨gL, 0, none⟩) 9 9 := (hA.eval (show 19 ∉ keep_regionS.slots 16 by decide)).trans hml
    have emi : a.eval (.tmp 23) = .int .i64 (jx : Int) := (hA.eval (show 23 ∉ keep_regionS.slots 16 by decide)).trans hmi
    match i, ho, hv with
    | 0, ho, _ =>
      have ho' : o0 = o := by simpa using ho
      subst ho'
      exact wp_value (run_move h0 a w) (hK _ _ (Below.refl _ _) (by simp [upd, eml]))
    | 1, ho, _ =>
      have ho' : o1 = o := by simpa using ho
      subst ho'
      exact wp_value (run_move h1 a w) (hK _ _ (Below.refl _ _) (by simp [upd, emi]))
    | 2, ho, _ =>
      have ho' : o2 = o := by simpa using ho
      subst ho'
      have e1 : a.eval (.tmp 154) = .slice (some ⟨gL, 0, none⟩) 9 9 := hn 0 (by simp [keep_regionS]) rfl
      have e2 : a.eval (.tmp 155) = .int .i64 (jx : Int) := hn 1 (by simp [keep_regionS]) rfl
      refine wp_value (v := .pointer (some ⟨gL, jx * 2, none⟩)) (w' := w) ?_ (hK _ _ (Below.refl _ _) (by simp [upd]))
      unfold execOp
      rw [h2]
      dsimp only
      rw [e1, e2]
      simp [go_sem, at_run (jx : Int) jx gL 9 rfl (by omega) w]
    | 3, ho, _ =>
      have ho' : o3 = o := by simpa using ho
      subst ho'
      have e : a.eval (.tmp 156) = .pointer (some ⟨gL, jx * 2, none⟩) := hn 2 (by simp [keep_regionS]) rfl
      refine wp_value (v := .agg #[.bool nA, .slice oA lA cA]) (w' := w) ?_ (hK _ _ (Below.refl _ _) (by simp [upd]))
      unfold execOp
      rw [h3]
      dsimp only
      rw [e]
      simp [go_sem, kA_0, kA_1]
    | 4, ho, _ =>
      have ho' : o4 = o := by simpa using ho
      subst ho'
      exact wp_value (run_move h4 a w) (hK _ _ (Below.refl _ _) (by simp [upd, eml]))
    | 5, ho, _ =>
      have ho' : o5 = o := by simpa using ho
      subst ho'
      exact wp_value (run_move h5 a w) (hK _ _ (Below.refl _ _) (by simp [upd, emi]))
    | 6, ho, _ =>
      have ho' : o6 = o := by simpa using ho
      subst ho'
      have e1 : a.eval (.tmp 159) = .int .i64 (jx : Int) := hn 5 (by simp [keep_regionS]) rfl
      refine wp_value (v := .int .i64 ((jx : Int) + 1)) (w' := w) ?_ (hK _ _ (Below.refl _ _) (by simp [upd]))
      unfold execOp
      rw [h6]
      dsimp only
      rw [e1]
      simp [go_sem, hw1]
    | 7, ho, _ =>
      have ho' : o7 = o := by simpa using ho
      subst ho'
      have e1 : a.eval (.tmp 158) = .slice (some ⟨gL, 0, none⟩) 9 9 := hn 4 (by simp [keep_regionS]) rfl
      have e2 : a.eval (.tmp 160) = .int .i64 ((jx : Int) + 1) := hn 6 (by simp [keep_regionS]) rfl
      refine wp_value (v := .pointer (some ⟨gL, (jx + 1) * 2, none⟩)) (w' := w) ?_ (hK _ _ (Below.refl _ _) (by simp [upd]))
      unfold execOp
      rw [h7]
      dsimp only
      rw [e1, e2]
      simp [go_sem, at_run ((jx : Int) + 1) (jx + 1) gL 9 (by omega) (by omega) w]
    | 8, ho, _ =>
      have ho' : o8 = o := by simpa using ho
      subst ho'
      have e : a.eval (.tmp 161) = .pointer (some ⟨gL, (jx + 1) * 2, none⟩) := hn 7 (by simp [keep_regionS]) rfl
      refine wp_value (v := .agg #[.bool nB, .slice oB lB cB]) (w' := w) ?_ (hK _ _ (Below.refl _ _) (by simp [upd]))
      unfold execOp
      rw [h8]
      dsimp only
      rw [e]
      simp [go_sem, kB_0, kB_1]
    | 9, ho, _ =>
      have ho' : o9 = o := by simpa using ho
      subst ho'
      have e3 : a.eval (.tmp 157) = .agg #[.bool nA, .slice oA lA cA] := hn 3 (by simp [keep_regionS]) rfl
      have e8 : a.eval (.tmp 162) = .agg #[.bool nB, .slice oB lB cB] := hn 8 (by simp [keep_regionS]) rfl
      refine wp_call (run_call Try.func13 (by kernel_rfl) rfl h9 a w) ?_ (fun v w' hb' hφ => hK v w' hb' (by simpa [upd] using hφ))
      have em : Array.map a.eval #[Operand.tmp 157, Operand.tmp 162] = #[a.eval (.tmp 157), a.eval (.tmp 162)] := by first | (simp only [List.map_toArray, List.map_cons, List.map_nil]; done) | (simp only [List.map_toArray, List.map_cons, List.map_nil]; rfl) | rfl
      rw [em, e3, e8]
      exact (rat_keep nA nB oA oB lA lB cA cB zA zB w (hzA.keep hw) (hzB.keep hw) hlA hlB kzA kzB).mono fun e w h => h.is
    | 10, ho, _ =>
      have ho' : o10 = o := by simpa using ho
      subst ho'
      have e : IsRK  (a.eval (.tmp 163)) w := hn 9 (by simp [keep_regionS]) rfl
      exact wp_value (run_move h10 a w) (hK _ _ (Below.refl _ _) (by simpa [upd] using e))
    | 11, ho, _ =>
      have ho' : o11 = o := by simpa using ho
      subst ho'
      obtain ⟨n10, o10, l10, c10, b10, m10, d10, r10, p10, q10, e10, x10, z10, x210, z210, y10⟩ : IsRK  (a.eval (.tmp 153)) w := hn 10 (by simp [keep_regionS]) rfl
      exact wp_value (run_extract h11 e10 rfl w) (hK _ _ (Below.refl _ _) (by simp only [upd, if_true]; exact ⟨n10, o10, l10, c10, b10, m10, d10, p10, q10, rfl, x10, z10, x210, z210, y10⟩))
    | 12, ho, _ =>
      have ho' : o12 = o := by simpa using ho
      subst ho'
      obtain ⟨n10, o10, l10, c10, b10, m10, d10, r10, p10, q10, e10, x10, z10, x210, z210, y10⟩ : IsRK  (a.eval (.tmp 153)) w := hn 10 (by simp [keep_regionS]) rfl
      exact wp_value (run_extract h12 e10 rfl w) (hK _ _ (Below.refl _ _) (by simp only [upd, if_true]; exact trivial))
    | 15, ho, _ =>
      have ho' : o15 = o := by simpa using ho
      subst ho'
      have e : IsAny  (a.eval (.tmp 165)) w := hn 12 (by simp [keep_regionS]) rfl
      exact wp_value (run_assign h15 a w) (hK _ _ (Below.refl _ _) (by simpa [upd] using e))
    | 13, _, hv => cases hv
    | 14, _, hv => cases hv
    | i + 16, ho, _ => simp at ho
  case box =>
    intro i o T z ho hk a w
    match i, ho, hk with
    | 0, _, hk => cases hk
    | 1, _, hk => cases hk
    | 2, _, hk => cases hk
    | 3, _, hk => cases hk
    | 4, _, hk => cases hk
    | 5, _, hk => cases hk
    | 6, _, hk => cases hk
    | 7, _, hk => cases hk
    | 8, _, hk => cases hk
    | 9, _, hk => cases hk
    | 10, _, hk => cases hk
    | 11, _, hk => cases hk
    | 12, _, hk => cases hk
    | 13, ho, hk =>
      have ho' : o13 = o := by simpa using ho
      subst ho'; cases hk; unfold execOp; rw [h13]; simp [go_sem]
    | 14, _, hk => cases hk
    | 15, _, hk => cases hk
    | i + 16, ho, _ => simp at ho
  case put =>
    intro i o p' s' T z ho hk hp a w b hva hφ hbx
    match i, ho, hk with
    | 0, _, hk => cases hk
    | 1, _, hk => cases hk
    | 2, _, hk => cases hk
    | 3, _, hk => cases hk
    | 4, _, hk => cases hk
    | 5, _, hk => cases hk
    | 6, _, hk => cases hk
    | 7, _, hk => cases hk
    | 8, _, hk => cases hk
    | 9, _, hk => cases hk
    | 10, _, hk => cases hk
    | 11, _, hk => cases hk
    | 12, _, hk => cases hk
    | 13, _, hk => cases hk
    | 14, ho, hk =>
      have ho' : o14 = o := by simpa using ho
      subst ho'; cases hk; cases hp
      obtain ⟨n11, o11, l11, c11, b11, m11, d11, p11, q11, e11, x11, z11, x211, z211, y11⟩ := hφ
      have q1 : a.eval (.tmp 164) = .agg #[.bool n11, .slice o11 l11 c11, .slice b11 m11 d11] := e11
      have q2 : a.eval (.tmp 24) = .pointer (some ⟨b, 0, none⟩) := hva
      have u0 := hbx.cell 0
      have f0 := hbx.frozen 0
      have u1 := hbx.cell 1
      have f1 := hbx.frozen 1
      have u2 := hbx.cell 2
      have f2 := hbx.frozen 2
      refine ⟨[.bool n11, .slice o11 l11 c11, .slice b11 m11 d11], e11, rfl, by simp [isInt], ?_⟩
      unfold execOp; rw [h14]
      dsimp only
      rw [q1, q2]
      simp [go_sem, u0, f0, u1, f1, u2, f2, setFrom]
    | 15, _, hk => cases hk
    | i + 16, ho, _ => simp at ho
  case fin =>
    intro a w blk hI
    have n8 : (#[o0, o1, o2, o3, o4, o5, o6, o7, o8, o9, o10, o11, o12, o13, o14, o15] : Array Oper).size = 16 := rfl
    rw [n8] at hI
    have hf := hI.agree.form
    have e0 : a.eval (.tmp 154) = .slice (some ⟨gL, 0, none⟩) 9 9 := hI.vals 0 (by decide) (by decide) rfl
    have e1 : a.eval (.tmp 155) = .int .i64 (jx : Int) := hI.vals 1 (by decide) (by decide) rfl
    have e2 : a.eval (.tmp 156) = .pointer (some ⟨gL, jx * 2, none⟩) := hI.vals 2 (by decide) (by decide) rfl
    have e3 : a.eval (.tmp 157) = .agg #[.bool nA, .slice oA lA cA] := hI.vals 3 (by decide) (by decide) rfl
    have e4 : a.eval (.tmp 158) = .slice (some ⟨gL, 0, none⟩) 9 9 := hI.vals 4 (by decide) (by decide) rfl
    have e5 : a.eval (.tmp 159) = .int .i64 (jx : Int) := hI.vals 5 (by decide) (by decide) rfl
    have e6 : a.eval (.tmp 160) = .int .i64 ((jx : Int) + 1) := hI.vals 6 (by decide) (by decide) rfl
    have e7 : a.eval (.tmp 161) = .pointer (some ⟨gL, (jx + 1) * 2, none⟩) := hI.vals 7 (by decide) (by decide) rfl
    have e8 : a.eval (.tmp 162) = .agg #[.bool nB, .slice oB lB cB] := hI.vals 8 (by decide) (by decide) rfl
    obtain ⟨n11, o11, l11, c11, b11, m11, d11, p11, q11, e11, x11, z11, x211, z211, y11⟩ : IsRQ  (a.eval (.tmp 164)) w := hI.vals 11 (by decide) (by decide) rfl
    obtain ⟨p13, r13, _, k13⟩ := hI.boxes 13 45 #[.bool false, .slice none 0 0, .slice none 0 0] (by decide) (by decide) rfl
    obtain ⟨us13, i13, _, _, j13⟩ := k13 (show (14 : Nat) < 16 by decide)
    have y_13 : a.eval (.tmp 164) = .agg us13.toArray := i13
    rw [e11] at y_13
    cases y_13
    have e13 : a.eval (.tmp 24) = .pointer (some ⟨blk 13, 0, none⟩) := p13
    have hsl : keep_regionS.slots 16 = [154, 155, 156, 157, 158, 159, 160, 161, 162, 163, 153, 164, 165, 24, 25] := rfl
    rw [hsl] at hf
    simp only [List.map_cons, List.map_nil, e0, e1, e2, e3, e4, e5, e6, e7, e8, e11, e13] at hf
    rw [hf]
    exact hend w (blk 13) n11 o11 l11 c11 b11 m11 d11 p11 q11 _ _ _ _ (below_undrew hI.below) r13 j13 x11 z11 x211 z211 y11
end Go.Proofs.Ytcgnmihabkgecaa
