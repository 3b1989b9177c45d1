/- Part 11 of the contracts: Preds, PlanA, RatC, BackF, Edge, PlanB. -/
import Derived.Deep.Cut
import Derived.Test.YtbihgllfllkkaaaPart10

/- What the operations of drawn regions compute, said of a value and a world. -/
set_option linter.unusedVariables false
namespace Go.Proofs.Ytbihgllfllkkaaa
open Go.RowKit Go.Proofs

def IsIL (z : Int) (L : Nat) (v : Value) (w : World) : Prop := ∃ n o l c, v = .agg #[.bool n, .slice o l c] ∧ l ≤ L ∧ Z32 w n o l z
theorem Stable.isIL (base : Nat) (z : Int) (L : Nat) (v : Value) : Stable base (IsIL z L v) :=
  Stable.ex fun n => Stable.ex fun o => Stable.ex fun l => Stable.ex fun c => (Stable.const base _).and ((Stable.const base _).and (Stable.z32 base n o l z))
theorem OutIL.is {W w' : World} {z : Int} {L : Nat} {e : Ending} (h : OutIL W z L e w') : ∃ v, e = .returned v ∧ IsIL z L v w' ∧ Below W.heap.size W w' := by
  obtain ⟨n, o, l, c, rfl, h1, h2, h3⟩ := h
  exact ⟨_, rfl, ⟨n, o, l, c, rfl, h1, h2⟩, h3⟩

theorem Stable.q32 (base : Nat) (neg : Bool) (ao bo : Option Addr) (len bl : Nat) (p : Int) (q : Nat) : Stable base (fun w => Q32 w neg ao len bo bl p q) :=
  (Stable.z32 base neg ao len p).and ((Stable.const base _).or ((Stable.n32 base bo bl q).and (Stable.const base _)))

def IsQL (p : Int) (q L M : Nat) (v : Value) (w : World) : Prop := ∃ n o l c b m d, v = .agg #[.bool n, .slice o l c, .slice b m d] ∧ l ≤ L ∧ m ≤ M ∧ Q32 w n o l b m p q
theorem Stable.isQL (base : Nat) (p : Int) (q L M : Nat) (v : Value) : Stable base (IsQL p q L M v) :=
  Stable.ex fun n => Stable.ex fun o => Stable.ex fun l => Stable.ex fun c => Stable.ex fun b => Stable.ex fun m => Stable.ex fun d =>
    (Stable.const base _).and ((Stable.const base _).and ((Stable.const base _).and (Stable.q32 base n o b l m p q)))
/-- a tuple of a fraction and OK -/
def IsQE (p : Int) (q : Nat) (v : Value) (w : World) : Prop := ∃ n o l c b m d, v = .tuple #[.agg #[.bool n, .slice o l c, .slice b m d], .int .i64 0] ∧ Q32 w n o l b m p q
theorem Stable.isQE (base : Nat) (p : Int) (q : Nat) (v : Value) : Stable base (IsQE p q v) :=
  Stable.ex fun n => Stable.ex fun o => Stable.ex fun l => Stable.ex fun c => Stable.ex fun b => Stable.ex fun m => Stable.ex fun d =>
    (Stable.const base _).and (Stable.q32 base n o b l m p q)
theorem OutQE.is {W w' : World} {p : Int} {q : Nat} {e : Ending} (h : OutQE W p q e w') : ∃ v, e = .returned v ∧ IsQE p q v w' ∧ Below W.heap.size W w' := by
  obtain ⟨n, o, l, c, b, m, d, rfl, h1, h2⟩ := h
  exact ⟨_, rfl, ⟨n, o, l, c, b, m, d, rfl, h1⟩, h2⟩
def IsQ (p : Int) (q : Nat) (v : Value) (w : World) : Prop := ∃ n o l c b m d, v = .agg #[.bool n, .slice o l c, .slice b m d] ∧ Q32 w n o l b m p q
theorem Stable.isQ (base : Nat) (p : Int) (q : Nat) (v : Value) : Stable base (IsQ p q v) :=
  Stable.ex fun n => Stable.ex fun o => Stable.ex fun l => Stable.ex fun c => Stable.ex fun b => Stable.ex fun m => Stable.ex fun d =>
    (Stable.const base _).and (Stable.q32 base n o b l m p q)
/-- a fraction of the specification -/
def IsK (p q : Int) (v : Value) (w : World) : Prop := ∃ s1 o1 l1 c1 s2 o2 l2 c2, v = .agg #[.bool s1, .slice o1 l1 c1, .bool s2, .slice o2 l2 c2] ∧ l1 ≤ c1 ∧ c1 ≤ 9223372036854775807 ∧ l2 ≤ c2 ∧ c2 ≤ 9223372036854775807 ∧ Z16 w s1 o1 l1 p ∧ Z16 w s2 o2 l2 q
theorem Stable.isK (base : Nat) (p q : Int) (v : Value) : Stable base (IsK p q v) :=
  Stable.ex fun s1 => Stable.ex fun o1 => Stable.ex fun l1 => Stable.ex fun c1 => Stable.ex fun s2 => Stable.ex fun o2 => Stable.ex fun l2 => Stable.ex fun c2 =>
    (Stable.const base _).and ((Stable.const base _).and ((Stable.const base _).and ((Stable.const base _).and ((Stable.const base _).and ((Stable.z16 base s1 o1 l1 p).and (Stable.z16 base s2 o2 l2 q))))))
end Go.Proofs.Ytbihgllfllkkaaa

/- Add of fractions: the region that makes a block. -/
set_option linter.unusedVariables false
set_option linter.unusedSimpArgs false
namespace Go.Proofs.Ytbihgllfllkkaaa
open Go.RowKit Go.Proofs

theorem OutIL.up {W w' : World} {z : Int} {L M : Nat} {e : Ending} (h : OutIL W z L e w') (hL : L ≤ M) : OutIL W z M e w' := by
  obtain ⟨n, o, l, c, rfl, h1, h2⟩ := h
  exact ⟨n, o, l, c, rfl, Nat.le_trans h1 hL, h2⟩

def addQ_regionS : Shape where
  f := fun i => match i with | 0 => 7 | 1 => 8 | 2 => 9 | 3 => 10 | 4 => 11 | 5 => 12 | 6 => 13 | 7 => 14 | 8 => 15 | 9 => 16 | 10 => 17 | 11 => 6 | _ => 0
  kd := fun i => match i with | 11 => .box 31 #[.bool false, .slice none 0 0] | 12 => .put 11 10 | _ => .val
  need := fun i => match i with | 1 => [0] | 3 => [2] | 4 => [1, 3] | 6 => [5] | 8 => [7] | 9 => [6, 8] | 10 => [4, 9] | 12 => [11, 10] | _ => []
  st := fun i => match i with | 11 => 12 | _ => 0
  src := fun i => match i with | 11 => 10 | _ => 0

set_option maxRecDepth 4000 in
set_option maxHeartbeats 2000000 in
/-- the sum's numerator, whose block may be made at any time -/
theorem addQ_region {Q : Exit → Act → World → Prop} {id : Nat} {a0 : Act} {W : World} {o0 o1 o2 o3 o4 o5 o6 o7 o8 o9 o10 o11 o12 : Oper} (na nc : Bool) (ao bo co d_o : Option Addr) (la lb lc ld ca cb cc cd : Nat) (p r : Int) (q s : Nat) (gF : Nat) (gG : Nat) (ts3 : Array TypeId) (ts4 : Array TypeId) (ts8 : Array TypeId) (ts9 : Array TypeId) (ts10 : Array TypeId)
    (hok : addQ_regionS.ok #[o0, o1, o2, o3, o4, o5, o6, o7, o8, o9, o10, o11, o12] a0.tmps.size = true)
    (h0 : o0.op = .fieldAddr 52 (.tmp 2) 0) (h1 : o1.op = .load 31 (.tmp 7)) (h2 : o2.op = .load 52 (.tmp 3)) (h3 : o3.op = .call { callee := .value (.func 27), args := #[.tmp 9], argTypes := ts3 }) (h4 : o4.op = .call { callee := .value (.func 53), args := #[.tmp 8, .tmp 10], argTypes := ts4 }) (h5 : o5.op = .fieldAddr 52 (.tmp 3) 0) (h6 : o6.op = .load 31 (.tmp 12)) (h7 : o7.op = .load 52 (.tmp 2)) (h8 : o8.op = .call { callee := .value (.func 27), args := #[.tmp 14], argTypes := ts8 }) (h9 : o9.op = .call { callee := .value (.func 53), args := #[.tmp 13, .tmp 15], argTypes := ts9 }) (h10 : o10.op = .call { callee := .value (.func 58), args := #[.tmp 11, .tmp 16], argTypes := ts10 }) (h11 : o11.op = .alloc 31) (h12 : o12.op = .store 31 (.tmp 6) (.tmp 17))
    (hrF : a0.eval (.tmp 2) = .pointer (some ⟨gF, 0, none⟩)) (hgF : gF < W.heap.size) (cF_0 : W.cell? ⟨gF, 0, none⟩ = some (.bool na)) (cF_1 : W.cell? ⟨gF, 1, none⟩ = some (.slice ao la ca)) (cF_2 : W.cell? ⟨gF, 2, none⟩ = some (.slice bo lb cb))
    (hrG : a0.eval (.tmp 3) = .pointer (some ⟨gG, 0, none⟩)) (hgG : gG < W.heap.size) (cG_0 : W.cell? ⟨gG, 0, none⟩ = some (.bool nc)) (cG_1 : W.cell? ⟨gG, 1, none⟩ = some (.slice co lc cc)) (cG_2 : W.cell? ⟨gG, 2, none⟩ = some (.slice d_o ld cd))
    (hF : Q32 W na ao la bo lb p q) (hG : Q32 W nc co lc d_o ld r s) (hla : la ≤ 100000) (hlb : lb ≤ 100000) (hlc : lc ≤ 100000) (hld : ld ≤ 100000)
    (hend : ∀ w b11 n10 o10 l10 c10 d3 d4 d8 d9, Below W.heap.size W w → W.heap.size ≤ b11 → Box w b11 31 #[.bool n10, .slice o10 l10 c10] → l10 ≤ (la + lb + lc + ld + 7) → Z32 w n10 o10 l10 (p * (s : Int) + r * (q : Int)) → 
      Q .normal (puts a0 [(7, .pointer (some ⟨gF, 0, none⟩)), (8, .agg #[.bool na, .slice ao la ca]), (9, .agg #[.bool nc, .slice co lc cc, .slice d_o ld cd]), (10, d3), (11, d4), (12, .pointer (some ⟨gG, 0, none⟩)), (13, .agg #[.bool nc, .slice co lc cc]), (14, .agg #[.bool na, .slice ao la ca, .slice bo lb cb]), (15, d8), (16, d9), (17, .agg #[.bool n10, .slice o10 l10 c10]), (6, .pointer (some ⟨b11, 0, none⟩))]) w) :
    (Code.region id #[o0, o1, o2, o3, o4, o5, o6, o7, o8, o9, o10, o11, o12] true).wp Try.prog Q a0 W := by
  refine Shape.region addQ_regionS (fun i v w => (fun (v : Value) => (match i with | 0 => v = .pointer (some ⟨gF, 0, none⟩) | 1 => v = .agg #[.bool na, .slice ao la ca] | 2 => v = .agg #[.bool nc, .slice co lc cc, .slice d_o ld cd] | 3 => IsIL ((s : Int)) (ld + 1) v w | 4 => IsIL (p * (s : Int)) (la + (ld + 1) + 1) v w | 5 => v = .pointer (some ⟨gG, 0, none⟩) | 6 => v = .agg #[.bool nc, .slice co lc cc] | 7 => v = .agg #[.bool na, .slice ao la ca, .slice bo lb cb] | 8 => IsIL ((q : Int)) (lb + 1) v w | 9 => IsIL (r * (q : Int)) (lc + (lb + 1) + 1) v w | 10 => IsIL (p * (s : Int) + r * (q : Int)) (la + lb + lc + ld + 7) v w | _ => True : Prop)) (v i)) (by kernel_rfl) hok
    (fun i v v' w _ hj hΦ => by rw [← hj i (.inl rfl)]; exact hΦ) ?stab ?val ?box ?put rfl ?fin
  case stab =>
    intro i v hi
    match i with
    | 0 => exact Stable.const _ _
    | 1 => exact Stable.const _ _
    | 2 => exact Stable.const _ _
    | 3 => exact Stable.isIL _ _ _ _
    | 4 => exact Stable.isIL _ _ _ _
    | 5 => exact Stable.const _ _
    | 6 => exact Stable.const _ _
    | 7 => exact Stable.const _ _
    | 8 => exact Stable.isIL _ _ _ _
    | 9 => exact Stable.isIL _ _ _ _
    | 10 => exact Stable.isIL _ _ _ _
    | 11 => exact Stable.const _ _
    | 12 => exact Stable.const _ _
    | i + 13 => exact Stable.const _ _
  case val =>
    intro i o ho hv a w hA hb hz hn K' hK
    have hw := below_undrew hb
    have erF : a.eval (.tmp 2) = .pointer (some ⟨gF, 0, none⟩) := (hA.eval (show 2 ∉ addQ_regionS.slots 13 by decide)).trans hrF
    have kF_0 := (hb.cell (p := ⟨gF, 0, none⟩) hgF).trans cF_0
    have kF_1 := (hb.cell (p := ⟨gF, 1, none⟩) hgF).trans cF_1
    have kF_2 := (hb.cell (p := ⟨gF, 2, none⟩) hgF).trans cF_2
    have erG : a.eval (.tmp 3) = .pointer (some ⟨gG, 0, none⟩) := (hA.eval (show 3 ∉ addQ_regionS.slots 13 by decide)).trans hrG
    have kG_0 := (hb.cell (p := ⟨gG, 0, none⟩) hgG).trans cG_0
    have kG_1 := (hb.cell (p := ⟨gG, 1, none⟩) hgG).trans cG_1
    have kG_2 := (hb.cell (p := ⟨gG, 2, none⟩) hgG).trans cG_2
    match i, ho, hv with
    | 0, ho, _ =>
      have ho' : o0 = o := by simpa using ho
      subst ho'
      refine wp_value (v := .pointer (some ⟨gF, 0, none⟩)) (w' := w) ?_ (hK _ _ (Below.refl _ _) (by simp [upd]))
      unfold execOp
      rw [h0]
      dsimp only
      rw [erF]
      simp [go_sem]
    | 1, ho, _ =>
      have ho' : o1 = o := by simpa using ho
      subst ho'
      have e : a.eval (.tmp 7) = .pointer (some ⟨gF, 0, none⟩) := hn 0 (by simp [addQ_regionS]) rfl
      refine wp_value (v := .agg #[.bool na, .slice ao la ca]) (w' := w) ?_ (hK _ _ (Below.refl _ _) (by simp [upd]))
      unfold execOp
      rw [h1]
      dsimp only
      rw [e]
      simp [go_sem, kF_0, kF_1, kF_2]
    | 2, ho, _ =>
      have ho' : o2 = o := by simpa using ho
      subst ho'
      refine wp_value (v := .agg #[.bool nc, .slice co lc cc, .slice d_o ld cd]) (w' := w) ?_ (hK _ _ (Below.refl _ _) (by simp [upd]))
      unfold execOp
      rw [h2]
      dsimp only
      rw [erG]
      simp [go_sem, kG_0, kG_1, kG_2]
    | 3, ho, _ =>
      have ho' : o3 = o := by simpa using ho
      subst ho'
      have e2 : a.eval (.tmp 9) = .agg #[.bool nc, .slice co lc cc, .slice d_o ld cd] := hn 2 (by simp [addQ_regionS]) rfl
      refine wp_call (run_call Try.func27 (by kernel_rfl) rfl h3 a w) ?_ (fun v w' hb' hφ => hK v w' hb' (by simpa [upd] using hφ))
      have em : Array.map a.eval #[Operand.tmp 9] = #[a.eval (.tmp 9)] := by first | (simp only [List.map_toArray, List.map_cons, List.map_nil]; done) | (simp only [List.map_toArray, List.map_cons, List.map_nil]; rfl) | rfl
      rw [em, e2]
      exact (den_L nc co d_o lc ld cc cd r s w (hG.keep hw) (by omega)).mono fun e w h => h.is
    | 4, ho, _ =>
      have ho' : o4 = o := by simpa using ho
      subst ho'
      have e1 : a.eval (.tmp 8) = .agg #[.bool na, .slice ao la ca] := hn 1 (by simp [addQ_regionS]) rfl
      obtain ⟨n3, o3, l3, c3, e3, x3, y3⟩ : IsIL ((s : Int)) (ld + 1) (a.eval (.tmp 10)) w := hn 3 (by simp [addQ_regionS]) rfl
      refine wp_call (run_call Try.func53 (by kernel_rfl) rfl h4 a w) ?_ (fun v w' hb' hφ => hK v w' hb' (by simpa [upd] using hφ))
      have em : Array.map a.eval #[Operand.tmp 8, Operand.tmp 10] = #[a.eval (.tmp 8), a.eval (.tmp 10)] := by first | (simp only [List.map_toArray, List.map_cons, List.map_nil]; done) | (simp only [List.map_toArray, List.map_cons, List.map_nil]; rfl) | rfl
      rw [em, e1, e3]
      exact (times_L na n3 ao o3 la l3 ca c3 p (s : Int) w (hF.1.keep hw) y3 (by omega) (by omega)).mono fun e w h => OutIL.is (h.up (by omega))
    | 5, ho, _ =>
      have ho' : o5 = o := by simpa using ho
      subst ho'
      refine wp_value (v := .pointer (some ⟨gG, 0, none⟩)) (w' := w) ?_ (hK _ _ (Below.refl _ _) (by simp [upd]))
      unfold execOp
      rw [h5]
      dsimp only
      rw [erG]
      simp [go_sem]
    | 6, ho, _ =>
      have ho' : o6 = o := by simpa using ho
      subst ho'
      have e : a.eval (.tmp 12) = .pointer (some ⟨gG, 0, none⟩) := hn 5 (by simp [addQ_regionS]) rfl
      refine wp_value (v := .agg #[.bool nc, .slice co lc cc]) (w' := w) ?_ (hK _ _ (Below.refl _ _) (by simp [upd]))
      unfold execOp
      rw [h6]
      dsimp only
      rw [e]
      simp [go_sem, kG_0, kG_1, kG_2]
    | 7, ho, _ =>
      have ho' : o7 = o := by simpa using ho
      subst ho'
      refine wp_value (v := .agg #[.bool na, .slice ao la ca, .slice bo lb cb]) (w' := w) ?_ (hK _ _ (Below.refl _ _) (by simp [upd]))
      unfold execOp
      rw [h7]
      dsimp only
      rw [erF]
      simp [go_sem, kF_0, kF_1, kF_2]
    | 8, ho, _ =>
      have ho' : o8 = o := by simpa using ho
      subst ho'
      have e7 : a.eval (.tmp 14) = .agg #[.bool na, .slice ao la ca, .slice bo lb cb] := hn 7 (by simp [addQ_regionS]) rfl
      refine wp_call (run_call Try.func27 (by kernel_rfl) rfl h8 a w) ?_ (fun v w' hb' hφ => hK v w' hb' (by simpa [upd] using hφ))
      have em : Array.map a.eval #[Operand.tmp 14] = #[a.eval (.tmp 14)] := by first | (simp only [List.map_toArray, List.map_cons, List.map_nil]; done) | (simp only [List.map_toArray, List.map_cons, List.map_nil]; rfl) | rfl
      rw [em, e7]
      exact (den_L na ao bo la lb ca cb p q w (hF.keep hw) (by omega)).mono fun e w h => h.is
    | 9, ho, _ =>
      have ho' : o9 = o := by simpa using ho
      subst ho'
      have e6 : a.eval (.tmp 13) = .agg #[.bool nc, .slice co lc cc] := hn 6 (by simp [addQ_regionS]) rfl
      obtain ⟨n8, o8, l8, c8, e8, x8, y8⟩ : IsIL ((q : Int)) (lb + 1) (a.eval (.tmp 15)) w := hn 8 (by simp [addQ_regionS]) rfl
      refine wp_call (run_call Try.func53 (by kernel_rfl) rfl h9 a w) ?_ (fun v w' hb' hφ => hK v w' hb' (by simpa [upd] using hφ))
      have em : Array.map a.eval #[Operand.tmp 13, Operand.tmp 15] = #[a.eval (.tmp 13), a.eval (.tmp 15)] := by first | (simp only [List.map_toArray, List.map_cons, List.map_nil]; done) | (simp only [List.map_toArray, List.map_cons, List.map_nil]; rfl) | rfl
      rw [em, e6, e8]
      exact (times_L nc n8 co o8 lc l8 cc c8 r (q : Int) w (hG.1.keep hw) y8 (by omega) (by omega)).mono fun e w h => OutIL.is (h.up (by omega))
    | 10, ho, _ =>
      have ho' : o10 = o := by simpa using ho
      subst ho'
      obtain ⟨n4, o4, l4, c4, e4, x4, y4⟩ : IsIL (p * (s : Int)) (la + (ld + 1) + 1) (a.eval (.tmp 11)) w := hn 4 (by simp [addQ_regionS]) rfl
      obtain ⟨n9, o9, l9, c9, e9, x9, y9⟩ : IsIL (r * (q : Int)) (lc + (lb + 1) + 1) (a.eval (.tmp 16)) w := hn 9 (by simp [addQ_regionS]) rfl
      refine wp_call (run_call Try.func58 (by kernel_rfl) rfl h10 a w) ?_ (fun v w' hb' hφ => hK v w' hb' (by simpa [upd] using hφ))
      have em : Array.map a.eval #[Operand.tmp 11, Operand.tmp 16] = #[a.eval (.tmp 11), a.eval (.tmp 16)] := by first | (simp only [List.map_toArray, List.map_cons, List.map_nil]; done) | (simp only [List.map_toArray, List.map_cons, List.map_nil]; rfl) | rfl
      rw [em, e4, e9]
      exact (plus_L n4 n9 o4 o9 l4 l9 c4 c9 (p * (s : Int)) (r * (q : Int)) w y4 y9 (by omega) (by omega)).mono fun e w h => OutIL.is (h.up (by omega))
    | 11, _, hv => cases hv
    | 12, _, hv => cases hv
    | i + 13, ho, _ => simp at ho
  case box =>
    intro i o T z ho hk a w
    match i, ho, hk with
    | 0, _, hk => cases hk
    | 1, _, hk => cases hk
    | 2, _, hk => cases hk
    | 3, _, hk => cases hk
    | 4, _, hk => cases hk
    | 5, _, hk => cases hk
    | 6, _, hk => cases hk
    | 7, _, hk => cases hk
    | 8, _, hk => cases hk
    | 9, _, hk => cases hk
    | 10, _, hk => cases hk
    | 11, ho, hk => have ho' : o11 = o := by simpa using ho
                    subst ho'; cases hk; unfold execOp; rw [h11]; simp [go_sem]
    | 12, _, hk => cases hk
    | i + 13, ho, _ => simp at ho
  case put =>
    intro i o p' s' T z ho hk hp a w b hva hφ hbx
    match i, ho, hk with
    | 0, _, hk => cases hk
    | 1, _, hk => cases hk
    | 2, _, hk => cases hk
    | 3, _, hk => cases hk
    | 4, _, hk => cases hk
    | 5, _, hk => cases hk
    | 6, _, hk => cases hk
    | 7, _, hk => cases hk
    | 8, _, hk => cases hk
    | 9, _, hk => cases hk
    | 10, _, hk => cases hk
    | 11, _, hk => cases hk
    | 12, ho, hk =>
      have ho' : o12 = o := by simpa using ho
      subst ho'; cases hk; cases hp
      obtain ⟨n10, o10, l10, c10, e10, x10, y10⟩ := hφ
      have q1 : a.eval (.tmp 17) = .agg #[.bool n10, .slice o10 l10 c10] := e10
      have q2 : a.eval (.tmp 6) = .pointer (some ⟨b, 0, none⟩) := hva
      have u0 := hbx.cell 0
      have f0 := hbx.frozen 0
      have u1 := hbx.cell 1
      have f1 := hbx.frozen 1
      refine ⟨[.bool n10, .slice o10 l10 c10], e10, rfl, by simp [isInt], ?_⟩
      unfold execOp; rw [h12]
      dsimp only
      rw [q1, q2]
      simp [go_sem, u0, f0, u1, f1, setFrom]
    | i + 13, ho, _ => simp at ho
  case fin =>
    intro a w blk hI
    have n8 : (#[o0, o1, o2, o3, o4, o5, o6, o7, o8, o9, o10, o11, o12] : Array Oper).size = 13 := rfl
    rw [n8] at hI
    have hf := hI.agree.form
    have e0 : a.eval (.tmp 7) = .pointer (some ⟨gF, 0, none⟩) := hI.vals 0 (by decide) (by decide) rfl
    have e1 : a.eval (.tmp 8) = .agg #[.bool na, .slice ao la ca] := hI.vals 1 (by decide) (by decide) rfl
    have e2 : a.eval (.tmp 9) = .agg #[.bool nc, .slice co lc cc, .slice d_o ld cd] := hI.vals 2 (by decide) (by decide) rfl
    have e5 : a.eval (.tmp 12) = .pointer (some ⟨gG, 0, none⟩) := hI.vals 5 (by decide) (by decide) rfl
    have e6 : a.eval (.tmp 13) = .agg #[.bool nc, .slice co lc cc] := hI.vals 6 (by decide) (by decide) rfl
    have e7 : a.eval (.tmp 14) = .agg #[.bool na, .slice ao la ca, .slice bo lb cb] := hI.vals 7 (by decide) (by decide) rfl
    obtain ⟨n10, o10, l10, c10, e10, x10, y10⟩ : IsIL (p * (s : Int) + r * (q : Int)) (la + lb + lc + ld + 7) (a.eval (.tmp 17)) w := hI.vals 10 (by decide) (by decide) rfl
    obtain ⟨p11, r11, _, k11⟩ := hI.boxes 11 31 #[.bool false, .slice none 0 0] (by decide) (by decide) rfl
    obtain ⟨us11, i11, _, _, j11⟩ := k11 (show (12 : Nat) < 13 by decide)
    have y_11 : a.eval (.tmp 17) = .agg us11.toArray := i11
    rw [e10] at y_11
    cases y_11
    have e11 : a.eval (.tmp 6) = .pointer (some ⟨blk 11, 0, none⟩) := p11
    have hsl : addQ_regionS.slots 13 = [7, 8, 9, 10, 11, 12, 13, 14, 15, 16, 17, 6] := rfl
    rw [hsl] at hf
    simp only [List.map_cons, List.map_nil, e0, e1, e2, e5, e6, e7, e10, e11] at hf
    rw [hf]
    exact hend w (blk 11) n10 o10 l10 c10 _ _ _ _ (below_undrew hI.below) r11 j11 x10 y10
end Go.Proofs.Ytbihgllfllkkaaa

/- The program's product of fractions. -/
set_option linter.unusedVariables false
namespace Go.Proofs.Ytbihgllfllkkaaa
open Go.RowKit

set_option maxRecDepth 4000 in
set_option maxHeartbeats 2000000 in
theorem ratMul_any (na nc : Bool) (ao bo co d_o : Option Addr) (la lb lc ld ca cb cc cd : Nat) (p r : Int) (q s : Nat) (W : World) (hf0 : Q32 W na ao la bo lb p q) (hg0 : Q32 W nc co lc d_o ld r s) (hla : la ≤ 100000) (hlb : lb ≤ 100000) (hlc : lc ≤ 100000) (hld : ld ≤ 100000) :
    Calls Try.prog 25 #[.agg #[.bool na, .slice ao la ca, .slice bo lb cb], .agg #[.bool nc, .slice co lc cc, .slice d_o ld cd]] W (OutTQ W (lowP (p * r) ((q : Int) * (s : Int))) (lowQ (p * r) ((q : Int) * (s : Int)))) := by
  have hf : Fr W (((W.alloc (.cells #[.bool na, .slice ao la ca, .slice bo lb cb] 52)).alloc (.cells #[.bool nc, .slice co lc cc, .slice d_o ld cd] 52)).alloc (.cells #[.bool false, .slice none 0 0, .slice none 0 0] 52)) [(52, #[.bool na, .slice ao la ca, .slice bo lb cb]), (52, #[.bool nc, .slice co lc cc, .slice d_o ld cd]), (52, #[.bool false, .slice none 0 0, .slice none 0 0])] := (((Fr.nil W).alloc rfl _ _).alloc (by simp) _ _).alloc (by simp) _ _
  have hy0 : (q : Int) * (s : Int) ≠ 0 := by
    have h1 := hf0.pos
    have h2 := hg0.pos
    have h3 : 0 < (q : Int) * (s : Int) := Int.mul_pos (by omega) (by omega)
    omega
  have HF := Lib.hid hf
  have HF_0 := Lib.hid (hf0.keep hf.below)
  have HG_0 := Lib.hid (hg0.keep hf.below)
  clear hf hf0 hg0
  go_enter Try.func25, Try.ntmps25
  go_wp2_with fail
  obtain ⟨V, hV⟩ : ∃ V, V = (((W.alloc (.cells #[.bool na, .slice ao la ca, .slice bo lb cb] 52)).alloc (.cells #[.bool nc, .slice co lc cc, .slice d_o ld cd] 52)).alloc (.cells #[.bool false, .slice none 0 0, .slice none 0 0] 52)) := ⟨_, rfl⟩
  rw [← hV] at HF HF_0 HG_0 ⊢
  clear hV
  have qq0 : V.cell? ⟨W.heap.size, 0, none⟩ = some (.bool na) := HF.out.cell 0 0 rfl rfl
  have qq1 : V.cell? ⟨W.heap.size, 1, none⟩ = some (.slice ao la ca) := HF.out.cell 0 1 rfl rfl
  have qq2 : V.cell? ⟨W.heap.size, 2, none⟩ = some (.slice bo lb cb) := HF.out.cell 0 2 rfl rfl
  have qq3 : V.cell? ⟨W.heap.size + 1, 0, none⟩ = some (.bool nc) := HF.out.cell 1 0 rfl rfl
  have qq4 : V.cell? ⟨W.heap.size + 1, 1, none⟩ = some (.slice co lc cc) := HF.out.cell 1 1 rfl rfl
  have qq5 : V.cell? ⟨W.heap.size + 1, 2, none⟩ = some (.slice d_o ld cd) := HF.out.cell 1 2 rfl rfl
  go_region_held3 (fun w' => w'.cell? ⟨W.heap.size, 0, none⟩ = some (.bool na) ∧ w'.cell? ⟨W.heap.size, 1, none⟩ = some (.slice ao la ca) ∧ w'.cell? ⟨W.heap.size, 2, none⟩ = some (.slice bo lb cb) ∧ w'.cell? ⟨W.heap.size + 1, 0, none⟩ = some (.bool nc) ∧ w'.cell? ⟨W.heap.size + 1, 1, none⟩ = some (.slice co lc cc) ∧ w'.cell? ⟨W.heap.size + 1, 2, none⟩ = some (.slice d_o ld cd)) (first | (go_keep; done) | ((try dsimp only); (repeat' apply And.intro) <;> (first | (go_keep; done) | (rw [cell_set3 _ _ _ _ _ _ _ (by omega)]; assumption) | (rw [cell_set2 _ _ _ _ _ _ (by omega)]; assumption))))
    (first | (go_at_call 57; refine ((fittingRat_any _ _ _ _ _ _ _ (lowP (p * r) ((q : Int) * (s : Int))) (lowQ (p * r) ((q : Int) * (s : Int))) _ HQ0.out (by omega) (by omega)).mono fun e w h => h.told).mono ?_; rintro e mw5 ⟨n8, o8, l8, c8, u8, m8, d8, e8, P8, Q8, rfl, hl8, hm8, hz, hb, ht⟩; have hbb := hb; have FPm5 := Lib.hid (FPm4.out.later hbb); have HFm5 := Lib.hid (HFm4.out.keep hbb); have HGm5 := Lib.hid (HGm4.out.keep hbb); have HXm5 := Lib.hid (HXm4.out.keep hbb); have HDm5 := Lib.hid (HDm4.out.keep hbb); have HEm5 := Lib.hid (HEm4.out.keep hbb); have HYm5 := Lib.hid (HYm4.out.keep hbb); have HQm5 := Lib.hid (HQ0.out.keep hbb); have HZ0 := Lib.hid hz; have HT := Lib.hid ht; clear hz ht; clear hb hbb; have m5c0 : mw5.cell? ⟨W.heap.size, 0, none⟩ = some (.bool na) := FPm5.out.cell 0 0 rfl rfl; have m5c1 : mw5.cell? ⟨W.heap.size, 1, none⟩ = some (.slice ao la ca) := FPm5.out.cell 0 1 rfl rfl; have m5c2 : mw5.cell? ⟨W.heap.size, 2, none⟩ = some (.slice bo lb cb) := FPm5.out.cell 0 2 rfl rfl; have m5c3 : mw5.cell? ⟨W.heap.size + 1, 0, none⟩ = some (.bool nc) := FPm5.out.cell 1 0 rfl rfl; have m5c4 : mw5.cell? ⟨W.heap.size + 1, 1, none⟩ = some (.slice co lc cc) := FPm5.out.cell 1 1 rfl rfl; have m5c5 : mw5.cell? ⟨W.heap.size + 1, 2, none⟩ = some (.slice d_o ld cd) := FPm5.out.cell 1 2 rfl rfl; have mz0 : mw5.cell? ⟨W.heap.size + 2, 0, none⟩ = some (.bool false) := FPm5.out.cell 2 0 rfl rfl; have mz1 : mw5.cell? ⟨W.heap.size + 2, 1, none⟩ = some (.slice none 0 0) := FPm5.out.cell 2 1 rfl rfl; have mz2 : mw5.cell? ⟨W.heap.size + 2, 2, none⟩ = some (.slice none 0 0) := FPm5.out.cell 2 2 rfl rfl; have mzf0 : mw5.frozen? ⟨W.heap.size + 2, 0, none⟩ = false := FPm5.out.frozen 2 0 rfl; have mzf1 : mw5.frozen? ⟨W.heap.size + 2, 1, none⟩ = false := FPm5.out.frozen 2 1 rfl; have mzf2 : mw5.frozen? ⟨W.heap.size + 2, 2, none⟩ = false := FPm5.out.frozen 2 2 rfl) | (go_at_call 55; refine (reduced_L _ _ _ _ _ _ _ _ (p * r) ((q : Int) * (s : Int)) _ HXm3.out HY0.out (by omega) (by omega) hy0).mono ?_; rintro e mw4 ⟨n7, o7, l7, c7, u7, m7, d7, rfl, hl7, hm7, hz, hb⟩; have hbb := hb; have FPm4 := Lib.hid (FPm3.out.later hbb); have HFm4 := Lib.hid (HFm3.out.keep hbb); have HGm4 := Lib.hid (HGm3.out.keep hbb); have HXm4 := Lib.hid (HXm3.out.keep hbb); have HDm4 := Lib.hid (HDm3.out.keep hbb); have HEm4 := Lib.hid (HEm3.out.keep hbb); have HYm4 := Lib.hid (HY0.out.keep hbb); have HQ0 := Lib.hid hz; clear hz; clear hb hbb; have m4c0 : mw4.cell? ⟨W.heap.size, 0, none⟩ = some (.bool na) := FPm4.out.cell 0 0 rfl rfl; have m4c1 : mw4.cell? ⟨W.heap.size, 1, none⟩ = some (.slice ao la ca) := FPm4.out.cell 0 1 rfl rfl; have m4c2 : mw4.cell? ⟨W.heap.size, 2, none⟩ = some (.slice bo lb cb) := FPm4.out.cell 0 2 rfl rfl; have m4c3 : mw4.cell? ⟨W.heap.size + 1, 0, none⟩ = some (.bool nc) := FPm4.out.cell 1 0 rfl rfl; have m4c4 : mw4.cell? ⟨W.heap.size + 1, 1, none⟩ = some (.slice co lc cc) := FPm4.out.cell 1 1 rfl rfl; have m4c5 : mw4.cell? ⟨W.heap.size + 1, 2, none⟩ = some (.slice d_o ld cd) := FPm4.out.cell 1 2 rfl rfl) | (go_at_call 53; refine (times_L _ _ _ _ _ _ _ _ ((q : Int)) ((s : Int)) _ HDm2.out HE0.out (by omega) (by omega)).mono ?_; rintro e mw3 ⟨n4, o4, l4, c4, rfl, hl4, hz, hb⟩; have hbb := hb; have FPm3 := Lib.hid (FPm2.out.later hbb); have HFm3 := Lib.hid (HFm2.out.keep hbb); have HGm3 := Lib.hid (HGm2.out.keep hbb); have HXm3 := Lib.hid (HXm2.out.keep hbb); have HDm3 := Lib.hid (HDm2.out.keep hbb); have HEm3 := Lib.hid (HE0.out.keep hbb); have HY0 := Lib.hid hz; clear hz; clear hb hbb; have m3c0 : mw3.cell? ⟨W.heap.size, 0, none⟩ = some (.bool na) := FPm3.out.cell 0 0 rfl rfl; have m3c1 : mw3.cell? ⟨W.heap.size, 1, none⟩ = some (.slice ao la ca) := FPm3.out.cell 0 1 rfl rfl; have m3c2 : mw3.cell? ⟨W.heap.size, 2, none⟩ = some (.slice bo lb cb) := FPm3.out.cell 0 2 rfl rfl; have m3c3 : mw3.cell? ⟨W.heap.size + 1, 0, none⟩ = some (.bool nc) := FPm3.out.cell 1 0 rfl rfl; have m3c4 : mw3.cell? ⟨W.heap.size + 1, 1, none⟩ = some (.slice co lc cc) := FPm3.out.cell 1 1 rfl rfl; have m3c5 : mw3.cell? ⟨W.heap.size + 1, 2, none⟩ = some (.slice d_o ld cd) := FPm3.out.cell 1 2 rfl rfl) | (go_at_call 27; refine (den_L nc _ _ _ _ _ _ r s _ HGm1.out (by omega)).mono ?_; rintro e mw2 ⟨n3, o3, l3, c3, rfl, hl3, hz, hb⟩; have hbb := hb; have FPm2 := Lib.hid (FPm1.out.later hbb); have HFm2 := Lib.hid (HFm1.out.keep hbb); have HGm2 := Lib.hid (HGm1.out.keep hbb); have HXm2 := Lib.hid (HXm1.out.keep hbb); have HDm2 := Lib.hid (HD0.out.keep hbb); have HE0 := Lib.hid hz; clear hz; clear hb hbb; have m2c0 : mw2.cell? ⟨W.heap.size, 0, none⟩ = some (.bool na) := FPm2.out.cell 0 0 rfl rfl; have m2c1 : mw2.cell? ⟨W.heap.size, 1, none⟩ = some (.slice ao la ca) := FPm2.out.cell 0 1 rfl rfl; have m2c2 : mw2.cell? ⟨W.heap.size, 2, none⟩ = some (.slice bo lb cb) := FPm2.out.cell 0 2 rfl rfl; have m2c3 : mw2.cell? ⟨W.heap.size + 1, 0, none⟩ = some (.bool nc) := FPm2.out.cell 1 0 rfl rfl; have m2c4 : mw2.cell? ⟨W.heap.size + 1, 1, none⟩ = some (.slice co lc cc) := FPm2.out.cell 1 1 rfl rfl; have m2c5 : mw2.cell? ⟨W.heap.size + 1, 2, none⟩ = some (.slice d_o ld cd) := FPm2.out.cell 1 2 rfl rfl) | (go_at_call 27; refine (den_L na _ _ _ _ _ _ p q _ HFm0.out (by omega)).mono ?_; rintro e mw1 ⟨n2, o2, l2, c2, rfl, hl2, hz, hb⟩; have hbb := hb; have FPm1 := Lib.hid (FPm0.out.later hbb); have HFm1 := Lib.hid (HFm0.out.keep hbb); have HGm1 := Lib.hid (HGm0.out.keep hbb); have HXm1 := Lib.hid (HX0.out.keep hbb); have HD0 := Lib.hid hz; clear hz; clear hb hbb; have m1c0 : mw1.cell? ⟨W.heap.size, 0, none⟩ = some (.bool na) := FPm1.out.cell 0 0 rfl rfl; have m1c1 : mw1.cell? ⟨W.heap.size, 1, none⟩ = some (.slice ao la ca) := FPm1.out.cell 0 1 rfl rfl; have m1c2 : mw1.cell? ⟨W.heap.size, 2, none⟩ = some (.slice bo lb cb) := FPm1.out.cell 0 2 rfl rfl; have m1c3 : mw1.cell? ⟨W.heap.size + 1, 0, none⟩ = some (.bool nc) := FPm1.out.cell 1 0 rfl rfl; have m1c4 : mw1.cell? ⟨W.heap.size + 1, 1, none⟩ = some (.slice co lc cc) := FPm1.out.cell 1 1 rfl rfl; have m1c5 : mw1.cell? ⟨W.heap.size + 1, 2, none⟩ = some (.slice d_o ld cd) := FPm1.out.cell 1 2 rfl rfl) | (go_at_call 53; refine (times_L _ _ _ _ _ _ _ _ (p) (r) V.drew ((HF_0.out.keep (Below.refl _ _).drew)).1 ((HG_0.out.keep (Below.refl _ _).drew)).1 (by omega) (by omega)).mono ?_; rintro e mw0 ⟨n1, o1, l1, c1, rfl, hl1, hz, hb⟩; have hbb := below_of_drew hb; have FPm0 := Lib.hid (HF.out.later hbb); have HFm0 := Lib.hid (HF_0.out.keep hbb); have HGm0 := Lib.hid (HG_0.out.keep hbb); have HX0 := Lib.hid hz; clear hz; clear hb hbb; have m0c0 : mw0.cell? ⟨W.heap.size, 0, none⟩ = some (.bool na) := FPm0.out.cell 0 0 rfl rfl; have m0c1 : mw0.cell? ⟨W.heap.size, 1, none⟩ = some (.slice ao la ca) := FPm0.out.cell 0 1 rfl rfl; have m0c2 : mw0.cell? ⟨W.heap.size, 2, none⟩ = some (.slice bo lb cb) := FPm0.out.cell 0 2 rfl rfl; have m0c3 : mw0.cell? ⟨W.heap.size + 1, 0, none⟩ = some (.bool nc) := FPm0.out.cell 1 0 rfl rfl; have m0c4 : mw0.cell? ⟨W.heap.size + 1, 1, none⟩ = some (.slice co lc cc) := FPm0.out.cell 1 1 rfl rfl; have m0c5 : mw0.cell? ⟨W.heap.size + 1, 2, none⟩ = some (.slice d_o ld cd) := FPm0.out.cell 1 2 rfl rfl))
  go_wp2
  obtain ⟨e0, e1, e2, hq, hbel⟩ := FPm5.out.finQ (cap := c8) (bc := d8) 2 rfl HZ0.out
  exact bodyPost_ret (v := .tuple #[.agg #[.bool n8, .slice o8 l8 c8, .slice u8 m8 d8], .int .i64 e8]) (by simp [results, Try.results25, go_sem, e0, e1, e2]) rfl ⟨n8, o8, l8, c8, u8, m8, d8, e8, P8, Q8, rfl, hl8, hm8, hq, hbel, HT.out⟩
end Go.Proofs.Ytbihgllfllkkaaa

/- Facts for NumBack: Div by 0, Parse of a numeral. -/
set_option linter.unusedVariables false
namespace Go.Proofs.Ytbihgllfllkkaaa
open Go.RowKit Go.Proofs

def DivNone (W : World) (e : Ending) (w' : World) : Prop :=
  e = .returned (.tuple #[.agg #[.bool false, .slice none 0 0], .agg #[.bool false, .slice none 0 0], .int .i64 10]) ∧ Below W.heap.size W w'

set_option maxHeartbeats 1000000 in
theorem div_zero (na nb : Bool) (ao bo : Option Addr) (la ca cb : Nat) (W : World) :
    Calls Try.prog 9 #[.agg #[.bool na, .slice ao la ca], .agg #[.bool nb, .slice bo 0 cb]] W (DivNone W) := by
  have hf : Fr W ((((W.alloc (.cells #[.bool na, .slice ao la ca] 31)).alloc (.cells #[.bool nb, .slice bo 0 cb] 31)).alloc (.cells #[.bool false, .slice none 0 0] 31)).alloc (.cells #[.bool false, .slice none 0 0] 31))
      [(31, #[.bool na, .slice ao la ca]), (31, #[.bool nb, .slice bo 0 cb]), (31, #[.bool false, .slice none 0 0]), (31, #[.bool false, .slice none 0 0])] :=
    ((((Fr.nil W).alloc rfl _ _).alloc (by simp) _ _).alloc (by simp) _ _).alloc (by simp) _ _
  have HF := Lib.hid hf
  clear hf
  go_enter Try.func9, Try.ntmps9
  go_wp2
  exact bodyPost_ret (v := .tuple #[.agg #[.bool false, .slice none 0 0], .agg #[.bool false, .slice none 0 0], .int .i64 10]) (by simp [results, Try.results9, go_sem]) rfl ⟨rfl, HF.out.below⟩

theorem parse_back (x : Int) (W : World) (hf : Fits x) : Calls Try.prog 65 #[.string ⟨(numeralZ x).toArray⟩] W (OutE W x) := by
  obtain ⟨k, hk⟩ : ∃ k, k = 1024 := ⟨_, rfl⟩
  have hlt : x.natAbs < B32 ^ k := by
    have h2 : blen x.natAbs ≤ 32 * k := Nat.le_trans hf (by omega)
    rw [B32_pow]
    exact blen_le.1 h2
  have hnl := numeralZ_len hlt
  refine ((parse_any (numeralZ x) W (by omega)).mono fun e w h => h.one).mono ?_
  rintro e w ⟨na, po, la, ca, er, z', rfl, hz2, hb2, hx⟩
  rw [numZ_numeralZ] at hx
  rcases hx with ⟨h1, _⟩ | ⟨_, h2, _⟩ | ⟨_, h2, rfl, rfl⟩
  · rw [isNum_numeralZ] at h1; cases h1
  · exact absurd hf h2
  · exact ⟨na, po, la, ca, rfl, fits_len hz2 hf, hz2, hb2⟩

theorem bl_div {x y : Int} {k : Nat} (h : Bl k x) : Bl k (x / y) := by
  unfold Bl at *
  rw [blen_le] at *
  exact Nat.lt_of_le_of_lt (Int.natAbs_ediv_le_natAbs x y) h
theorem bl_mod {x y : Int} {k : Nat} (h : Bl k y) (hy : y ≠ 0) : Bl k (x % y) := by
  unfold Bl at *
  rw [blen_le] at *
  have h1 := Int.emod_nonneg x hy
  have h2 := Int.emod_lt x hy
  omega
theorem bl_back {x y : Int} {k : Nat} (hx : Bl k x) (hy : Bl k y) (h0 : y ≠ 0) : Bl (k + 1) (x / y * y) := by
  have e : x / y * y = x - x % y := by
    have := Int.ediv_mul_add_emod x y
    omega
  rw [e]
  exact hx.sub (bl_mod hy h0)

/-- stores into an own block without numbers leave an integer -/
theorem Z32.setFrom {w : World} {g T : Nat} {c : Array Value} {neg : Bool} {ao : Option Addr} {len : Nat} {z : Int} (h : Z32 w neg ao len z) (us : List Value) (hu : ∀ u ∈ us, isInt u = false) (hb : Box w g T c) (hc : noInts c = true) :
    Z32 (setFrom w g 0 us) neg ao len z := (Stable.z32 0 neg ao len z).setFrom (Nat.zero_le _) us hu w 0 c h hb hc
end Go.Proofs.Ytbihgllfllkkaaa

/- Facts for NumEdge: the law's power. -/
set_option linter.unusedVariables false
namespace Go.Proofs.Ytbihgllfllkkaaa
open Go.RowKit Go.Proofs

theorem blen_pow (k : Nat) : blen (2 ^ k) = k + 1 := blen_eq (Nat.le_refl _) (Nat.pow_lt_pow_right (by decide) (by omega))
theorem fits_pow (k : Nat) : Fits ((2 ^ k : Nat) : Int) ↔ k + 1 ≤ 16384 := by unfold Fits; rw [Int.natAbs_natCast, blen_pow]

theorem Fr.far {W w : World} {bs : List (Nat × Array Value)} (h : Fr W w bs) {g : Nat} (us : List Value) (hg : W.heap.size + bs.length ≤ g) : Fr W (setFrom w g 0 us) bs := by
  refine ⟨setFrom_below (by omega) us _ _ _ h.below, by rw [setFrom_size]; exact h.size, fun i T c hi => ?_⟩
  have hl := (List.getElem?_eq_some_iff.1 hi).1
  exact (setFrom_other (by omega) us w 0).trans (h.box i T c hi)

theorem pow_halves {n j : Nat} (hj : j = n / 2) (h : ¬ n % 2 = 1) : ((2 ^ j : Nat) : Int) * ((2 ^ j : Nat) : Int) = ((2 ^ n : Nat) : Int) := by
  rw [← Int.natCast_mul, ← Nat.pow_add, show j + j = n by omega]
theorem pow_odd {n j : Nat} (hj : j = n / 2) (h : n % 2 = 1) : ((2 ^ j : Nat) : Int) * ((2 ^ j : Nat) : Int) = ((2 ^ (n - 1) : Nat) : Int) := by
  rw [← Int.natCast_mul, ← Nat.pow_add, show j + j = n - 1 by omega]
theorem pow_twice {n : Nat} (h : 0 < n) : ((2 ^ (n - 1) : Nat) : Int) + ((2 ^ (n - 1) : Nat) : Int) = ((2 ^ n : Nat) : Int) := by
  obtain ⟨m, rfl⟩ : ∃ m, n = m + 1 := ⟨n - 1, by omega⟩
  rw [← Int.natCast_add, Nat.pow_succ, show m + 1 - 1 = m by omega, Nat.mul_two]

set_option maxHeartbeats 2000000 in
theorem power_law (n : Nat) : ∀ (N : Int) (W : World), N = (n : Int) → n < 16384 → Calls Try.prog 18 #[.int .i64 N] W (OutIL W ((2 ^ n : Nat) : Int) 512) := by
  induction n using Nat.strongRecOn with
  | ind n ih =>
  intro N W hN hn
  subst hN
  have hf : Fr W (W.alloc (.cells #[.bool false, .slice none 0 0] 31)) [(31, #[.bool false, .slice none 0 0])] := (Fr.nil W).alloc rfl _ _
  have HF := Lib.hid hf
  clear hf
  by_cases h0 : n = 0
  · subst h0
    clear ih
    go_enter Try.func18, Try.ntmps18
    go_wp2_with fail
    refine ((new_any 1 _ (by omega) (by omega)).mono fun e w h => OutI.len (L := 1) h (by decide)).mono ?_
    rintro e w1 ⟨s, uo, ul, uc, rfl, hl, hz, hb⟩
    have HF1 := Lib.hid (HF.out.later hb)
    have HZ := Lib.hid hz
    clear hz hb
    have g0 : w1.cell? ⟨W.heap.size, 0, none⟩ = some (.bool false) := HF1.out.cell 0 0 rfl rfl
    have g1 : w1.cell? ⟨W.heap.size, 1, none⟩ = some (.slice none 0 0) := HF1.out.cell 0 1 rfl rfl
    have g2 : w1.frozen? ⟨W.heap.size, 0, none⟩ = false := HF1.out.frozen 0 0 rfl
    have g3 : w1.frozen? ⟨W.heap.size, 1, none⟩ = false := HF1.out.frozen 0 1 rfl
    go_wp2
    obtain ⟨e0, e1, hz, hbel, _⟩ := HF1.out.finI (cap := uc) 0 rfl HZ.out
    exact bodyPost_ret (v := .agg #[.bool s, .slice uo ul uc]) (by simp only [Nat.add_zero] at e0 e1; simp [results, Try.results18, go_sem, e0, e1]) rfl ⟨s, uo, ul, uc, rfl, by omega, hz, hbel⟩
  · have b0 : ((n : Int) == 0) = false := by simp; omega
    obtain ⟨j, hj⟩ : ∃ j, j = n / 2 := ⟨_, rfl⟩
    have e1 : (n : Int) / 2 = (j : Int) := by omega
    have e3 : (n : Int).tdiv 2 = (j : Int) := by rw [Int.tdiv_eq_ediv_of_nonneg (Int.natCast_nonneg _)]; exact e1
    have HIH := Lib.hid (fun (N : Int) (W : World) h => ih j (by omega) N W h (by omega))
    obtain ⟨P, hP⟩ : ∃ P : Int, P = ((2 ^ j : Nat) : Int) := ⟨_, rfl⟩
    rw [← hP] at HIH
    have HPA : Hid (n % 2 = 1 → P * P = ((2 ^ (n - 1) : Nat) : Int)) := fun h => by rw [hP]; exact pow_odd hj h
    have HPB : Hid (¬ n % 2 = 1 → P * P = ((2 ^ n : Nat) : Int)) := fun h => by rw [hP]; exact pow_halves hj h
    have HFIT : Hid (Fits (P * P)) := by
      show Fits _
      by_cases h : n % 2 = 1
      · rw [HPA.out h]; exact (fits_pow _).2 (by omega)
      · rw [HPB.out h]; exact (fits_pow _).2 (by omega)
    clear ih hj hP
    go_enter Try.func18, Try.ntmps18
    go_wp2_with fail
    refine (HIH.out _ _ (by first | rfl | exact e1 | exact e3)).mono ?_
    rintro e w1 ⟨n1, o1, l1, c1, rfl, hl1, hz1, hb1⟩
    have hf1 : Fr w1 (w1.alloc (.cells #[.bool n1, .slice o1 l1 c1] 31)) [(31, #[.bool n1, .slice o1 l1 c1])] := (Fr.nil w1).alloc rfl _ _
    have HF2 := Lib.hid ((HF.out.later hb1).later hf1.below)
    have HZ := Lib.hid (hz1.keep hf1.below)
    have HB := Lib.hid hf1
    have c0 : (w1.alloc (.cells #[.bool n1, .slice o1 l1 c1] 31)).cell? ⟨w1.heap.size, 0, none⟩ = some (.bool n1) := hf1.cell 0 0 rfl rfl
    have c1' : (w1.alloc (.cells #[.bool n1, .slice o1 l1 c1] 31)).cell? ⟨w1.heap.size, 1, none⟩ = some (.slice o1 l1 c1) := hf1.cell 0 1 rfl rfl
    clear hf1 hb1 hz1
    go_wp2_with fail
    refine ((mulI_any _ _ _ _ _ _ _ _ P P _ HZ.out HZ.out (by omega) (by omega)).mono fun e w h => h.fine HFIT.out).mono ?_
    rintro e w2 ⟨n2, o2, l2, c2, rfl, hl2, hz2, hb2⟩
    have hf2 : Fr w2 (w2.alloc (.cells #[.bool n2, .slice o2 l2 c2] 31)) [(31, #[.bool n2, .slice o2 l2 c2])] := (Fr.nil w2).alloc rfl _ _
    have HF4 := Lib.hid ((HF2.out.later hb2).later hf2.below)
    have HY := Lib.hid (hz2.keep hf2.below)
    have HC := Lib.hid hf2
    have hsz := (HF2.out.later hb2).size
    have d0 : (w2.alloc (.cells #[.bool n2, .slice o2 l2 c2] 31)).cell? ⟨w2.heap.size, 0, none⟩ = some (.bool n2) := hf2.cell 0 0 rfl rfl
    have d1 : (w2.alloc (.cells #[.bool n2, .slice o2 l2 c2] 31)).cell? ⟨w2.heap.size, 1, none⟩ = some (.slice o2 l2 c2) := hf2.cell 0 1 rfl rfl
    clear hf2 hb2 hz2 c0 c1' HF2 HB HZ
    by_cases hpar : n % 2 = 1
    · have m2 : (n : Int) % 2 = 1 := by omega
      have m1 : (n : Int).tmod 2 = 1 := by rw [Int.tmod_eq_emod_of_nonneg (Int.natCast_nonneg _)]; exact m2
      have HS : Hid (P * P + P * P = ((2 ^ n : Nat) : Int)) := by show _ = _; rw [HPA.out hpar]; exact pow_twice (by omega)
      have HFIT2 : Hid (Fits (P * P + P * P)) := by show Fits _; rw [HS.out]; exact (fits_pow _).2 (by omega)
      go_wp2_with fail
      refine ((addI_any _ _ _ _ _ _ _ _ (P * P) (P * P) _ HY.out HY.out (by omega) (by omega)).mono fun e w h => h.fine HFIT2.out).mono ?_
      rintro e w3 ⟨n3, o3, l3, c3, rfl, hl3, hz3, hb3⟩
      have HF5 := Lib.hid (HF4.out.later hb3)
      have HC5 := Lib.hid (HC.out.later hb3)
      have HX := Lib.hid hz3
      clear hb3 hz3 d0 d1 HF4 HC HY
      have g0 : w3.cell? ⟨w2.heap.size, 0, none⟩ = some (.bool n2) := HC5.out.cell 0 0 rfl rfl
      have g1 : w3.cell? ⟨w2.heap.size, 1, none⟩ = some (.slice o2 l2 c2) := HC5.out.cell 0 1 rfl rfl
      have g2 : w3.frozen? ⟨w2.heap.size, 0, none⟩ = false := HC5.out.frozen 0 0 rfl
      have g3 : w3.frozen? ⟨w2.heap.size, 1, none⟩ = false := HC5.out.frozen 0 1 rfl
      go_upto_region 7 with fail
      obtain ⟨V, hV⟩ : ∃ V, V = setFrom w3 w2.heap.size 0 [.bool n3, .slice o3 l3 c3] := ⟨_, rfl⟩
      have hbz : Box w3 w2.heap.size 31 #[.bool n2, .slice o2 l2 c2] := HC5.out.box 0 _ _ rfl
      have hui : ∀ u ∈ [Value.bool n3, Value.slice o3 l3 c3], isInt u = false := by simp [isInt]
      have hVf : Fr W V [(31, #[.bool false, .slice none 0 0])] := by rw [hV]; exact HF5.out.far _ (by simpa using hsz)
      have hVz : Z32 V n3 o3 l3 (P * P + P * P) := by rw [hV]; exact HX.out.setFrom _ hui hbz rfl
      have hVb : Box V w2.heap.size 31 #[.bool n3, .slice o3 l3 c3] := by rw [hV]; exact setFrom_box0 _ hbz rfl
      simp only [setFrom] at hV
      rw [← hV]
      have HVF := Lib.hid hVf
      have HVZ := Lib.hid hVz
      have k0 : V.cell? ⟨w2.heap.size, 0, none⟩ = some (.bool n3) := hVb.cell 0
      have k1 : V.cell? ⟨w2.heap.size, 1, none⟩ = some (.slice o3 l3 c3) := hVb.cell 1
      clear g0 g1 g2 g3 hbz hui hVf hVz hVb hV HF5 HC5 HX
      have g0 : V.cell? ⟨W.heap.size, 0, none⟩ = some (.bool false) := HVF.out.cell 0 0 rfl rfl
      have g1 : V.cell? ⟨W.heap.size, 1, none⟩ = some (.slice none 0 0) := HVF.out.cell 0 1 rfl rfl
      have g2 : V.frozen? ⟨W.heap.size, 0, none⟩ = false := HVF.out.frozen 0 0 rfl
      have g3 : V.frozen? ⟨W.heap.size, 1, none⟩ = false := HVF.out.frozen 0 1 rfl
      go_wp2
      obtain ⟨e0, e1, hz, hbel, _⟩ := HVF.out.finI (cap := c3) 0 rfl HVZ.out
      exact bodyPost_ret (v := .agg #[.bool n3, .slice o3 l3 c3]) (by simp only [Nat.add_zero] at e0 e1; simp [results, Try.results18, go_sem, e0, e1]) rfl ⟨n3, o3, l3, c3, rfl, hl3, by rw [← HS.out]; exact hz, hbel⟩
    · have m2 : (n : Int) % 2 = 0 := by omega
      have m1 : (n : Int).tmod 2 = 0 := by rw [Int.tmod_eq_emod_of_nonneg (Int.natCast_nonneg _)]; exact m2
      have HS := Lib.hid (HPB.out hpar)
      have g0 : (w2.alloc (.cells #[.bool n2, .slice o2 l2 c2] 31)).cell? ⟨W.heap.size, 0, none⟩ = some (.bool false) := HF4.out.cell 0 0 rfl rfl
      have g1 : (w2.alloc (.cells #[.bool n2, .slice o2 l2 c2] 31)).cell? ⟨W.heap.size, 1, none⟩ = some (.slice none 0 0) := HF4.out.cell 0 1 rfl rfl
      have g2 : (w2.alloc (.cells #[.bool n2, .slice o2 l2 c2] 31)).frozen? ⟨W.heap.size, 0, none⟩ = false := HF4.out.frozen 0 0 rfl
      have g3 : (w2.alloc (.cells #[.bool n2, .slice o2 l2 c2] 31)).frozen? ⟨W.heap.size, 1, none⟩ = false := HF4.out.frozen 0 1 rfl
      go_upto_region 7 with fail
      obtain ⟨V, hV⟩ : ∃ V, V = w2.alloc (.cells #[.bool n2, .slice o2 l2 c2] 31) := ⟨_, rfl⟩
      rw [← hV] at HF4 HC HY d0 d1 g0 g1 g2 g3 ⊢
      clear hV
      go_wp2
      obtain ⟨e0, e1, hz, hbel, _⟩ := HF4.out.finI (cap := c2) 0 rfl HY.out
      exact bodyPost_ret (v := .agg #[.bool n2, .slice o2 l2 c2]) (by simp only [Nat.add_zero] at e0 e1; simp [results, Try.results18, go_sem, e0, e1]) rfl ⟨n2, o2, l2, c2, rfl, hl2, by rw [← HS.out]; exact hz, hbel⟩
end Go.Proofs.Ytbihgllfllkkaaa

/- The region of NumEdge that makes a block. -/
set_option linter.unusedVariables false
set_option linter.unusedSimpArgs false
namespace Go.Proofs.Ytbihgllfllkkaaa
open Go.RowKit Go.Proofs

def edge_regionS : Shape where
  f := fun i => match i with | 0 => 74 | 1 => 75 | 2 => 76 | 3 => 73 | 4 => 77 | 5 => 78 | 6 => 11 | 8 => 12 | _ => 0
  kd := fun i => match i with | 6 => .box 52 #[.bool false, .slice none 0 0, .slice none 0 0] | 7 => .put 6 4 | _ => .val
  need := fun i => match i with | 2 => [0, 1] | 3 => [2] | 4 => [3] | 5 => [3] | 7 => [6, 4] | 8 => [5] | _ => []
  st := fun i => match i with | 6 => 7 | _ => 0
  src := fun i => match i with | 6 => 4 | _ => 0

set_option maxRecDepth 4000 in
set_option maxHeartbeats 2000000 in
/-- the quotient of 1 and x -/
theorem edge_region {Q : Exit → Act → World → Prop} {id : Nat} {a0 : Act} {W : World} {o0 o1 o2 o3 o4 o5 o6 o7 o8 : Oper} (nx : Bool) (ox : Option Addr) (lx cx : Nat) (x : Int) (gX : Nat) (ts0 : Array TypeId) (ts2 : Array TypeId)
    (hok : edge_regionS.ok #[o0, o1, o2, o3, o4, o5, o6, o7, o8] a0.tmps.size = true)
    (h0 : o0.op = .call { callee := .value (.func 24), args := #[.const (.int .i64 1)], argTypes := ts0 }) (h1 : o1.op = .load 31 (.tmp 7)) (h2 : o2.op = .call { callee := .value (.func 23), args := #[.tmp 74, .tmp 75], argTypes := ts2 }) (h3 : o3.op = .move (.tmp 76)) (h4 : o4.op = .extract (.tmp 73) 0) (h5 : o5.op = .extract (.tmp 73) 1) (h6 : o6.op = .alloc 52) (h7 : o7.op = .store 52 (.tmp 11) (.tmp 77)) (h8 : o8.op = .assign (.tmp 78))
    (hrX : a0.eval (.tmp 7) = .pointer (some ⟨gX, 0, none⟩)) (hgX : gX < W.heap.size) (cX_0 : W.cell? ⟨gX, 0, none⟩ = some (.bool nx)) (cX_1 : W.cell? ⟨gX, 1, none⟩ = some (.slice ox lx cx))
    (hX : Z32 W nx ox lx x) (hx : x ≠ 0) (hlx : lx ≤ 1000000)
    (hend : ∀ w b6 n4 o4 l4 c4 b4 m4 d4 d0 d2 d3, Below W.heap.size W w → W.heap.size ≤ b6 → Box w b6 52 #[.bool n4, .slice o4 l4 c4, .slice b4 m4 d4] → Q32 w n4 o4 l4 b4 m4 (lowP 1 x) (lowQ 1 x) → 
      Q .normal (puts a0 [(74, d0), (75, .agg #[.bool nx, .slice ox lx cx]), (76, d2), (73, d3), (77, .agg #[.bool n4, .slice o4 l4 c4, .slice b4 m4 d4]), (78, .int .i64 0), (11, .pointer (some ⟨b6, 0, none⟩)), (12, .int .i64 0)]) w) :
    (Code.region id #[o0, o1, o2, o3, o4, o5, o6, o7, o8] true).wp Try.prog Q a0 W := by
  refine Shape.region edge_regionS (fun i v w => (fun (v : Value) => (match i with | 0 => IsIL (1) (1) v w | 1 => v = .agg #[.bool nx, .slice ox lx cx] | 2 => IsQE (lowP 1 x) (lowQ 1 x) v w | 3 => IsQE (lowP 1 x) (lowQ 1 x) v w | 4 => IsQ (lowP 1 x) (lowQ 1 x) v w | 5 => v = .int .i64 0 | 8 => v = .int .i64 0 | _ => True : Prop)) (v i)) (by kernel_rfl) hok
    (fun i v v' w _ hj hΦ => by rw [← hj i (.inl rfl)]; exact hΦ) ?stab ?val ?box ?put rfl ?fin
  case stab =>
    intro i v hi
    match i with
    | 0 => exact Stable.isIL _ _ _ _
    | 1 => exact Stable.const _ _
    | 2 => exact Stable.isQE _ _ _ _
    | 3 => exact Stable.isQE _ _ _ _
    | 4 => exact Stable.isQ _ _ _ _
    | 5 => exact Stable.const _ _
    | 6 => exact Stable.const _ _
    | 7 => exact Stable.const _ _
    | 8 => exact Stable.const _ _
    | i + 9 => exact Stable.const _ _
  case val =>
    intro i o ho hv a w hA hb hz hn K' hK
    have hw := below_undrew hb
    have erX : a.eval (.tmp 7) = .pointer (some ⟨gX, 0, none⟩) := (hA.eval (show 7 ∉ edge_regionS.slots 9 by decide)).trans hrX
    have kX_0 := (hb.cell (p := ⟨gX, 0, none⟩) hgX).trans cX_0
    have kX_1 := (hb.cell (p := ⟨gX, 1, none⟩) hgX).trans cX_1
    match i, ho, hv with
    | 0, ho, _ =>
      have ho' : o0 = o := by simpa using ho
      subst ho'
      refine wp_call (run_call Try.func24 (by kernel_rfl) rfl h0 a w) ?_ (fun v w' hb' hφ => hK v w' hb' (by simpa [upd] using hφ))
      have em : Array.map a.eval #[Operand.const (.int .i64 1)] = #[.int .i64 1] := by first | (simp only [List.map_toArray, List.map_cons, List.map_nil]; done) | (simp only [List.map_toArray, List.map_cons, List.map_nil]; rfl) | rfl
      rw [em]
      exact ((new_any 1 w (by omega) (by omega)).mono fun e w h => OutI.len (L := 1) h (by decide)).mono fun e w h => h.is
    | 1, ho, _ =>
      have ho' : o1 = o := by simpa using ho
      subst ho'
      refine wp_value (v := .agg #[.bool nx, .slice ox lx cx]) (w' := w) ?_ (hK _ _ (Below.refl _ _) (by simp [upd]))
      unfold execOp
      rw [h1]
      dsimp only
      rw [erX]
      simp [go_sem, kX_0, kX_1]
    | 2, ho, _ =>
      have ho' : o2 = o := by simpa using ho
      subst ho'
      obtain ⟨n0, o0, l0, c0, e0, x0, y0⟩ : IsIL (1) (1) (a.eval (.tmp 74)) w := hn 0 (by simp [edge_regionS]) rfl
      have e1 : a.eval (.tmp 75) = .agg #[.bool nx, .slice ox lx cx] := hn 1 (by simp [edge_regionS]) rfl
      refine wp_call (run_call Try.func23 (by kernel_rfl) rfl h2 a w) ?_ (fun v w' hb' hφ => hK v w' hb' (by simpa [upd] using hφ))
      have em : Array.map a.eval #[Operand.tmp 74, Operand.tmp 75] = #[a.eval (.tmp 74), a.eval (.tmp 75)] := by first | (simp only [List.map_toArray, List.map_cons, List.map_nil]; done) | (simp only [List.map_toArray, List.map_cons, List.map_nil]; rfl) | rfl
      rw [em, e0, e1]
      exact (newRat_L n0 nx o0 ox l0 lx c0 cx 1 x w y0 (hX.keep hw) (by omega) (by omega) hx).mono fun e w h => h.is
    | 3, ho, _ =>
      have ho' : o3 = o := by simpa using ho
      subst ho'
      have e : IsQE (lowP 1 x) (lowQ 1 x) (a.eval (.tmp 76)) w := hn 2 (by simp [edge_regionS]) rfl
      exact wp_value (run_move h3 a w) (hK _ _ (Below.refl _ _) (by simpa [upd] using e))
    | 4, ho, _ =>
      have ho' : o4 = o := by simpa using ho
      subst ho'
      obtain ⟨n3, o3, l3, c3, b3, m3, d3, e3, y3⟩ : IsQE (lowP 1 x) (lowQ 1 x) (a.eval (.tmp 73)) w := hn 3 (by simp [edge_regionS]) rfl
      exact wp_value (run_extract h4 e3 rfl w) (hK _ _ (Below.refl _ _) (by simp only [upd, if_true]; exact ⟨n3, o3, l3, c3, b3, m3, d3, rfl, y3⟩))
    | 5, ho, _ =>
      have ho' : o5 = o := by simpa using ho
      subst ho'
      obtain ⟨n3, o3, l3, c3, b3, m3, d3, e3, y3⟩ : IsQE (lowP 1 x) (lowQ 1 x) (a.eval (.tmp 73)) w := hn 3 (by simp [edge_regionS]) rfl
      exact wp_value (run_extract h5 e3 rfl w) (hK _ _ (Below.refl _ _) (by simp [upd]))
    | 8, ho, _ =>
      have ho' : o8 = o := by simpa using ho
      subst ho'
      have e : a.eval (.tmp 78) = .int .i64 0 := hn 5 (by simp [edge_regionS]) rfl
      exact wp_value (run_assign h8 a w) (hK _ _ (Below.refl _ _) (by simp [upd, e]))
    | 6, _, hv => cases hv
    | 7, _, hv => cases hv
    | i + 9, ho, _ => simp at ho
  case box =>
    intro i o T z ho hk a w
    match i, ho, hk with
    | 0, _, hk => cases hk
    | 1, _, hk => cases hk
    | 2, _, hk => cases hk
    | 3, _, hk => cases hk
    | 4, _, hk => cases hk
    | 5, _, hk => cases hk
    | 6, ho, hk =>
      have ho' : o6 = o := by simpa using ho
      subst ho'; cases hk; unfold execOp; rw [h6]; simp [go_sem]
    | 7, _, hk => cases hk
    | 8, _, hk => cases hk
    | i + 9, ho, _ => simp at ho
  case put =>
    intro i o p' s' T z ho hk hp a w b hva hφ hbx
    match i, ho, hk with
    | 0, _, hk => cases hk
    | 1, _, hk => cases hk
    | 2, _, hk => cases hk
    | 3, _, hk => cases hk
    | 4, _, hk => cases hk
    | 5, _, hk => cases hk
    | 6, _, hk => cases hk
    | 7, ho, hk =>
      have ho' : o7 = o := by simpa using ho
      subst ho'; cases hk; cases hp
      obtain ⟨n4, o4, l4, c4, b4, m4, d4, e4, y4⟩ := hφ
      have q1 : a.eval (.tmp 77) = .agg #[.bool n4, .slice o4 l4 c4, .slice b4 m4 d4] := e4
      have q2 : a.eval (.tmp 11) = .pointer (some ⟨b, 0, none⟩) := hva
      have u0 := hbx.cell 0
      have f0 := hbx.frozen 0
      have u1 := hbx.cell 1
      have f1 := hbx.frozen 1
      have u2 := hbx.cell 2
      have f2 := hbx.frozen 2
      refine ⟨[.bool n4, .slice o4 l4 c4, .slice b4 m4 d4], e4, rfl, by simp [isInt], ?_⟩
      unfold execOp; rw [h7]
      dsimp only
      rw [q1, q2]
      simp [go_sem, u0, f0, u1, f1, u2, f2, setFrom]
    | 8, _, hk => cases hk
    | i + 9, ho, _ => simp at ho
  case fin =>
    intro a w blk hI
    have n8 : (#[o0, o1, o2, o3, o4, o5, o6, o7, o8] : Array Oper).size = 9 := rfl
    rw [n8] at hI
    have hf := hI.agree.form
    have e1 : a.eval (.tmp 75) = .agg #[.bool nx, .slice ox lx cx] := hI.vals 1 (by decide) (by decide) rfl
    obtain ⟨n4, o4, l4, c4, b4, m4, d4, e4, y4⟩ : IsQ (lowP 1 x) (lowQ 1 x) (a.eval (.tmp 77)) w := hI.vals 4 (by decide) (by decide) rfl
    have e5 : a.eval (.tmp 78) = .int .i64 0 := hI.vals 5 (by decide) (by decide) rfl
    have e8 : a.eval (.tmp 12) = .int .i64 0 := hI.vals 8 (by decide) (by decide) rfl
    obtain ⟨p6, r6, _, k6⟩ := hI.boxes 6 52 #[.bool false, .slice none 0 0, .slice none 0 0] (by decide) (by decide) rfl
    obtain ⟨us6, i6, _, _, j6⟩ := k6 (show (7 : Nat) < 9 by decide)
    have y_6 : a.eval (.tmp 77) = .agg us6.toArray := i6
    rw [e4] at y_6
    cases y_6
    have e6 : a.eval (.tmp 11) = .pointer (some ⟨blk 6, 0, none⟩) := p6
    have hsl : edge_regionS.slots 9 = [74, 75, 76, 73, 77, 78, 11, 12] := rfl
    rw [hsl] at hf
    simp only [List.map_cons, List.map_nil, e1, e4, e5, e8, e6] at hf
    rw [hf]
    exact hend w (blk 6) n4 o4 l4 c4 b4 m4 d4 _ _ _ (below_undrew hI.below) r6 j6 y4
end Go.Proofs.Ytbihgllfllkkaaa
