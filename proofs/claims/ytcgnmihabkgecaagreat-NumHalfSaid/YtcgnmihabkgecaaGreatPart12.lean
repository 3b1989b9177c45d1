/- Part 12 of the contracts: PlanA, RefM, RefV, RefX, Shr. -/
import Derived.IntWalk
import Derived.Deep.Cut
import Derived.Deep.AppendLies
import Derived.Deep.RegionHeldLaw
import Derived.Test.YtcgnmihabkgecaaGreatPart11

/- Add of fractions: the region that makes a block. -/
set_option linter.unusedVariables false
set_option linter.unusedSimpArgs false
namespace Go.Proofs.YtcgnmihabkgecaaGreat
open Go.RowKit Go.Proofs

theorem OutIL.up {W w' : World} {z : Int} {L M : Nat} {e : Ending} (h : OutIL W z L e w') (hL : L ≤ M) : OutIL W z M e w' := by
  obtain ⟨n, o, l, c, rfl, h1, h2⟩ := h
  exact ⟨n, o, l, c, rfl, Nat.le_trans h1 hL, h2⟩

def addQ_regionS : Shape where
  f := fun i => match i with | 0 => 7 | 1 => 8 | 2 => 9 | 3 => 10 | 4 => 11 | 5 => 12 | 6 => 13 | 7 => 14 | 8 => 15 | 9 => 16 | 10 => 17 | 11 => 6 | _ => 0
  kd := fun i => match i with | 11 => .box 25 #[.bool false, .slice none 0 0] | 12 => .put 11 10 | _ => .val
  need := fun i => match i with | 1 => [0] | 3 => [2] | 4 => [1, 3] | 6 => [5] | 8 => [7] | 9 => [6, 8] | 10 => [4, 9] | 12 => [11, 10] | _ => []
  st := fun i => match i with | 11 => 12 | _ => 0
  src := fun i => match i with | 11 => 10 | _ => 0

set_option maxRecDepth 4000 in
set_option maxHeartbeats 2000000 in
/-- the sum's numerator, whose block may be made at any time -/
theorem addQ_region {Q : Exit → Act → World → Prop} {id : Nat} {a0 : Act} {W : World} {o0 o1 o2 o3 o4 o5 o6 o7 o8 o9 o10 o11 o12 : Oper} (na nc : Bool) (ao bo co d_o : Option Addr) (la lb lc ld ca cb cc cd : Nat) (p r : Int) (q s : Nat) (gF : Nat) (gG : Nat) (ts3 : Array TypeId) (ts4 : Array TypeId) (ts8 : Array TypeId) (ts9 : Array TypeId) (ts10 : Array TypeId)
    (hok : addQ_regionS.ok #[o0, o1, o2, o3, o4, o5, o6, o7, o8, o9, o10, o11, o12] a0.tmps.size = true)
    (h0 : o0.op = .fieldAddr 27 (.tmp 2) 0) (h1 : o1.op = .load 25 (.tmp 7)) (h2 : o2.op = .load 27 (.tmp 3)) (h3 : o3.op = .call { callee := .value (.func 60), args := #[.tmp 9], argTypes := ts3 }) (h4 : o4.op = .call { callee := .value (.func 59), args := #[.tmp 8, .tmp 10], argTypes := ts4 }) (h5 : o5.op = .fieldAddr 27 (.tmp 3) 0) (h6 : o6.op = .load 25 (.tmp 12)) (h7 : o7.op = .load 27 (.tmp 2)) (h8 : o8.op = .call { callee := .value (.func 60), args := #[.tmp 14], argTypes := ts8 }) (h9 : o9.op = .call { callee := .value (.func 59), args := #[.tmp 13, .tmp 15], argTypes := ts9 }) (h10 : o10.op = .call { callee := .value (.func 58), args := #[.tmp 11, .tmp 16], argTypes := ts10 }) (h11 : o11.op = .alloc 25) (h12 : o12.op = .store 25 (.tmp 6) (.tmp 17))
    (hrF : a0.eval (.tmp 2) = .pointer (some ⟨gF, 0, none⟩)) (hgF : gF < W.heap.size) (cF_0 : W.cell? ⟨gF, 0, none⟩ = some (.bool na)) (cF_1 : W.cell? ⟨gF, 1, none⟩ = some (.slice ao la ca)) (cF_2 : W.cell? ⟨gF, 2, none⟩ = some (.slice bo lb cb))
    (hrG : a0.eval (.tmp 3) = .pointer (some ⟨gG, 0, none⟩)) (hgG : gG < W.heap.size) (cG_0 : W.cell? ⟨gG, 0, none⟩ = some (.bool nc)) (cG_1 : W.cell? ⟨gG, 1, none⟩ = some (.slice co lc cc)) (cG_2 : W.cell? ⟨gG, 2, none⟩ = some (.slice d_o ld cd))
    (hF : Q32 W na ao la bo lb p q) (hG : Q32 W nc co lc d_o ld r s) (hla : la ≤ 100000) (hlb : lb ≤ 100000) (hlc : lc ≤ 100000) (hld : ld ≤ 100000)
    (hend : ∀ w b11 n10 o10 l10 c10 d3 d4 d8 d9, Below W.heap.size W w → W.heap.size ≤ b11 → Box w b11 25 #[.bool n10, .slice o10 l10 c10] → l10 ≤ (la + lb + lc + ld + 7) → Z32 w n10 o10 l10 (p * (s : Int) + r * (q : Int)) → 
      Q .normal (puts a0 [(7, .pointer (some ⟨gF, 0, none⟩)), (8, .agg #[.bool na, .slice ao la ca]), (9, .agg #[.bool nc, .slice co lc cc, .slice d_o ld cd]), (10, d3), (11, d4), (12, .pointer (some ⟨gG, 0, none⟩)), (13, .agg #[.bool nc, .slice co lc cc]), (14, .agg #[.bool na, .slice ao la ca, .slice bo lb cb]), (15, d8), (16, d9), (17, .agg #[.bool n10, .slice o10 l10 c10]), (6, .pointer (some ⟨b11, 0, none⟩))]) w) :
    (Code.region id #[o0, o1, o2, o3, o4, o5, o6, o7, o8, o9, o10, o11, o12] true).wp Tryz.prog Q a0 W := by
  refine Shape.region addQ_regionS (fun i v w => (fun (v : Value) => (match i with | 0 => v = .pointer (some ⟨gF, 0, none⟩) | 1 => v = .agg #[.bool na, .slice ao la ca] | 2 => v = .agg #[.bool nc, .slice co lc cc, .slice d_o ld cd] | 3 => IsIL ((s : Int)) (ld + 1) v w | 4 => IsIL (p * (s : Int)) (la + (ld + 1) + 1) v w | 5 => v = .pointer (some ⟨gG, 0, none⟩) | 6 => v = .agg #[.bool nc, .slice co lc cc] | 7 => v = .agg #[.bool na, .slice ao la ca, .slice bo lb cb] | 8 => IsIL ((q : Int)) (lb + 1) v w | 9 => IsIL (r * (q : Int)) (lc + (lb + 1) + 1) v w | 10 => IsIL (p * (s : Int) + r * (q : Int)) (la + lb + lc + ld + 7) v w | _ => True : Prop)) (v i)) (by kernel_rfl) hok
    (fun i v v' w _ hj hΦ => by rw [← hj i (.inl rfl)]; exact hΦ) ?stab ?val ?box ?put rfl ?fin
  case stab =>
    intro i v hi
    match i with
    | 0 => exact Stable.const _ _
    | 1 => exact Stable.const _ _
    | 2 => exact Stable.const _ _
    | 3 => exact Stable.isIL _ _ _ _
    | 4 => exact Stable.isIL _ _ _ _
    | 5 => exact Stable.const _ _
    | 6 => exact Stable.const _ _
    | 7 => exact Stable.const _ _
    | 8 => exact Stable.isIL _ _ _ _
    | 9 => exact Stable.isIL _ _ _ _
    | 10 => exact Stable.isIL _ _ _ _
    | 11 => exact Stable.const _ _
    | 12 => exact Stable.const _ _
    | i + 13 => exact Stable.const _ _
  case val =>
    intro i o ho hv a w hA hb hz hn K' hK
    have hw := below_undrew hb
    have erF : a.eval (.tmp 2) = .pointer (some ⟨gF, 0, none⟩) := (hA.eval (show 2 ∉ addQ_regionS.slots 13 by decide)).trans hrF
    have kF_0 := (hb.cell (p := ⟨gF, 0, none⟩) hgF).trans cF_0
    have kF_1 := (hb.cell (p := ⟨gF, 1, none⟩) hgF).trans cF_1
    have kF_2 := (hb.cell (p := ⟨gF, 2, none⟩) hgF).trans cF_2
    have erG : a.eval (.tmp 3) = .pointer (some ⟨gG, 0, none⟩) := (hA.eval (show 3 ∉ addQ_regionS.slots 13 by decide)).trans hrG
    have kG_0 := (hb.cell (p := ⟨gG, 0, none⟩) hgG).trans cG_0
    have kG_1 := (hb.cell (p := ⟨gG, 1, none⟩) hgG).trans cG_1
    have kG_2 := (hb.cell (p := ⟨gG, 2, none⟩) hgG).trans cG_2
    match i, ho, hv with
    | 0, ho, _ =>
      have ho' : o0 = o := by simpa using ho
      subst ho'
      refine wp_value (v := .pointer (some ⟨gF, 0, none⟩)) (w' := w) ?_ (hK _ _ (Below.refl _ _) (by simp [upd]))
      unfold execOp
      rw [h0]
      dsimp only
      rw [erF]
      simp [go_sem]
    | 1, ho, _ =>
      have ho' : o1 = o := by simpa using ho
      subst ho'
      have e : a.eval (.tmp 7) = .pointer (some ⟨gF, 0, none⟩) := hn 0 (by simp [addQ_regionS]) rfl
      refine wp_value (v := .agg #[.bool na, .slice ao la ca]) (w' := w) ?_ (hK _ _ (Below.refl _ _) (by simp [upd]))
      unfold execOp
      rw [h1]
      dsimp only
      rw [e]
      simp [go_sem, kF_0, kF_1, kF_2]
    | 2, ho, _ =>
      have ho' : o2 = o := by simpa using ho
      subst ho'
      refine wp_value (v := .agg #[.bool nc, .slice co lc cc, .slice d_o ld cd]) (w' := w) ?_ (hK _ _ (Below.refl _ _) (by simp [upd]))
      unfold execOp
      rw [h2]
      dsimp only
      rw [erG]
      simp [go_sem, kG_0, kG_1, kG_2]
    | 3, ho, _ =>
      have ho' : o3 = o := by simpa using ho
      subst ho'
      have e2 : a.eval (.tmp 9) = .agg #[.bool nc, .slice co lc cc, .slice d_o ld cd] := hn 2 (by simp [addQ_regionS]) rfl
      refine wp_call (run_call Tryz.func60 (by kernel_rfl) rfl h3 a w) ?_ (fun v w' hb' hφ => hK v w' hb' (by simpa [upd] using hφ))
      have em : Array.map a.eval #[Operand.tmp 9] = #[a.eval (.tmp 9)] := by first | (simp only [List.map_toArray, List.map_cons, List.map_nil]; done) | (simp only [List.map_toArray, List.map_cons, List.map_nil]; rfl) | rfl
      rw [em, e2]
      exact (den_L nc co d_o lc ld cc cd r s w (hG.keep hw) (by omega)).mono fun e w h => h.is
    | 4, ho, _ =>
      have ho' : o4 = o := by simpa using ho
      subst ho'
      have e1 : a.eval (.tmp 8) = .agg #[.bool na, .slice ao la ca] := hn 1 (by simp [addQ_regionS]) rfl
      obtain ⟨n3, o3, l3, c3, e3, x3, y3⟩ : IsIL ((s : Int)) (ld + 1) (a.eval (.tmp 10)) w := hn 3 (by simp [addQ_regionS]) rfl
      refine wp_call (run_call Tryz.func59 (by kernel_rfl) rfl h4 a w) ?_ (fun v w' hb' hφ => hK v w' hb' (by simpa [upd] using hφ))
      have em : Array.map a.eval #[Operand.tmp 8, Operand.tmp 10] = #[a.eval (.tmp 8), a.eval (.tmp 10)] := by first | (simp only [List.map_toArray, List.map_cons, List.map_nil]; done) | (simp only [List.map_toArray, List.map_cons, List.map_nil]; rfl) | rfl
      rw [em, e1, e3]
      exact (times_L na n3 ao o3 la l3 ca c3 p (s : Int) w (hF.1.keep hw) y3 (by omega) (by omega)).mono fun e w h => OutIL.is (h.up (by omega))
    | 5, ho, _ =>
      have ho' : o5 = o := by simpa using ho
      subst ho'
      refine wp_value (v := .pointer (some ⟨gG, 0, none⟩)) (w' := w) ?_ (hK _ _ (Below.refl _ _) (by simp [upd]))
      unfold execOp
      rw [h5]
      dsimp only
      rw [erG]
      simp [go_sem]
    | 6, ho, _ =>
      have ho' : o6 = o := by simpa using ho
      subst ho'
      have e : a.eval (.tmp 12) = .pointer (some ⟨gG, 0, none⟩) := hn 5 (by simp [addQ_regionS]) rfl
      refine wp_value (v := .agg #[.bool nc, .slice co lc cc]) (w' := w) ?_ (hK _ _ (Below.refl _ _) (by simp [upd]))
      unfold execOp
      rw [h6]
      dsimp only
      rw [e]
      simp [go_sem, kG_0, kG_1, kG_2]
    | 7, ho, _ =>
      have ho' : o7 = o := by simpa using ho
      subst ho'
      refine wp_value (v := .agg #[.bool na, .slice ao la ca, .slice bo lb cb]) (w' := w) ?_ (hK _ _ (Below.refl _ _) (by simp [upd]))
      unfold execOp
      rw [h7]
      dsimp only
      rw [erF]
      simp [go_sem, kF_0, kF_1, kF_2]
    | 8, ho, _ =>
      have ho' : o8 = o := by simpa using ho
      subst ho'
      have e7 : a.eval (.tmp 14) = .agg #[.bool na, .slice ao la ca, .slice bo lb cb] := hn 7 (by simp [addQ_regionS]) rfl
      refine wp_call (run_call Tryz.func60 (by kernel_rfl) rfl h8 a w) ?_ (fun v w' hb' hφ => hK v w' hb' (by simpa [upd] using hφ))
      have em : Array.map a.eval #[Operand.tmp 14] = #[a.eval (.tmp 14)] := by first | (simp only [List.map_toArray, List.map_cons, List.map_nil]; done) | (simp only [List.map_toArray, List.map_cons, List.map_nil]; rfl) | rfl
      rw [em, e7]
      exact (den_L na ao bo la lb ca cb p q w (hF.keep hw) (by omega)).mono fun e w h => h.is
    | 9, ho, _ =>
      have ho' : o9 = o := by simpa using ho
      subst ho'
      have e6 : a.eval (.tmp 13) = .agg #[.bool nc, .slice co lc cc] := hn 6 (by simp [addQ_regionS]) rfl
      obtain ⟨n8, o8, l8, c8, e8, x8, y8⟩ : IsIL ((q : Int)) (lb + 1) (a.eval (.tmp 15)) w := hn 8 (by simp [addQ_regionS]) rfl
      refine wp_call (run_call Tryz.func59 (by kernel_rfl) rfl h9 a w) ?_ (fun v w' hb' hφ => hK v w' hb' (by simpa [upd] using hφ))
      have em : Array.map a.eval #[Operand.tmp 13, Operand.tmp 15] = #[a.eval (.tmp 13), a.eval (.tmp 15)] := by first | (simp only [List.map_toArray, List.map_cons, List.map_nil]; done) | (simp only [List.map_toArray, List.map_cons, List.map_nil]; rfl) | rfl
      rw [em, e6, e8]
      exact (times_L nc n8 co o8 lc l8 cc c8 r (q : Int) w (hG.1.keep hw) y8 (by omega) (by omega)).mono fun e w h => OutIL.is (h.up (by omega))
    | 10, ho, _ =>
      have ho' : o10 = o := by simpa using ho
      subst ho'
      obtain ⟨n4, o4, l4, c4, e4, x4, y4⟩ : IsIL (p * (s : Int)) (la + (ld + 1) + 1) (a.eval (.tmp 11)) w := hn 4 (by simp [addQ_regionS]) rfl
      obtain ⟨n9, o9, l9, c9, e9, x9, y9⟩ : IsIL (r * (q : Int)) (lc + (lb + 1) + 1) (a.eval (.tmp 16)) w := hn 9 (by simp [addQ_regionS]) rfl
      refine wp_call (run_call Tryz.func58 (by kernel_rfl) rfl h10 a w) ?_ (fun v w' hb' hφ => hK v w' hb' (by simpa [upd] using hφ))
      have em : Array.map a.eval #[Operand.tmp 11, Operand.tmp 16] = #[a.eval (.tmp 11), a.eval (.tmp 16)] := by first | (simp only [List.map_toArray, List.map_cons, List.map_nil]; done) | (simp only [List.map_toArray, List.map_cons, List.map_nil]; rfl) | rfl
      rw [em, e4, e9]
      exact (plus_L n4 n9 o4 o9 l4 l9 c4 c9 (p * (s : Int)) (r * (q : Int)) w y4 y9 (by omega) (by omega)).mono fun e w h => OutIL.is (h.up (by omega))
    | 11, _, hv => cases hv
    | 12, _, hv => cases hv
    | i + 13, ho, _ => simp at ho
  case box =>
    intro i o T z ho hk a w
    match i, ho, hk with
    | 0, _, hk => cases hk
    | 1, _, hk => cases hk
    | 2, _, hk => cases hk
    | 3, _, hk => cases hk
    | 4, _, hk => cases hk
    | 5, _, hk => cases hk
    | 6, _, hk => cases hk
    | 7, _, hk => cases hk
    | 8, _, hk => cases hk
    | 9, _, hk => cases hk
    | 10, _, hk => cases hk
    | 11, ho, hk =>
      have ho' : o11 = o := by simpa using ho
      subst ho'; cases hk; unfold execOp; rw [h11]; simp [go_sem]
    | 12, _, hk => cases hk
    | i + 13, ho, _ => simp at ho
  case put =>
    intro i o p' s' T z ho hk hp a w b hva hφ hbx
    match i, ho, hk with
    | 0, _, hk => cases hk
    | 1, _, hk => cases hk
    | 2, _, hk => cases hk
    | 3, _, hk => cases hk
    | 4, _, hk => cases hk
    | 5, _, hk => cases hk
    | 6, _, hk => cases hk
    | 7, _, hk => cases hk
    | 8, _, hk => cases hk
    | 9, _, hk => cases hk
    | 10, _, hk => cases hk
    | 11, _, hk => cases hk
    | 12, ho, hk =>
      have ho' : o12 = o := by simpa using ho
      subst ho'; cases hk; cases hp
      obtain ⟨n10, o10, l10, c10, e10, x10, y10⟩ := hφ
      have q1 : a.eval (.tmp 17) = .agg #[.bool n10, .slice o10 l10 c10] := e10
      have q2 : a.eval (.tmp 6) = .pointer (some ⟨b, 0, none⟩) := hva
      have u0 := hbx.cell 0
      have f0 := hbx.frozen 0
      have u1 := hbx.cell 1
      have f1 := hbx.frozen 1
      refine ⟨[.bool n10, .slice o10 l10 c10], e10, rfl, by simp [isInt], ?_⟩
      unfold execOp; rw [h12]
      dsimp only
      rw [q1, q2]
      simp [go_sem, u0, f0, u1, f1, setFrom]
    | i + 13, ho, _ => simp at ho
  case fin =>
    intro a w blk hI
    have n8 : (#[o0, o1, o2, o3, o4, o5, o6, o7, o8, o9, o10, o11, o12] : Array Oper).size = 13 := rfl
    rw [n8] at hI
    have hf := hI.agree.form
    have e0 : a.eval (.tmp 7) = .pointer (some ⟨gF, 0, none⟩) := hI.vals 0 (by decide) (by decide) rfl
    have e1 : a.eval (.tmp 8) = .agg #[.bool na, .slice ao la ca] := hI.vals 1 (by decide) (by decide) rfl
    have e2 : a.eval (.tmp 9) = .agg #[.bool nc, .slice co lc cc, .slice d_o ld cd] := hI.vals 2 (by decide) (by decide) rfl
    have e5 : a.eval (.tmp 12) = .pointer (some ⟨gG, 0, none⟩) := hI.vals 5 (by decide) (by decide) rfl
    have e6 : a.eval (.tmp 13) = .agg #[.bool nc, .slice co lc cc] := hI.vals 6 (by decide) (by decide) rfl
    have e7 : a.eval (.tmp 14) = .agg #[.bool na, .slice ao la ca, .slice bo lb cb] := hI.vals 7 (by decide) (by decide) rfl
    obtain ⟨n10, o10, l10, c10, e10, x10, y10⟩ : IsIL (p * (s : Int) + r * (q : Int)) (la + lb + lc + ld + 7) (a.eval (.tmp 17)) w := hI.vals 10 (by decide) (by decide) rfl
    obtain ⟨p11, r11, _, k11⟩ := hI.boxes 11 25 #[.bool false, .slice none 0 0] (by decide) (by decide) rfl
    obtain ⟨us11, i11, _, _, j11⟩ := k11 (show (12 : Nat) < 13 by decide)
    have y_11 : a.eval (.tmp 17) = .agg us11.toArray := i11
    rw [e10] at y_11
    cases y_11
    have e11 : a.eval (.tmp 6) = .pointer (some ⟨blk 11, 0, none⟩) := p11
    have hsl : addQ_regionS.slots 13 = [7, 8, 9, 10, 11, 12, 13, 14, 15, 16, 17, 6] := rfl
    rw [hsl] at hf
    simp only [List.map_cons, List.map_nil, e0, e1, e2, e5, e6, e7, e10, e11] at hf
    rw [hf]
    exact hend w (blk 11) n10 o10 l10 c10 _ _ _ _ (below_undrew hI.below) r11 j11 x10 y10
end Go.Proofs.YtcgnmihabkgecaaGreat

/- The specification's mul, Mul. -/
set_option linter.unusedVariables false
namespace Go.Proofs.YtcgnmihabkgecaaGreat
open Go.RowKit

def MulRel (g la lb : Nat) (xa xb : List Nat) (W : World) (iv : Value) (wr : World) : Prop :=
  ∃ (i : Nat) (zs : List Nat), iv = .int .i64 (i : Int) ∧ Blk .i64 wr g 3 zs ∧ zs.length = la + lb ∧ Dig B16 zs ∧ i ≤ la ∧
    val B16 zs = val B16 (xa.take i) * val B16 xb ∧ (∀ j, i + lb ≤ j → zs[j]?.getD 0 = 0) ∧ Below W.heap.size W wr

def MulIn (g la lb i x : Nat) (xa xb : List Nat) (W : World) (cv kv : Value) (wr : World) : Prop :=
  ∃ (c k : Nat) (zs : List Nat), cv = .int .i64 (c : Int) ∧ kv = .int .i64 (k : Int) ∧ Blk .i64 wr g 3 zs ∧ zs.length = la + lb ∧ Dig B16 zs ∧ k ≤ lb + 1 ∧ c < 65536 ∧ (k = lb + 1 → c = 0) ∧
    val B16 zs + c * B16 ^ (i + k) = val B16 (xa.take i) * val B16 xb + x * val B16 (xb.take k) * B16 ^ i ∧ (∀ j, i + k ≤ j → i + lb ≤ j → zs[j]?.getD 0 = 0) ∧ Below W.heap.size W wr

theorem mul_in {g la lb i k c x y z n : Nat} {xa xb zs : List Nat} {W wr w2 : World} (hB : Blk .i64 wr g 3 zs) (hl : zs.length = la + lb) (hd : Dig B16 zs) (hxb : xb.length = lb) (hk : k < lb ∨ (k = lb ∧ 0 < c)) (hi : i < la) (hc : c < 65536)
    (hx : x < 65536) (hy : y < 65536) (hz : z < 65536) (hye : y = xb[k]?.getD 0) (hze : z = zs[i + k]?.getD 0)
    (hv : val B16 zs + c * B16 ^ (i + k) = val B16 (xa.take i) * val B16 xb + x * val B16 (xb.take k) * B16 ^ i) (h0 : ∀ j, i + k ≤ j → i + lb ≤ j → zs[j]?.getD 0 = 0) (hb : Below W.heap.size W wr) (hg : W.heap.size ≤ g)
    (s : Nat) (hs : s = c + (x * y + z)) (hw : w2 = wr.drewN n) (C V K : Int) (hC : C = ((s / 65536 : Nat) : Int)) (hV : V = ((s % 65536 : Nat) : Int)) (hK : K = (k : Int) + 1) :
    MulIn g la lb i x xa xb W (.int .i64 C) (.int .i64 K) (w2.setCell ⟨g, i + k, none⟩ (.int .i64 V)) := by
  subst hs hw hC hV hK
  have hst := prod_step (B := B16) (zs := zs) (xb := xb) (i := i) (k := k) (c := c) (x := x) (vi := val B16 (xa.take i)) (vb := val B16 xb) (by omega) hv
  rw [← hye, ← hze] at hst
  have hxy : x * y ≤ 65535 * 65535 := Nat.mul_le_mul (by omega) (by omega)
  refine ⟨(c + (x * y + z)) / 65536, k + 1, zs.set (i + k) ((c + (x * y + z)) % 65536), rfl, by go_num, (hB.drewN n).set _ _ _ rfl, by simpa using hl, hd.set _ (Nat.mod_lt _ B16_pos), by omega, ?_, ?_, hst, ?_, (below_drewN1 hb n).setCell hg _⟩
  · generalize x * y = t at *; omega
  · intro h
    have hkl : k = lb := by omega
    have hy0 : y = 0 := by rw [hye, List.getElem?_eq_none (by omega)]; rfl
    have hz0 : z = 0 := by rw [hze]; exact h0 _ (Nat.le_refl _) (by omega)
    subst hy0 hz0
    simp; omega
  · intro j hj hj2
    rw [List.getElem?_set_ne (by omega)]
    exact h0 j (by omega) hj2

theorem mul_out {g la lb i k : Nat} {xa xb zs : List Nat} {W wr : World} (hB : Blk .i64 wr g 3 zs) (hl : zs.length = la + lb) (hd : Dig B16 zs) (hi : i < la) (hxb : xb.length = lb) (hk : lb ≤ k) (hk2 : k ≤ lb + 1)
    (hv : val B16 zs + 0 * B16 ^ (i + k) = val B16 (xa.take i) * val B16 xb + (xa[i]?.getD 0) * val B16 (xb.take k) * B16 ^ i) (h0 : ∀ j, i + k ≤ j → i + lb ≤ j → zs[j]?.getD 0 = 0) (hb : Below W.heap.size W wr) :
    MulRel g la lb xa xb W (.int .i64 ((i : Int) + 1)) wr := by
  refine ⟨i + 1, zs, by go_num, hB, hl, hd, by omega, ?_, fun j hj => h0 j (by omega) (by omega), hb⟩
  rw [List.take_of_length_le (l := xb) (by omega)] at hv
  rw [val_take_succ]
  generalize B16 ^ i = p at *
  grind

set_option maxHeartbeats 2000000 in
theorem mul16_any (ao bo : Option Addr) (la lb ca cb : Nat) (m n : Nat) (W : World) (ha : N16 W ao la m) (hb : N16 W bo lb n) (hla : la ≤ 1000000000) (hlb : lb ≤ 1000000000) :
    Calls Tryz.prog 94 #[.slice ao la ca, .slice bo lb cb] W (Out16 W (m * n)) := by
  obtain ⟨xa, ⟨hxa, ba, oa, hao, hca⟩, hda, hta, rfl⟩ := ha
  obtain ⟨xb, hsb, hdb, htb, rfl⟩ := hb
  have HA := Lib.hid hca
  have HB := Lib.hid hsb
  have HDA := Lib.hid hda
  have HDB := Lib.hid hdb
  have HXA := Lib.hid hxa
  have HXB := Lib.hid hsb.len
  have HAO := Lib.hid hao
  have HG := Lib.hid (Nat.le_refl W.heap.size)
  clear hca hsb hda hdb hta htb hxa hao
  go_enter Tryz.func94, Tryz.ntmps94
  go_wp2_with (at_make; refine wpList_mk rfl _ 31 rfl 3 .i64 8 Tryz.underlying31 (by kernel_rfl) _ (la + lb) rfl (by omega) (by omega) (by omega) ?_; intro w1 hB1 hb1 hz1)
  go_loopw [6] (fun iv wr => MulRel W.heap.size la lb xa xb W iv wr) (fun iv _ => la - (intOf iv).toNat)
  case atStart =>
    refine ⟨0, _, rfl, hB1, by simp, Dig.replicate B16_pos _, by omega, ?_, ?_, hb1⟩
    · rw [val_replicate]; simp [val]
    · intro j hj; rw [List.getElem?_replicate]; split <;> rfl
  case round =>
    obtain ⟨i, zs, rfl, hB, hzl, hdz, hi, hv, h0, hbel⟩ := hrel
    obtain ⟨wo, rfl⟩ : ∃ wo : World, wo = wr := ⟨_, rfl⟩
    have HZ := Lib.hid hB
    have HL := Lib.hid hzl
    have HD := Lib.hid hdz
    have HV := Lib.hid hv
    have H0 := Lib.hid h0
    have HW := Lib.hid hbel
    clear hB hzl hdz hv h0 hbel
    by_cases hil : i < la
    · obtain rfl := HAO.out (by omega)
      have hx := HDA.out.get B16_pos i
      obtain ⟨x, hxe⟩ : ∃ x, x = xa[i]?.getD 0 := ⟨_, rfl⟩
      rw [← hxe] at hx
      rw [B16_eq] at hx
      have HX := Lib.hid hxe
      clear hxe
      have b1 : (i : Int) < (la : Int) := by omega
      go_wp2
      go_loopw [7, 8] (fun cv kv wr => MulIn W.heap.size la lb i x xa xb W cv kv wr) (fun cv kv _ => lb + 1 - (intOf kv).toNat)
      case atStart =>
        exact ⟨0, 0, zs, rfl, rfl, HZ.out, HL.out, HD.out, by omega, by omega, fun _ => rfl, by rw [HV.out]; simp [val], fun j _ hj => H0.out j hj, HW.out⟩
      case round =>
        obtain ⟨c, k, ys, rfl, rfl, hB, hzl, hdz, hk, hc, hck, hv, h0, hbel⟩ := hrel
        have GZ := Lib.hid hB
        have GL := Lib.hid hzl
        have GD := Lib.hid hdz
        have GV := Lib.hid hv
        have G0 := Lib.hid h0
        have GW := Lib.hid hbel
        have GCK := Lib.hid hck
        clear hB hzl hdz hv h0 hbel hck
        by_cases hgo : k < lb ∨ (k = lb ∧ 0 < c)
        · have ca1 := cell_later GW.out (HA.out i hil)
          rw [← HX.out] at ca1
          have hy := HDB.out.get B16_pos k
          obtain ⟨y, hye⟩ : ∃ x, x = xb[k]?.getD 0 := ⟨_, rfl⟩
          rw [← hye] at hy
          rw [B16_eq] at hy
          have cz1 := GZ.out.cell (i + k) (by rw [GL.out]; omega)
          have fz1 := GZ.out.frozen (i + k)
          have hz := GD.out.get B16_pos (i + k)
          obtain ⟨z, hze⟩ : ∃ x, x = ys[i + k]?.getD 0 := ⟨_, rfl⟩
          rw [← hze] at cz1 hz
          rw [B16_eq] at hz
          have HY := Lib.hid hye
          have HHZ := Lib.hid hze
          have HBr := Lib.hid (HB.out.keep GW.out)
          clear hye hze
          have hm0 : (0 : Int) ≤ (x : Int) * (y : Int) := Int.mul_nonneg (by omega) (by omega)
          have hm1 : (x : Int) * (y : Int) ≤ 4294836225 := by
            have h1 : x * y ≤ 65535 * 65535 := Nat.mul_le_mul (by omega) (by omega)
            have h2 : ((x * y : Nat) : Int) ≤ ((65535 * 65535 : Nat) : Int) := Int.ofNat_le.2 h1
            rw [Int.natCast_mul] at h2
            exact h2
          have q0 : (0 : Int) ≤ (i : Int) + (k : Int) := by omega
          have q1 : (i : Int) + (k : Int) < (la : Int) + (lb : Int) := by omega
          have q2 : ((i : Int) + (k : Int)).toNat = i + k := by omega
          have q3 : IntKind.i64.wrap ((i : Int) + (k : Int)) = (i : Int) + (k : Int) := IntWalk.i64_in _ (by omega)
          have q4 : IntKind.i64.wrap ((x : Int) * (y : Int)) = (x : Int) * (y : Int) := IntWalk.i64_in _ (by omega)
          have q5 : IntKind.i64.wrap ((z : Int) + (x : Int) * (y : Int)) = (z : Int) + (x : Int) * (y : Int) := IntWalk.i64_in _ (by omega)
          have q6 : IntKind.i64.wrap ((c : Int) + ((z : Int) + (x : Int) * (y : Int))) = (c : Int) + ((z : Int) + (x : Int) * (y : Int)) := IntWalk.i64_in _ (by omega)
          obtain ⟨t, ht⟩ : ∃ t : Nat, t = x * y := ⟨_, rfl⟩
          have HTN := Lib.hid ht
          have HT : Hid ((x : Int) * (y : Int) = (t : Int)) := by show _ = _; rw [ht, Int.natCast_mul]
          have HGO := Lib.hid hgo
          clear ht
          rcases hgo with h1 | ⟨h1, h2⟩
          · have b2 : (k : Int) < (lb : Int) := by omega
            go_wp2_with fail
            go_quiet ((go_at_call 109; exact at_quiet _ _ _ xb _ k y _ _ HBr.out rfl HY.out))
            clear q0 q2 q3 q4 q5 q6
            go_wp2
            refine ⟨?_, by simp [intOf]; omega⟩
            refine mul_in GZ.out GL.out GD.out HXB.out HGO.out hil hc hx hy hz HY.out HHZ.out GV.out G0.out GW.out HG.out (c + (x * y + z)) rfl rfl _ _ _ ?_ ?_ rfl
            · rw [HT.out, ← HTN.out]; omega
            · rw [HT.out, ← HTN.out]; omega
          · have h4 : lb ≤ k := by omega
            have h5 : k ≤ lb := by omega
            clear h1
            have b2 : ¬ (k : Int) < (lb : Int) := by omega
            have b3 : (0 : Int) < (c : Int) := by omega
            go_wp2_with fail
            go_quiet ((go_at_call 109; exact at_quiet _ _ _ xb _ k y _ _ HBr.out rfl HY.out))
            clear q0 q2 q3 q4 q5 q6
            go_wp2
            refine ⟨?_, by simp [intOf]; omega⟩
            refine mul_in GZ.out GL.out GD.out HXB.out HGO.out hil hc hx hy hz HY.out HHZ.out GV.out G0.out GW.out HG.out (c + (x * y + z)) rfl rfl _ _ _ ?_ ?_ rfl
            · rw [HT.out, ← HTN.out]; omega
            · rw [HT.out, ← HTN.out]; omega
        · have b2 : ¬ (k : Int) < (lb : Int) := by omega
          obtain rfl : c = 0 := by
            rcases Nat.eq_zero_or_pos c with h | h
            · exact h
            · have := GCK.out; omega
          go_wp2
          exact ⟨mul_out GZ.out GL.out GD.out hil HXB.out (by omega) hk (by rw [← HX.out]; exact GV.out) G0.out GW.out, by simp [intOf]; omega⟩
    · obtain rfl : i = la := by omega
      have HS := Lib.hid (HZ.out.whole HL.out)
      go_wp2_with (go_at_call 95; refine (trim16_raw _ _ _ _ _ HS.out (by omega) (by omega)).mono ?_; rintro e w3 ⟨⟨ao', m, rfl, hm, ha', ht, hzz⟩, rfl⟩)
      go_ret
      refine ⟨ao', m, _, rfl, hm, by omega, ⟨_, trim_sl HS.out hm ha', HD.out.take _, ht, ?_⟩, HW.out⟩
      rw [val_take_of_zeros hzz, HV.out, List.take_of_length_le (by rw [HXA.out]; exact Nat.le_refl _)]

set_option maxHeartbeats 2000000 in
theorem mulZ16_any (na nb : Bool) (ao bo : Option Addr) (la lb ca cb : Nat) (x y : Int) (W : World) (ha : Z16 W na ao la x) (hb : Z16 W nb bo lb y) (hla : la ≤ 1000000000) (hlb : lb ≤ 1000000000) :
    Calls Tryz.prog 97 #[.agg #[.bool na, .slice ao la ca], .agg #[.bool nb, .slice bo lb cb]] W (OutJ W (x * y)) := by
  have hf : Fr W (((W.alloc (.cells #[.bool na, .slice ao la ca] 33)).alloc (.cells #[.bool nb, .slice bo lb cb] 33)).alloc (.cells #[.bool false, .slice none 0 0] 33))
      [(33, #[.bool na, .slice ao la ca]), (33, #[.bool nb, .slice bo lb cb]), (33, #[.bool false, .slice none 0 0])] :=
    (((Fr.nil W).alloc rfl _ _).alloc (by simp) _ _).alloc (by simp) _ _
  obtain ⟨m, hm, rfl, hpm⟩ := ha
  obtain ⟨n, hn, rfl, hpn⟩ := hb
  have HM := Lib.hid (hm.keep hf.below)
  have HN := Lib.hid (hn.keep hf.below)
  rw [sgn_mul]
  clear hm hn hpm hpn
  go_enter Tryz.func97, Tryz.ntmps97
  go_wp2_with fail
  obtain ⟨W3, hW3⟩ : ∃ W3, W3 = ((W.alloc (.cells #[.bool na, .slice ao la ca] 33)).alloc (.cells #[.bool nb, .slice bo lb cb] 33)).alloc (.cells #[.bool false, .slice none 0 0] 33) := ⟨_, rfl⟩
  rw [← hW3] at hf HM HN ⊢
  clear hW3
  have HF := Lib.hid hf
  clear hf
  have c0 : W3.cell? ⟨W.heap.size, 0, none⟩ = some (.bool na) := HF.out.cell 0 0 rfl rfl
  have c1 : W3.cell? ⟨W.heap.size, 1, none⟩ = some (.slice ao la ca) := HF.out.cell 0 1 rfl rfl
  have c2 : W3.cell? ⟨W.heap.size + 1, 0, none⟩ = some (.bool nb) := HF.out.cell 1 0 rfl rfl
  have c3 : W3.cell? ⟨W.heap.size + 1, 1, none⟩ = some (.slice bo lb cb) := HF.out.cell 1 1 rfl rfl
  go_region_held3 (fun w' => w'.cell? ⟨W.heap.size, 0, none⟩ = some (.bool na) ∧ w'.cell? ⟨W.heap.size, 1, none⟩ = some (.slice ao la ca) ∧ w'.cell? ⟨W.heap.size + 1, 0, none⟩ = some (.bool nb) ∧ w'.cell? ⟨W.heap.size + 1, 1, none⟩ = some (.slice bo lb cb)) (first | (go_keep; done) | ((try dsimp only); (repeat' apply And.intro) <;> (first | (go_keep; done) | (rw [cell_set2 _ _ _ _ _ _ (by omega)]; assumption))))
    (first | (go_at_call 94; refine (mul16_any _ _ _ _ _ _ m n W3.drew HM.out HN.out hla hlb).mono ?_; rintro e u1 ⟨po, pl, pc, rfl, hlc1, hcm1, hp, hb1⟩; have HB1 := Lib.hid (below_of_drew hb1); have HP := Lib.hid hp; have HF1 := Lib.hid (HF.out.later HB1.out); clear hb1 hp; have k0 : u1.cell? ⟨W.heap.size, 0, none⟩ = some (.bool na) := HF1.out.cell 0 0 rfl rfl; have k1 : u1.cell? ⟨W.heap.size, 1, none⟩ = some (.slice ao la ca) := HF1.out.cell 0 1 rfl rfl; have k2 : u1.cell? ⟨W.heap.size + 1, 0, none⟩ = some (.bool nb) := HF1.out.cell 1 0 rfl rfl; have k3 : u1.cell? ⟨W.heap.size + 1, 1, none⟩ = some (.slice bo lb cb) := HF1.out.cell 1 1 rfl rfl) | (go_at_call 53; refine (made_any (na != nb) _ _ _ (m * n) _ HP.out hlc1 hcm1).mono ?_; rintro e u2 ⟨neg, so, sl, sc, rfl, hlc2, hcm2, hz, hb2⟩; have HF2 := Lib.hid (HF1.out.later hb2); have HZ := Lib.hid hz; clear hb2 hz; have j0 : u2.cell? ⟨W.heap.size, 0, none⟩ = some (.bool na) := HF2.out.cell 0 0 rfl rfl; have j1 : u2.cell? ⟨W.heap.size, 1, none⟩ = some (.slice ao la ca) := HF2.out.cell 0 1 rfl rfl; have j2 : u2.cell? ⟨W.heap.size + 1, 0, none⟩ = some (.bool nb) := HF2.out.cell 1 0 rfl rfl; have j3 : u2.cell? ⟨W.heap.size + 1, 1, none⟩ = some (.slice bo lb cb) := HF2.out.cell 1 1 rfl rfl; have g0 : u2.cell? ⟨W.heap.size + 2, 0, none⟩ = some (.bool false) := HF2.out.cell 2 0 rfl rfl; have g1 : u2.cell? ⟨W.heap.size + 2, 1, none⟩ = some (.slice none 0 0) := HF2.out.cell 2 1 rfl rfl; have g2 : u2.frozen? ⟨W.heap.size + 2, 0, none⟩ = false := HF2.out.frozen 2 0 rfl; have g3 : u2.frozen? ⟨W.heap.size + 2, 1, none⟩ = false := HF2.out.frozen 2 1 rfl))
  go_wp2
  obtain ⟨e0, e1, hz, hbel, _⟩ := HF2.out.finJ (cap := sc) 2 rfl HZ.out
  exact bodyPost_ret (v := .agg #[.bool neg, .slice so sl sc]) (by simp [results, Tryz.results97, go_sem, e0, e1]) rfl ⟨neg, so, sl, sc, rfl, hlc2, hcm2, hz, hbel⟩
end Go.Proofs.YtcgnmihabkgecaaGreat

/- The specification's power, bit, shl by one. -/
set_option linter.unusedVariables false
namespace Go.Proofs.YtcgnmihabkgecaaGreat
open Go.RowKit

set_option maxHeartbeats 400000 in
theorem power_any (N : Int) (n : Nat) (w : World) (hN : N = (n : Int)) (hn : n ≤ 16) :
    Calls Tryz.prog 121 #[.int .i64 N] w fun e w' => e = .returned (.int .i64 ((2 ^ n : Nat) : Int)) ∧ w = w' := by
  subst hN
  go_enter Tryz.func121, Tryz.ntmps121
  go_wp2
  go_loop [3, 4] (fun xv iv => ∃ i : Nat, i ≤ n ∧ iv = .int .i64 (i : Int) ∧ xv = .int .i64 ((2 ^ i : Nat) : Int)) (fun _ iv => n - (intOf iv).toNat)
  case atStart => exact ⟨0, by omega, rfl, rfl⟩
  case round =>
    obtain ⟨i, hi, rfl, rfl⟩ := hrel
    obtain ⟨p, hp⟩ : ∃ p, p = 2 ^ i := ⟨_, rfl⟩
    have hp2 : p ≤ 65536 := by
      rw [hp]
      have := Nat.pow_le_pow_right (n := 2) (by decide) (show i ≤ 16 by omega)
      simpa using this
    rw [← hp]
    have HP := Lib.hid hp
    by_cases hin : i < n
    · have b1 : (i : Int) < (n : Int) := by omega
      clear hp
      go_wp2
      go_round
      case rel => exact ⟨i + 1, by omega, by go_num, congrArg (Value.int _) (by rw [Nat.pow_succ, ← HP.out]; omega)⟩
      case measure => simp only [intOf]; omega
    · have b1 : ¬ (i : Int) < (n : Int) := by omega
      have hin2 : i = n := by omega
      have HI := Lib.hid hin2
      clear hp hin2
      go_wp2
      go_ret
      exact ⟨ret_int (by rw [HP.out, HI.out, Int.natCast_pow]; rfl), rfl⟩

theorem bit_of {xs : List Nat} (hd : Dig B16 xs) (i : Nat) : val B16 xs / 2 ^ i % 2 = xs[i / 16]?.getD 0 / 2 ^ (i % 16) % 2 := by
  have e : i = 16 * (i / 16) + i % 16 := (Nat.div_add_mod i 16).symm
  have hlt : i % 16 < 16 := Nat.mod_lt _ (by decide)
  conv => lhs; rw [e, Nat.pow_add, ← B16_pow, ← Nat.div_div_eq_div_mul]
  generalize i / 16 = j
  generalize i % 16 = t at *
  by_cases hj : j < xs.length
  · have h1 : val B16 xs / B16 ^ j = xs[j]?.getD 0 + B16 * val B16 (xs.drop (j + 1)) := by
      rw [val_split B16 xs j (by omega), Nat.add_mul_div_left _ _ (Nat.pow_pos B16_pos), Nat.div_eq_of_lt, Nat.zero_add, drop_eq_cons xs j hj, val_cons]
      have := val_lt B16_pos (hd.take j)
      rwa [List.length_take, Nat.min_eq_left (by omega)] at this
    have h2 : B16 = 2 ^ t * (2 * 2 ^ (15 - t)) := by
      rw [← Nat.pow_succ', ← Nat.pow_add, show t + (15 - t + 1) = 16 by omega]; rfl
    rw [h1]
    have e2 : xs[j]?.getD 0 + B16 * val B16 (xs.drop (j + 1)) = xs[j]?.getD 0 + 2 ^ t * (2 * (2 ^ (15 - t) * val B16 (xs.drop (j + 1)))) := by
      rw [h2]; grind
    rw [e2, Nat.add_mul_div_left _ _ (Nat.pow_pos (by decide)), Nat.add_mul_mod_self_left]
  · have h1 : val B16 xs / B16 ^ j = 0 := by
      apply Nat.div_eq_of_lt
      exact Nat.lt_of_lt_of_le (val_lt B16_pos hd) (Nat.pow_le_pow_right B16_pos (by omega))
    rw [h1, List.getElem?_eq_none (by omega)]
    rfl

set_option maxHeartbeats 800000 in
theorem bit_any (ao : Option Addr) (la ca n i : Nat) (I : Int) (W : World) (h : N16 W ao la n) (hI : I = (i : Int)) (hi : i < 16 * la) (hla : la ≤ 1000000000) :
    Calls Tryz.prog 120 #[.slice ao la ca, .int .i64 I] W fun e w' => e = .returned (.int .i64 ((n / 2 ^ i % 2 : Nat) : Int)) ∧ ∃ m, w' = W.drewN m := by
  subst hI
  obtain ⟨xs, ⟨hx, b, off, h0, hc⟩, hd, ht, hv⟩ := h
  obtain rfl := h0 (by omega)
  rw [← hv, bit_of hd i]
  obtain ⟨j, hj⟩ : ∃ j, j = i / 16 := ⟨_, rfl⟩
  obtain ⟨t, htt⟩ : ∃ t, t = i % 16 := ⟨_, rfl⟩
  have hjla : j < la := by omega
  have ht16 : t ≤ 16 := by omega
  have hxj := hd.get B16_pos j
  have c1 := hc j hjla
  rw [← hj, ← htt]
  obtain ⟨x, hxe⟩ : ∃ x, x = xs[j]?.getD 0 := ⟨_, rfl⟩
  rw [← hxe] at c1 hxj ⊢
  obtain ⟨p, hp⟩ : ∃ p, p = 2 ^ t := ⟨_, rfl⟩
  have hp0 : 0 < p := by rw [hp]; exact Nat.pow_pos (by decide)
  have hp2 : p ≤ 65536 := by
    rw [hp]
    have := Nat.pow_le_pow_right (n := 2) (by decide) ht16
    simpa using this
  rw [← hp]
  have HP := Lib.hid hp
  rw [B16_eq] at hxj
  have HC := Lib.hid c1
  have e1 : (i : Int) / 16 = (j : Int) := by omega
  have e2 : (i : Int) % 16 = (t : Int) := by omega
  have b0 : ¬ (i : Int) < 0 := by omega
  have b1 : ¬ 16 * (la : Int) ≤ (i : Int) := by omega
  have b2 : (j : Int) < (la : Int) := by omega
  have b3 : (0 : Int) ≤ (j : Int) := by omega
  clear hx h0 hc hd ht hv hj htt hxe hp
  go_enter Tryz.func120, Tryz.ntmps120
  go_wp2
  go_quiet ((go_at_call 121; exact Calls.quiet_of_same ((power_any _ t _ rfl ht16).mono fun e w h => ⟨by rw [h.1, ← HP.out], h.2.symm⟩)))
  go_wp2
  go_ret
  refine ⟨ret_int ?_, nq, rfl⟩
  have hq : x / p ≤ x := Nat.div_le_self _ _
  have e : (x : Int) / (p : Int) = ((x / p : Nat) : Int) := (Int.natCast_ediv _ _).symm
  rw [e]
  generalize x / p = y at *
  have e3 : wrap64 (y : Int) = (y : Int) := by unfold wrap64; omega
  rw [e3, Int.tmod_eq_emod_of_nonneg (Int.natCast_nonneg _)]
  omega

/-- shl by one -/
def Shl1Rel (la : Nat) (xs : List Nat) (W : World) (ov cv iv : Value) (wr : World) : Prop :=
  ∃ (c i : Nat) (zs : List Nat), cv = .int .i64 (c : Int) ∧ iv = .int .i64 (i : Int) ∧ Own .i64 wr W.heap.size 3 ov i zs ∧ Dig B16 zs ∧ c ≤ 1 ∧ i ≤ la ∧ val B16 zs + c * B16 ^ i = 2 * val B16 (xs.take i) ∧ Below W.heap.size W wr

theorem shl1_step {xs zs : List Nat} {c i x : Nat} (hl : zs.length = i) (hx : x = xs[i]?.getD 0) (h : val B16 zs + c * B16 ^ i = 2 * val B16 (xs.take i)) :
    val B16 (zs ++ [(c + x * 2) % B16]) + (c + x * 2) / B16 * B16 ^ (i + 1) = 2 * val B16 (xs.take (i + 1)) := by
  have h2 := Nat.mod_add_div (c + x * 2) B16
  rw [val_snoc, hl, val_take_succ, ← hx, Nat.pow_succ]
  generalize (c + x * 2) % B16 = d at *
  generalize (c + x * 2) / B16 = q at *
  generalize B16 ^ i = p at *
  generalize B16 = B at *
  grind

set_option maxHeartbeats 1000000 in
theorem shl1_any (ao : Option Addr) (la ca n : Nat) (W : World) (h : N16 W ao la n) (hla : la ≤ 1000000000) :
    Calls Tryz.prog 114 #[.slice ao la ca, .int .i64 1] W (Out16 W (2 * n)) := by
  obtain ⟨xs, hs, hd, ht, hv⟩ := h
  have HS := Lib.hid hs
  have HD := Lib.hid hd
  have HV := Lib.hid hv
  have HLX := Lib.hid hs.len
  clear hs hd ht hv
  go_enter Tryz.func114, Tryz.ntmps114
  go_wp2_with (at_make; refine wpList_mk rfl _ 31 rfl 3 .i64 8 Tryz.underlying31 (by kernel_rfl) _ 0 rfl (by rfl) (by omega) (by omega) ?_; intro w1 hB1 hb1 hz1)
  refine (power_any 1 1 _ rfl (by omega)).mono ?_
  rintro e w2 ⟨rfl, hw⟩
  obtain rfl : w1 = w2 := hw
  have e2 : ((2 ^ 1 : Nat) : Int) = 2 := rfl
  rw [e2]
  clear e2
  have ho : Own .i64 w1 W.heap.size 3 (.slice (some ⟨W.heap.size, 0, none⟩) 0 0) 0 [] := ⟨by simp, Or.inr ⟨W.heap.size, 0, cs .i64 [], rfl, Nat.le_refl _, hB1, Nat.le_refl _, Nat.zero_le _, by simp [cs], by simp [cs]⟩⟩
  have HO := Lib.hid ho
  clear ho
  go_wp2
  go_loopw [5, 6, 8] (fun ov cv iv wr => Shl1Rel la xs W ov cv iv wr) (fun ov cv iv _ => la - (intOf iv).toNat)
  case atStart => exact ⟨0, 0, [], rfl, rfl, HO.out, Dig.nil _, by omega, by omega, by simp [val], hb1⟩
  case round =>
    obtain ⟨c, i, zs, rfl, rfl, hown, hd, hc, hi, hv, hbel⟩ := hrel
    have GO := Lib.hid hown
    have GD := Lib.hid hd
    have GV := Lib.hid hv
    have GW := Lib.hid hbel
    clear hown hd hv hbel
    by_cases hil : i < la
    · have t1 : (i : Int) < (la : Int) := by omega
      have t0 : (0 : Int) ≤ (i : Int) := by omega
      have hx := HD.out.get B16_pos i
      obtain ⟨x, hxe⟩ : ∃ x, x = xs[i]?.getD 0 := ⟨_, rfl⟩
      rw [← hxe] at hx
      rw [B16_eq] at hx
      obtain ⟨hxl, b, off, h0, hcc⟩ := HS.out.keep GW.out
      obtain rfl := h0 (by omega)
      have hci := hcc i (by omega)
      rw [← hxe] at hci
      have HX := Lib.hid hxe
      clear hxe hxl h0 hcc
      go_wp2_with (at_builtin; refine wpList_app rfl _ _ 31 rfl W.heap.size 3 .i64 8 Tryz.underlying31 (by kernel_rfl) _ i zs rfl GO.out _ ((c + x * 2) % 65536) rfl (by omega) (by omega) (by omega) GW.out.size ?_; intro v' w2 hown' hbel')
      go_roundw
      case rel => exact ⟨(c + x * 2) / 65536, i + 1, zs ++ [(c + x * 2) % 65536], congrArg (Value.int _) (by omega), by go_num, hown', GD.out.append (Dig.cons (Nat.mod_lt _ B16_pos) (Dig.nil _)), by omega, by omega, shl1_step GO.out.len HX.out GV.out, GW.out.trans hbel'⟩
      case measure => simp only [intOf]; omega
    · have t1 : ¬ (i : Int) < (la : Int) := by omega
      have HE : Hid (i = la) := by show _ = _; omega
      go_wp2_with (at_builtin; refine wpList_app rfl _ _ 31 rfl W.heap.size 3 .i64 8 Tryz.underlying31 (by kernel_rfl) _ i zs rfl GO.out _ c rfl rfl (by omega) (by omega) GW.out.size ?_; intro v' w2 hown' hbel')
      obtain ⟨oo, cap, rfl, hlc, hcm, hsl⟩ := hown'.sl
      have HSL := Lib.hid hsl
      have HB2 := Lib.hid (GW.out.trans hbel')
      clear hsl hown' hbel'
      go_wp2_with fail
      refine (trim16_raw _ _ _ (zs ++ [c]) _ HSL.out hlc hcm).mono ?_
      rintro e w3 ⟨⟨ao', k, rfl, hk, ha', ht, hz⟩, hw⟩
      obtain rfl : w2 = w3 := hw
      have HT := Lib.hid ht
      have HZ := Lib.hid hz
      have HAA := Lib.hid ha'
      clear ht hz ha'
      go_wp2
      go_ret
      refine ⟨ao', k, cap, rfl, by omega, hcm, ⟨(zs ++ [c]).take k, trim_sl HSL.out hk HAA.out, (GD.out.append (Dig.cons (by rw [B16_eq]; omega) (Dig.nil _))).take _, HT.out, ?_⟩, HB2.out⟩
      rw [val_take_of_zeros HZ.out, val_snoc, GO.out.len, Nat.mul_comm, GV.out, HE.out, List.take_of_length_le (by rw [HLX.out]; exact Nat.le_refl _), HV.out]
end Go.Proofs.YtcgnmihabkgecaaGreat

/- The specification's shl for every count, shr by one. -/
set_option linter.unusedVariables false
namespace Go.Proofs.YtcgnmihabkgecaaGreat
open Go.RowKit

theorem even_half {a : Nat} (h : a % 2 = 0) : a = 2 * (a / 2) := by omega
theorem bg_left {a b : Nat} (ha : a % 2 = 0) (hb : ¬ b % 2 = 0) : Nat.gcd (a / 2) b = Nat.gcd a b := by
  have hc : Nat.Coprime 2 b := by
    unfold Nat.Coprime
    rw [Nat.gcd_rec]
    have : b % 2 = 1 := by omega
    rw [this]; decide
  conv => rhs; rw [even_half ha]
  exact (Nat.Coprime.gcd_mul_left_cancel _ hc).symm
theorem bg_right {a b : Nat} (hb : b % 2 = 0) (ha : ¬ a % 2 = 0) : Nat.gcd a (b / 2) = Nat.gcd a b := by
  rw [Nat.gcd_comm, bg_left hb ha, Nat.gcd_comm]
theorem bg_both {a b : Nat} (ha : a % 2 = 0) (hb : b % 2 = 0) : 2 * Nat.gcd (a / 2) (b / 2) = Nat.gcd a b := by
  rw [← Nat.gcd_mul_left, ← even_half ha, ← even_half hb]
theorem bg_sub_left {a b : Nat} (h : b ≤ a) : Nat.gcd (a - b) b = Nat.gcd a b := Nat.gcd_sub_self_left h
theorem bg_sub_right {a b : Nat} (h : a ≤ b) : Nat.gcd a (b - a) = Nat.gcd a b := Nat.gcd_sub_self_right h
theorem shl_num {l i V c p x m zs d q B : Nat} (h2 : d + B * q = c + p) (hp : p = x * m) (h : zs + c * B ^ (l + i) = m * B ^ l * V) :
    zs + d * B ^ (l + i) + q * B ^ (l + i + 1) = m * B ^ l * (V + x * B ^ i) := by
  rw [Nat.pow_succ]
  have e : B ^ (l + i) = B ^ l * B ^ i := Nat.pow_add _ _ _
  rw [e] at h ⊢; clear e
  generalize B ^ l = L at *
  generalize B ^ i = I at *
  subst hp
  grind
theorem shr_num {zs i x y V B r : Nat} (hB : B = 2 * 32768) (h : 2 * zs + r = V + B ^ i * (x % 2)) :
    2 * (zs + (x / 2 + y % 2 * 32768) * B ^ i) + r = V + x * B ^ i + B ^ (i + 1) * (y % 2) := by
  rw [Nat.pow_succ]
  have := Nat.div_add_mod x 2
  generalize x / 2 = u at *
  generalize x % 2 = v at *
  generalize y % 2 = k at *
  subst this
  generalize B ^ i = I at *
  subst hB
  grind

theorem Own.fresh {k : IntKind} {w : World} {base e g : Nat} {zs : List Nat} (h : Blk k w g e zs) (hb : base ≤ g) (hl : zs.length ≤ maxLen) : Own k w base e (.slice (some ⟨g, 0, none⟩) zs.length zs.length) zs.length zs :=
  ⟨by simp, Or.inr ⟨g, zs.length, cs k zs, rfl, hb, h, Nat.le_refl _, hl, by simp [cs], by simp [cs]; exact List.take_of_length_le (by simp)⟩⟩

theorem shl16_step {xs zs : List Nat} {l i c p x m : Nat} (hl : zs.length = l + i) (hx : x = xs[i]?.getD 0) (hp : p = x * m) (h : val B16 zs + c * B16 ^ (l + i) = m * B16 ^ l * val B16 (xs.take i)) :
    val B16 (zs ++ [(c + p) % B16]) + (c + p) / B16 * B16 ^ (l + i + 1) = m * B16 ^ l * val B16 (xs.take (i + 1)) := by
  have h2 := Nat.mod_add_div (c + p) B16
  have h3 := shl_num h2 hp h
  rw [val_snoc, hl, val_take_succ, ← hx, Nat.mul_comm (B16 ^ (l + i)), Nat.mul_comm (B16 ^ i)]
  exact h3

theorem shl_pow {k : Nat} : 2 ^ (k % 16) * B16 ^ (k / 16) = 2 ^ k := by
  rw [B16_pow, ← Nat.pow_add, Nat.add_comm, Nat.div_add_mod]

def Shl16Rel (la l m : Nat) (xs : List Nat) (W : World) (ov cv iv : Value) (wr : World) : Prop :=
  ∃ (c i : Nat) (zs : List Nat), cv = .int .i64 (c : Int) ∧ iv = .int .i64 (i : Int) ∧ Own .i64 wr W.heap.size 3 ov (l + i) zs ∧ Dig B16 zs ∧ c < m ∧ i ≤ la ∧ val B16 zs + c * B16 ^ (l + i) = m * B16 ^ l * val B16 (xs.take i) ∧ Below W.heap.size W wr

set_option maxHeartbeats 1000000 in
theorem shl_any (ao : Option Addr) (la ca n k : Nat) (K : Int) (W : World) (h : N16 W ao la n) (hK : K = (k : Int)) (hla : la ≤ 1000000000) (hk : k ≤ 1000000000) :
    Calls Tryz.prog 114 #[.slice ao la ca, .int .i64 K] W (Out16 W (2 ^ k * n)) := by
  subst hK
  obtain ⟨xs, hs, hd, ht, hv⟩ := h
  have HS := Lib.hid hs
  have HD := Lib.hid hd
  have HV := Lib.hid hv
  have HLX := Lib.hid hs.len
  obtain ⟨l, hl⟩ : ∃ l, l = k / 16 := ⟨_, rfl⟩
  obtain ⟨t, htt⟩ : ∃ t, t = k % 16 := ⟨_, rfl⟩
  have hpow := shl_pow (k := k)
  rw [← hl, ← htt] at hpow
  have HPOW := Lib.hid hpow
  have ht16 : t ≤ 16 := by omega
  have ht15 : t ≤ 15 := by omega
  have e1 : (k : Int) / 16 = (l : Int) := by omega
  have e2 : (k : Int) % 16 = (t : Int) := by omega
  have e3 : (k : Int).tmod 16 = (t : Int) := by rw [Int.tmod_eq_emod_of_nonneg (Int.natCast_nonneg _)]; exact e2
  have e4 : (k : Int).tdiv 16 = (l : Int) := by rw [Int.tdiv_eq_ediv_of_nonneg (Int.natCast_nonneg _)]; exact e1
  have hlk : l ≤ 1000000000 := by omega
  clear hs hd ht hv hl htt hpow
  obtain ⟨m, hm⟩ : ∃ m, m = 2 ^ t := ⟨_, rfl⟩
  have hm0 : 0 < m := by rw [hm]; exact Nat.pow_pos (by decide)
  have hm1 : m ≤ 32768 := by
    rw [hm]
    have := Nat.pow_le_pow_right (n := 2) (by decide) ht15
    simpa using this
  have HM := Lib.hid hm
  go_enter Tryz.func114, Tryz.ntmps114
  go_wp2_with (at_make; refine wpList_mk rfl _ 31 rfl 3 .i64 8 Tryz.underlying31 (by kernel_rfl) _ l rfl (by first | exact e1 | exact e4 | omega) (by omega) (by omega) ?_; intro w1 hB1 hb1 hz1)
  refine (power_any _ t _ (by first | rfl | exact e2 | exact e3) ht16).mono ?_
  rintro e w2 ⟨rfl, hw⟩
  obtain rfl : w1 = w2 := hw
  rw [← hm]
  clear hm
  have ho : Own .i64 w1 W.heap.size 3 (.slice (some ⟨W.heap.size, 0, none⟩) l l) l (List.replicate l 0) := by
    have := Own.fresh hB1 (Nat.le_refl W.heap.size) (by simp [maxLen]; omega)
    simpa using this
  have HO := Lib.hid ho
  clear ho
  go_wp2
  go_loopw [5, 6, 8] (fun ov cv iv wr => Shl16Rel la l m xs W ov cv iv wr) (fun ov cv iv _ => la - (intOf iv).toNat)
  case atStart => exact ⟨0, 0, List.replicate l 0, rfl, rfl, HO.out, Dig.replicate B16_pos _, hm0, by omega, by rw [val_replicate]; simp [val], hb1⟩
  case round =>
    obtain ⟨c, i, zs, rfl, rfl, hown, hd, hc, hi, hv, hbel⟩ := hrel
    have GO := Lib.hid hown
    have GD := Lib.hid hd
    have GV := Lib.hid hv
    have GW := Lib.hid hbel
    clear hown hd hv hbel
    by_cases hil : i < la
    · have t1 : (i : Int) < (la : Int) := by omega
      have t0 : (0 : Int) ≤ (i : Int) := by omega
      have hx := HD.out.get B16_pos i
      obtain ⟨x, hxe⟩ : ∃ x, x = xs[i]?.getD 0 := ⟨_, rfl⟩
      rw [← hxe] at hx
      rw [B16_eq] at hx
      obtain ⟨p, hp⟩ : ∃ p, p = x * m := ⟨_, rfl⟩
      have hp2 : (x : Int) * (m : Int) = (p : Int) := by rw [hp, Int.natCast_mul]
      have hpm : c + p < 65536 * m := by
        have : (x + 1) * m ≤ 65536 * m := Nat.mul_le_mul_right _ hx
        rw [Nat.add_mul, Nat.one_mul, ← hp] at this
        omega
      have hcm : (c + p) / 65536 < m := Nat.div_lt_of_lt_mul hpm
      have HP := Lib.hid hp
      clear hp
      obtain ⟨hxl, b, off, h0, hcc⟩ := HS.out.keep GW.out
      obtain rfl := h0 (by omega)
      have hci := hcc i (by omega)
      rw [← hxe] at hci
      have HX := Lib.hid hxe
      have HCM := Lib.hid hcm
      clear hxe hxl h0 hcc hcm
      go_wp2_with (at_builtin; refine wpList_app rfl _ _ 31 rfl W.heap.size 3 .i64 8 Tryz.underlying31 (by kernel_rfl) _ (l + i) zs rfl GO.out _ ((c + p) % 65536) rfl (by omega) (by omega) (by omega) GW.out.size ?_; intro v' w2 hown' hbel')
      go_roundw
      case rel => exact ⟨(c + p) / 65536, i + 1, zs ++ [(c + p) % 65536], congrArg (Value.int _) (by omega), by go_num, hown', GD.out.append (Dig.cons (Nat.mod_lt _ B16_pos) (Dig.nil _)), HCM.out, by omega, shl16_step GO.out.len HX.out HP.out GV.out, GW.out.trans hbel'⟩
      case measure => simp only [intOf]; omega
    · have t1 : ¬ (i : Int) < (la : Int) := by omega
      have HE : Hid (i = la) := by show _ = _; omega
      go_wp2_with (at_builtin; refine wpList_app rfl _ _ 31 rfl W.heap.size 3 .i64 8 Tryz.underlying31 (by kernel_rfl) _ (l + i) zs rfl GO.out _ c rfl rfl (by omega) (by omega) GW.out.size ?_; intro v' w2 hown' hbel')
      obtain ⟨oo, cap, rfl, hlc, hcm, hsl⟩ := hown'.sl
      have HSL := Lib.hid hsl
      have HB2 := Lib.hid (GW.out.trans hbel')
      clear hsl hown' hbel'
      go_wp2_with fail
      refine (trim16_raw _ _ _ (zs ++ [c]) _ HSL.out hlc hcm).mono ?_
      rintro e w3 ⟨⟨ao', j, rfl, hj, ha', ht, hz⟩, hw⟩
      obtain rfl : w2 = w3 := hw
      have HT := Lib.hid ht
      have HZ := Lib.hid hz
      have HAA := Lib.hid ha'
      clear ht hz ha'
      go_wp2
      go_ret
      refine ⟨ao', j, cap, rfl, by omega, hcm, ⟨(zs ++ [c]).take j, trim_sl HSL.out hj HAA.out, (GD.out.append (Dig.cons (by rw [B16_eq]; omega) (Dig.nil _))).take _, HT.out, ?_⟩, HB2.out⟩
      rw [val_take_of_zeros HZ.out, val_snoc, GO.out.len, Nat.mul_comm, GV.out, HE.out, List.take_of_length_le (by rw [HLX.out]; exact Nat.le_refl _), HV.out, HM.out, HPOW.out]
end Go.Proofs.YtcgnmihabkgecaaGreat

/- The specification's shr by one. -/
set_option linter.unusedVariables false
namespace Go.Proofs.YtcgnmihabkgecaaGreat
open Go.RowKit

theorem shr16_step {xs zs : List Nat} {i x y r : Nat} (hl : zs.length = i) (hx : x = xs[i]?.getD 0) (hy : y = xs[i + 1]?.getD 0) (h : 2 * val B16 zs + r = val B16 (xs.take i) + B16 ^ i * (xs[i]?.getD 0 % 2)) :
    2 * val B16 (zs ++ [x / 2 + y % 2 * 32768]) + r = val B16 (xs.take (i + 1)) + B16 ^ (i + 1) * (xs[i + 1]?.getD 0 % 2) := by
  rw [val_snoc, hl, val_take_succ, ← hx, ← hy, Nat.mul_comm (B16 ^ i), Nat.mul_comm (B16 ^ i) x]
  rw [← hx] at h
  exact shr_num (by rw [B16_eq]) h

/-- 'append(s, x)' of one element, s the call's own, at a step of a region that draws its order -/
theorem step_app {P : Program} {w : World} {ops : Array Oper} {o : Oper} {a : Act} {K : Act → World → Prop} {Q : Exit → Act → World → Prop} {E : Prop} (hgd : o.guard = none) (s x : Operand) (t : TypeId)
    (ho : o.op = .call { callee := .builtin .append, args := #[s, x], argTypes := #[t, t] }) (base e : Nat) (k : IntKind) (bytes : Nat)
    (h1 : P.underlying t = some (.slice e)) (h2 : (P.info? e).map (fun i => (i.zero, i.size, i.bytes)) = some (some (.int k 0), 1, bytes))
    (v : Value) (n : Nat) (xs : List Nat) (hs : a.eval s = v) (hown : Own k w base e v n xs) (V : Int) (xx : Nat) (hx : a.eval x = .slice (some ⟨w.heap.size, 0, none⟩) 1 1) (hV : V = (xx : Int))
    (hn : n ≤ 9000000000000) (hby : bytes ≤ 8) (hbase : base ≤ w.heap.size)
    (h : ∀ v' w', Own k w' base e v' (n + 1) (xs ++ [xx]) → Below base w w' → K (a.put o.dst v') w') :
    if Region.wanted o (yielded ops a.tmps) = true then Oper.wp P o a (w.alloc (.cells #[.int k V] e)) K Q else E := by
  subst hV
  obtain ⟨i0, hi, hz0, hz1, hz2⟩ := info_parts h2
  have hown' : (w.alloc (.cells #[.int k (xx : Int)] e)).ownsRow base e 1 v n (xs.map fun z => Value.int k ((z : Nat) : Int)) := World.ownsRow.alloc hown _
  have hb : (n + 1) * bytes ≤ 140737488355328 := by
    have : (n + 1) * bytes ≤ (n + 1) * 8 := Nat.mul_le_mul_left _ hby
    omega
  refine step_append_lies _ hgd s x t ho base e i0 (.int k 0) 1 bytes h1 hi hz0 hz1 hz2 rfl (by decide) v n _ hs hown' ⟨w.heap.size, 0, none⟩ 1 1 [.int k (xx : Int)] hx rfl ?_ ?_ (by omega) (by unfold maxLen; omega) hb (by simp; omega) (w.heap.size + 1) (by simp) ?_
  · intro j u hj
    match j, hj with
    | 0, hj => simp at hj; subst hj; simp [Addr.add]
  · intro u hu; simp at hu; subst hu; rfl
  · intro g cap w' hr hg _ _
    refine h _ w' ?_ ?_
    · unfold Own
      rw [List.map_append]
      exact hr
    · exact ((Below.refl base w).alloc hbase _).grown hg (by simp; omega) hown.ge

def Shr16Rel (la r : Nat) (xs : List Nat) (W : World) (ov iv : Value) (wr : World) : Prop :=
  ∃ (i : Nat) (zs : List Nat), iv = .int .i64 (i : Int) ∧ Own .i64 wr W.heap.size 3 ov i zs ∧ Dig B16 zs ∧ i ≤ la ∧ 2 * val B16 zs + r = val B16 (xs.take i) + B16 ^ i * (xs[i]?.getD 0 % 2) ∧ Below W.heap.size W wr

set_option maxRecDepth 8000 in
set_option maxHeartbeats 400000 in
theorem shr1_any (ao : Option Addr) (la ca n : Nat) (W : World) (h : N16 W ao la n) (hla : la ≤ 1000000000) :
    Calls Tryz.prog 111 #[.slice ao la ca, .int .i64 1] W (Out16 W (n / 2)) := by
  obtain ⟨xs, hs, hd, ht, hv⟩ := h
  have HS := Lib.hid hs
  have HD := Lib.hid hd
  have HV := Lib.hid hv
  have HLX := Lib.hid hs.len
  obtain ⟨r, hr⟩ : ∃ r, r = xs[0]?.getD 0 % 2 := ⟨_, rfl⟩
  have hr2 : r < 2 := by omega
  have HR := Lib.hid hr
  clear hs hd ht hv hr
  go_enter Tryz.func111, Tryz.ntmps111
  go_wp2_with fail
  refine (power_any 1 1 _ rfl (by omega)).mono ?_
  rintro e w2 ⟨rfl, hw⟩
  obtain rfl : W = w2 := hw
  have e2 : ((2 ^ 1 : Nat) : Int) = 2 := rfl
  rw [e2]
  clear e2
  go_wp2
  go_loopw [5, 7] (fun ov iv wr => Shr16Rel la r xs W ov iv wr) (fun ov iv _ => la - (intOf iv).toNat)
  case atStart => exact ⟨0, [], rfl, Own.nil _ _ _ _, Dig.nil _, by omega, by rw [HR.out]; simp [val], Below.refl _ _⟩
  case round =>
    obtain ⟨i, zs, rfl, hown, hd, hi, hv, hbel⟩ := hrel
    have GO := Lib.hid hown
    have GD := Lib.hid hd
    have GV := Lib.hid hv
    have GW := Lib.hid hbel
    clear hown hd hv hbel
    by_cases hil : i < la
    · have t1 : (i : Int) < (la : Int) := by omega
      have t0 : (0 : Int) ≤ (i : Int) := by omega
      have hx := HD.out.get B16_pos i
      have hy := HD.out.get B16_pos (i + 1)
      obtain ⟨x, hxe⟩ : ∃ x, x = xs[i]?.getD 0 := ⟨_, rfl⟩
      obtain ⟨y, hye⟩ : ∃ y, y = xs[i + 1]?.getD 0 := ⟨_, rfl⟩
      rw [← hxe] at hx
      rw [← hye] at hy
      rw [B16_eq] at hx hy
      have HSr := Lib.hid (HS.out.keep GW.out)
      obtain ⟨hxl, b, off, h0, hcc⟩ := HS.out.keep GW.out
      obtain rfl := h0 (by omega)
      have hci := hcc i (by omega)
      rw [← hxe] at hci
      have HX := Lib.hid hxe
      have HY := Lib.hid hye
      have hdg : x / 2 + y % 2 * 32768 < 65536 := by omega
      clear hxe hye hxl h0 hcc
      have hcW : W.cell? ⟨b, off + i, none⟩ = some (.int .i64 (x : Int)) := by
        obtain ⟨_, b', off', h0', hcc'⟩ := HS.out
        cases h0' (by omega)
        have := hcc' i (by omega)
        rw [← HX.out] at this
        exact this
      have hV : IntKind.i64.wrap (IntKind.i64.wrap ((x : Int) / 2) + IntKind.i64.wrap ((y : Int).tmod 2 * IntKind.i64.wrap 32768)) = ((x / 2 + y % 2 * 32768 : Nat) : Int) := by
        have v1 : (y : Int).tmod 2 = ((y % 2 : Nat) : Int) := (Int.ofNat_tmod _ _).symm
        have v2 : IntKind.i64.wrap 32768 = 32768 := IntWalk.i64_in _ (by omega)
        have v3 : IntKind.i64.wrap ((x : Int) / 2) = (x : Int) / 2 := IntWalk.i64_in _ (by omega)
        have v4 : IntKind.i64.wrap (((y % 2 : Nat) : Int) * 32768) = ((y % 2 : Nat) : Int) * 32768 := IntWalk.i64_in _ (by omega)
        rw [v1, v2, v3, v4, IntWalk.i64_in _ (by omega)]
        omega
      have hw1 : IntKind.i64.wrap ((i : Int) + 1) = ((i + 1 : Nat) : Int) := (IntWalk.i64_in _ (by omega)).trans (by omega)
      go_upto_region 6 with fail
      go_region_held_law (fun w' => w'.cell? ⟨b, off + i, none⟩ = some (.int .i64 (x : Int))) (first | (exact cell_later (GW.out.drew.trans hbel') hcW) | go_keep | assumption)
        (first | ((try go_simp); go_at_call 109; refine (at_any _ _ _ xs _ (i + 1) wr.drew (HSr.out.keep (Below.refl _ _).drew) (by first | exact hw1 | rfl)).mono ?_; rw [← HY.out]; rintro e w5 ⟨he, hw⟩; subst he; subst hw) | (refine step_app (by rfl) _ _ 31 (by rfl) W.heap.size 3 .i64 8 Tryz.underlying31 (by kernel_rfl) _ i zs (by rfl) (GO.out.later (Below.refl _ _).drew) _ (x / 2 + y % 2 * 32768) (by rfl) (by first | exact hV | omega) (by omega) (by omega) (show W.heap.size ≤ wr.drew.heap.size from GW.out.size) ?_; intro v' w2 hown' hbel'))
      go_wp2
      go_roundw
      case rel => exact ⟨i + 1, zs ++ [x / 2 + y % 2 * 32768], by go_num, hown', GD.out.append (Dig.cons (by rw [B16_eq]; exact hdg) (Dig.nil _)), by omega, shr16_step GO.out.len HX.out HY.out GV.out, GW.out.drew.trans hbel'⟩
      case measure => simp only [intOf]; omega
    · have t1 : ¬ (i : Int) < (la : Int) := by omega
      have HE : Hid (i = la) := by show _ = _; omega
      obtain ⟨oo, cap, rfl, hlc, hcm, hsl⟩ := GO.out.sl
      have HSL := Lib.hid hsl
      clear hsl
      go_wp2_with fail
      refine (trim16_raw _ _ _ zs _ HSL.out hlc hcm).mono ?_
      rintro e w3 ⟨⟨ao', j, rfl, hj, ha', ht, hz⟩, hw⟩
      obtain rfl : wr = w3 := hw
      have HT := Lib.hid ht
      have HZ := Lib.hid hz
      have HAA := Lib.hid ha'
      clear ht hz ha'
      go_wp2
      go_ret
      refine ⟨ao', j, cap, rfl, by omega, hcm, ⟨zs.take j, trim_sl HSL.out hj HAA.out, GD.out.take _, HT.out, ?_⟩, GW.out⟩
      have hfin := GV.out
      rw [HE.out, List.take_of_length_le (by rw [HLX.out]; exact Nat.le_refl _), HV.out, List.getElem?_eq_none (by rw [HLX.out]; exact Nat.le_refl _)] at hfin
      rw [val_take_of_zeros HZ.out]
      simp at hfin
      omega
end Go.Proofs.YtcgnmihabkgecaaGreat
