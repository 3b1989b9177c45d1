/- Part 17 of the contracts: RatG, QuoAny, PlanD, BackF, RefDiv, DivL, RatsF. -/
import Derived.Deep.Cut
import Derived.Test.YtbihgllfllkkaaaGreatPart16

/- Sub of fractions. -/
set_option linter.unusedVariables false
namespace Go.Proofs.YtbihgllfllkkaaaGreat
open Go.RowKit Go.Proofs

set_option maxRecDepth 4000 in
set_option maxHeartbeats 2000000 in
theorem ratSub_any (na nc : Bool) (ao bo co d_o : Option Addr) (la lb lc ld ca cb cc cd : Nat) (p r : Int) (q s : Nat) (W : World) (hf0 : Q32 W na ao la bo lb p q) (hg0 : Q32 W nc co lc d_o ld r s) (hla : la ≤ 100000) (hlb : lb ≤ 100000) (hlc : lc ≤ 100000) (hld : ld ≤ 100000) :
    Calls Tryz.prog 33 #[.agg #[.bool na, .slice ao la ca, .slice bo lb cb], .agg #[.bool nc, .slice co lc cc, .slice d_o ld cd]] W (OutTQ W (lowP (p * (s : Int) - r * (q : Int)) ((q : Int) * (s : Int))) (lowQ (p * (s : Int) - r * (q : Int)) ((q : Int) * (s : Int)))) := by
  have hf : Fr W (((W.alloc (.cells #[.bool na, .slice ao la ca, .slice bo lb cb] 35)).alloc (.cells #[.bool nc, .slice co lc cc, .slice d_o ld cd] 35)).alloc (.cells #[.bool false, .slice none 0 0, .slice none 0 0] 35)) [(35, #[.bool na, .slice ao la ca, .slice bo lb cb]), (35, #[.bool nc, .slice co lc cc, .slice d_o ld cd]), (35, #[.bool false, .slice none 0 0, .slice none 0 0])] := (((Fr.nil W).alloc rfl _ _).alloc (by simp) _ _).alloc (by simp) _ _
  have he : p * (s : Int) + -r * (q : Int) = p * (s : Int) - r * (q : Int) := by rw [Int.neg_mul, Int.sub_eq_add_neg]
  have HE := Lib.hid he
  clear he
  have HF := Lib.hid hf
  have HF_0 := Lib.hid (hf0.keep hf.below)
  have HG_0 := Lib.hid (hg0.keep hf.below)
  clear hf hf0 hg0
  go_enter Tryz.func33, Tryz.ntmps33
  go_wp2_with fail
  obtain ⟨V, hV⟩ : ∃ V, V = (((W.alloc (.cells #[.bool na, .slice ao la ca, .slice bo lb cb] 35)).alloc (.cells #[.bool nc, .slice co lc cc, .slice d_o ld cd] 35)).alloc (.cells #[.bool false, .slice none 0 0, .slice none 0 0] 35)) := ⟨_, rfl⟩
  rw [← hV] at HF HF_0 HG_0 ⊢
  clear hV
  have qq0 : V.cell? ⟨W.heap.size, 0, none⟩ = some (.bool na) := HF.out.cell 0 0 rfl rfl
  have qq1 : V.cell? ⟨W.heap.size, 1, none⟩ = some (.slice ao la ca) := HF.out.cell 0 1 rfl rfl
  have qq2 : V.cell? ⟨W.heap.size, 2, none⟩ = some (.slice bo lb cb) := HF.out.cell 0 2 rfl rfl
  have qq3 : V.cell? ⟨W.heap.size + 1, 0, none⟩ = some (.bool nc) := HF.out.cell 1 0 rfl rfl
  have qq4 : V.cell? ⟨W.heap.size + 1, 1, none⟩ = some (.slice co lc cc) := HF.out.cell 1 1 rfl rfl
  have qq5 : V.cell? ⟨W.heap.size + 1, 2, none⟩ = some (.slice d_o ld cd) := HF.out.cell 1 2 rfl rfl
  go_region_held3 (fun w' => w'.cell? ⟨W.heap.size, 0, none⟩ = some (.bool na) ∧ w'.cell? ⟨W.heap.size, 1, none⟩ = some (.slice ao la ca) ∧ w'.cell? ⟨W.heap.size, 2, none⟩ = some (.slice bo lb cb) ∧ w'.cell? ⟨W.heap.size + 1, 0, none⟩ = some (.bool nc) ∧ w'.cell? ⟨W.heap.size + 1, 1, none⟩ = some (.slice co lc cc) ∧ w'.cell? ⟨W.heap.size + 1, 2, none⟩ = some (.slice d_o ld cd)) (first | (go_keep; done) | ((try dsimp only); (repeat' apply And.intro) <;> (first | (go_keep; done) | (rw [cell_set3 _ _ _ _ _ _ _ (by omega)]; assumption) | (rw [cell_set2 _ _ _ _ _ _ (by omega)]; assumption))))
    (first | (go_at_call 32; refine ((ratAdd_any _ _ _ _ _ _ _ _ _ _ _ _ _ _ p (-r) q s _ HFs0.out HN0.out (by omega) (by omega) (by omega) (by omega)).mono fun e w h => (show OutTQ _ (lowP (p * (s : Int) - r * (q : Int)) ((q : Int) * (s : Int))) (lowQ (p * (s : Int) - r * (q : Int)) ((q : Int) * (s : Int))) e w from HE.out ▸ h)).mono ?_; rintro e sw1 ⟨n8, o8, l8, c8, u8, m8, d8, e8, P8, Q8, rfl, hl8, hm8, hz, hb, ht⟩; have hbb := hb; have FPs1 := Lib.hid (FPs0.out.later hbb); have HFs1 := Lib.hid (HFs0.out.keep hbb); have HGs1 := Lib.hid (HGs0.out.keep hbb); have HNs1 := Lib.hid (HN0.out.keep hbb); have HZ0 := Lib.hid hz; have HT := Lib.hid ht; clear hz ht; clear hb hbb; have s1c0 : sw1.cell? ⟨W.heap.size, 0, none⟩ = some (.bool na) := FPs1.out.cell 0 0 rfl rfl; have s1c1 : sw1.cell? ⟨W.heap.size, 1, none⟩ = some (.slice ao la ca) := FPs1.out.cell 0 1 rfl rfl; have s1c2 : sw1.cell? ⟨W.heap.size, 2, none⟩ = some (.slice bo lb cb) := FPs1.out.cell 0 2 rfl rfl; have s1c3 : sw1.cell? ⟨W.heap.size + 1, 0, none⟩ = some (.bool nc) := FPs1.out.cell 1 0 rfl rfl; have s1c4 : sw1.cell? ⟨W.heap.size + 1, 1, none⟩ = some (.slice co lc cc) := FPs1.out.cell 1 1 rfl rfl; have s1c5 : sw1.cell? ⟨W.heap.size + 1, 2, none⟩ = some (.slice d_o ld cd) := FPs1.out.cell 1 2 rfl rfl; have sz0 : sw1.cell? ⟨W.heap.size + 2, 0, none⟩ = some (.bool false) := FPs1.out.cell 2 0 rfl rfl; have sz1 : sw1.cell? ⟨W.heap.size + 2, 1, none⟩ = some (.slice none 0 0) := FPs1.out.cell 2 1 rfl rfl; have sz2 : sw1.cell? ⟨W.heap.size + 2, 2, none⟩ = some (.slice none 0 0) := FPs1.out.cell 2 2 rfl rfl; have szf0 : sw1.frozen? ⟨W.heap.size + 2, 0, none⟩ = false := FPs1.out.frozen 2 0 rfl; have szf1 : sw1.frozen? ⟨W.heap.size + 2, 1, none⟩ = false := FPs1.out.frozen 2 1 rfl; have szf2 : sw1.frozen? ⟨W.heap.size + 2, 2, none⟩ = false := FPs1.out.frozen 2 2 rfl) | (go_at_call 25; refine (ratNeg_any _ _ _ _ _ _ _ r s V.drew (HG_0.out.keep (Below.refl _ _).drew) (by omega) (by omega)).mono ?_; rintro e sw0 ⟨n1, o1, l1, c1, u1, m1, d1, rfl, hl1, hm1, hz, hb⟩; have hbb := below_of_drew hb; have FPs0 := Lib.hid (HF.out.later hbb); have HFs0 := Lib.hid (HF_0.out.keep hbb); have HGs0 := Lib.hid (HG_0.out.keep hbb); have HN0 := Lib.hid hz; clear hz; clear hb hbb; have s0c0 : sw0.cell? ⟨W.heap.size, 0, none⟩ = some (.bool na) := FPs0.out.cell 0 0 rfl rfl; have s0c1 : sw0.cell? ⟨W.heap.size, 1, none⟩ = some (.slice ao la ca) := FPs0.out.cell 0 1 rfl rfl; have s0c2 : sw0.cell? ⟨W.heap.size, 2, none⟩ = some (.slice bo lb cb) := FPs0.out.cell 0 2 rfl rfl; have s0c3 : sw0.cell? ⟨W.heap.size + 1, 0, none⟩ = some (.bool nc) := FPs0.out.cell 1 0 rfl rfl; have s0c4 : sw0.cell? ⟨W.heap.size + 1, 1, none⟩ = some (.slice co lc cc) := FPs0.out.cell 1 1 rfl rfl; have s0c5 : sw0.cell? ⟨W.heap.size + 1, 2, none⟩ = some (.slice d_o ld cd) := FPs0.out.cell 1 2 rfl rfl))
  go_wp2
  obtain ⟨e0, e1, e2, hq, hbel⟩ := FPs1.out.finQ (cap := c8) (bc := d8) 2 rfl HZ0.out
  exact bodyPost_ret (v := .tuple #[.agg #[.bool n8, .slice o8 l8 c8, .slice u8 m8 d8], .int .i64 e8]) (by simp [results, Tryz.results33, go_sem, e0, e1, e2]) rfl ⟨n8, o8, l8, c8, u8, m8, d8, e8, P8, Q8, rfl, hl8, hm8, hq, hbel, HT.out⟩
end Go.Proofs.YtbihgllfllkkaaaGreat

/- Facts for the laws of fractions. -/
set_option linter.unusedVariables false
namespace Go.Proofs.YtbihgllfllkkaaaGreat
open Go.RowKit Go.Proofs

def HalfOut2 (W : World) (Y : Int) (e : Ending) (w' : World) : Prop :=
  ∃ na ao la ca bo lb cb s1 o1 l1 c1 s2 o2 l2 c2 P Q ok, e = .returned (.tuple #[.agg #[.bool na, .slice ao la ca, .slice bo lb cb], .agg #[.bool s1, .slice o1 l1 c1, .bool s2, .slice o2 l2 c2], .bool ok]) ∧ la ≤ 512 ∧ lb ≤ 512 ∧ Q32 w' na ao la bo lb P Q ∧
    (ok = true → l1 ≤ 1024 ∧ l2 ≤ 1024 ∧ Z16 w' s1 o1 l1 P ∧ Z16 w' s2 o2 l2 (Q : Int)) ∧ Below W.heap.size W w'

theorem HalfOut.two {X Y : Int} {W w' : World} {e : Ending} (h : HalfOut X Y W e w') : HalfOut2 W Y e w' := by
  obtain ⟨na, ao, la, ca, bo, lb, cb, s1, o1, l1, c1, s2, o2, l2, c2, P, Q, rfl, h1, h2, h3, h4, h5⟩ := h
  exact ⟨na, ao, la, ca, bo, lb, cb, s1, o1, l1, c1, s2, o2, l2, c2, P, Q, _, rfl, h1, h2, h3, fun h => ⟨(h4 (of_decide_eq_true h)).2.2.1, (h4 (of_decide_eq_true h)).2.2.2.1, (h4 (of_decide_eq_true h)).2.2.2.2.1, (h4 (of_decide_eq_true h)).2.2.2.2.2⟩, h5⟩

def OutTQ0 (W : World) (p : Int) (q : Nat) (r : Int) (e : Ending) (w' : World) : Prop :=
  ∃ na ao la ca bo lb cb er P Q, e = .returned (.tuple #[.agg #[.bool na, .slice ao la ca, .slice bo lb cb], .int .i64 er]) ∧ la ≤ 512 ∧ lb ≤ 512 ∧ Q32 w' na ao la bo lb P Q ∧ Below W.heap.size W w' ∧ (r ≠ 0 → ToldQ p q er P Q) ∧ (r = 0 → er = 10 ∧ P = 0 ∧ Q = 1)

theorem ratQuo_all (na nc : Bool) (ao bo co d_o : Option Addr) (la lb lc ld ca cb cc cd : Nat) (p r : Int) (q s : Nat) (W : World) (hf0 : Q32 W na ao la bo lb p q) (hg0 : Q32 W nc co lc d_o ld r s) (hla : la ≤ 100000) (hlb : lb ≤ 100000) (hlc : lc ≤ 100000) (hld : ld ≤ 100000) :
    Calls Tryz.prog 35 #[.agg #[.bool na, .slice ao la ca, .slice bo lb cb], .agg #[.bool nc, .slice co lc cc, .slice d_o ld cd]] W (OutTQ0 W (lowP (p * (s : Int)) ((q : Int) * r)) (lowQ (p * (s : Int)) ((q : Int) * r)) r) := by
  by_cases hr : r = 0
  · subst hr
    refine (ratQuo_zero na nc ao bo co d_o la lb lc ld ca cb cc cd s W hg0).mono fun e w h => ?_
    exact ⟨false, none, 0, 0, none, 0, 0, 10, 0, 1, h.1, by omega, by omega, ⟨Z32.nil _, .inl ⟨rfl, rfl⟩⟩, h.2, fun h => absurd rfl h, fun _ => ⟨rfl, rfl, rfl⟩⟩
  · refine (ratQuo_any na nc ao bo co d_o la lb lc ld ca cb cc cd p r q s W hf0 hg0 hla hlb hlc hld hr).mono fun e w h => ?_
    obtain ⟨n, o, l, c, b, m, d, er, P, Q, rfl, h1, h2, h3, h4, h5⟩ := h
    exact ⟨n, o, l, c, b, m, d, er, P, Q, rfl, h1, h2, h3, h4, fun _ => h5, fun h => absurd h hr⟩
end Go.Proofs.YtbihgllfllkkaaaGreat

/- The region of NumRats that makes a block. -/
set_option linter.unusedVariables false
set_option linter.unusedSimpArgs false
namespace Go.Proofs.YtbihgllfllkkaaaGreat
open Go.RowKit Go.Proofs

def rats_regionS : Shape where
  f := fun i => match i with | 0 => 50 | 1 => 51 | 2 => 52 | 3 => 53 | 4 => 54 | 5 => 55 | 6 => 13 | _ => 0
  kd := fun i => match i with | 6 => .box 43 #[.bool false, .slice none 0 0, .bool false, .slice none 0 0] | 7 => .put 6 5 | _ => .val
  need := fun i => match i with | 1 => [0] | 2 => [1] | 4 => [3] | 5 => [2, 4] | 7 => [6, 5] | _ => []
  st := fun i => match i with | 6 => 7 | _ => 0
  src := fun i => match i with | 6 => 5 | _ => 0

set_option maxRecDepth 4000 in
set_option maxHeartbeats 2000000 in
/-- the negated fraction of the specification -/
theorem rats_region {Q : Exit → Act → World → Prop} {id : Nat} {a0 : Act} {W : World} {o0 o1 o2 o3 o4 o5 o6 o7 : Oper} (ga gb : Bool) (oa ob : Option Addr) (la_ ka lb_ kb : Nat) (p q : Int) (gG : Nat) (ts2 : Array TypeId)
    (hok : rats_regionS.ok #[o0, o1, o2, o3, o4, o5, o6, o7] a0.tmps.size = true)
    (h0 : o0.op = .fieldAddr 43 (.tmp 12) 0) (h1 : o1.op = .load 27 (.tmp 50)) (h2 : o2.op = .call { callee := .value (.func 18), args := #[.tmp 51], argTypes := ts2 }) (h3 : o3.op = .fieldAddr 43 (.tmp 12) 1) (h4 : o4.op = .load 27 (.tmp 53)) (h5 : o5.op = .build 43 #[(0, .tmp 52), (1, .tmp 54)]) (h6 : o6.op = .alloc 43) (h7 : o7.op = .store 43 (.tmp 13) (.tmp 55))
    (hrG : a0.eval (.tmp 12) = .pointer (some ⟨gG, 0, none⟩)) (hgG : gG < W.heap.size) (cG_0 : W.cell? ⟨gG, 0, none⟩ = some (.bool ga)) (cG_1 : W.cell? ⟨gG, 1, none⟩ = some (.slice oa la_ ka)) (cG_2 : W.cell? ⟨gG, 2, none⟩ = some (.bool gb)) (cG_3 : W.cell? ⟨gG, 3, none⟩ = some (.slice ob lb_ kb))
    (h1_ : Z16 W ga oa la_ p) (h2_ : Z16 W gb ob lb_ q) (hc1 : la_ ≤ ka) (hm1 : ka ≤ 9223372036854775807) (hc2 : lb_ ≤ kb) (hm2 : kb ≤ 9223372036854775807)
    (hend : ∀ w b6 n5 o5 l5 c5 n25 o25 l25 c25 d2, Below W.heap.size W w → W.heap.size ≤ b6 → Box w b6 43 #[.bool n5, .slice o5 l5 c5, .bool n25, .slice o25 l25 c25] → l5 ≤ c5 → c5 ≤ 9223372036854775807 → l25 ≤ c25 → c25 ≤ 9223372036854775807 → Z16 w n5 o5 l5 (-p) → Z16 w n25 o25 l25 (q) → 
      Q .normal (puts a0 [(50, .pointer (some ⟨gG, 0, none⟩)), (51, .agg #[.bool ga, .slice oa la_ ka]), (52, d2), (53, .pointer (some ⟨gG, 2, none⟩)), (54, .agg #[.bool gb, .slice ob lb_ kb]), (55, .agg #[.bool n5, .slice o5 l5 c5, .bool n25, .slice o25 l25 c25]), (13, .pointer (some ⟨b6, 0, none⟩))]) w) :
    (Code.region id #[o0, o1, o2, o3, o4, o5, o6, o7] true).wp Tryz.prog Q a0 W := by
  refine Shape.region rats_regionS (fun i v w => (fun (v : Value) => (match i with | 0 => v = .pointer (some ⟨gG, 0, none⟩) | 1 => v = .agg #[.bool ga, .slice oa la_ ka] | 2 => IsJ (-p) v w | 3 => v = .pointer (some ⟨gG, 2, none⟩) | 4 => v = .agg #[.bool gb, .slice ob lb_ kb] | 5 => IsK (-p) (q) v w | _ => True : Prop)) (v i)) (by kernel_rfl) hok
    (fun i v v' w _ hj hΦ => by rw [← hj i (.inl rfl)]; exact hΦ) ?stab ?val ?box ?put rfl ?fin
  case stab =>
    intro i v hi
    match i with
    | 0 => exact Stable.const _ _
    | 1 => exact Stable.const _ _
    | 2 => exact Stable.isJ _ _ _
    | 3 => exact Stable.const _ _
    | 4 => exact Stable.const _ _
    | 5 => exact Stable.isK _ _ _ _
    | 6 => exact Stable.const _ _
    | 7 => exact Stable.const _ _
    | i + 8 => exact Stable.const _ _
  case val =>
    intro i o ho hv a w hA hb hz hn K' hK
    have hw := below_undrew hb
    have erG : a.eval (.tmp 12) = .pointer (some ⟨gG, 0, none⟩) := (hA.eval (show 12 ∉ rats_regionS.slots 8 by decide)).trans hrG
    have kG_0 := (hb.cell (p := ⟨gG, 0, none⟩) hgG).trans cG_0
    have kG_1 := (hb.cell (p := ⟨gG, 1, none⟩) hgG).trans cG_1
    have kG_2 := (hb.cell (p := ⟨gG, 2, none⟩) hgG).trans cG_2
    have kG_3 := (hb.cell (p := ⟨gG, 3, none⟩) hgG).trans cG_3
    match i, ho, hv with
    | 0, ho, _ =>
      have ho' : o0 = o := by simpa using ho
      subst ho'
      refine wp_value (v := .pointer (some ⟨gG, 0, none⟩)) (w' := w) ?_ (hK _ _ (Below.refl _ _) (by simp [upd]))
      unfold execOp
      rw [h0]
      dsimp only
      rw [erG]
      simp [go_sem]
    | 1, ho, _ =>
      have ho' : o1 = o := by simpa using ho
      subst ho'
      have e : a.eval (.tmp 50) = .pointer (some ⟨gG, 0, none⟩) := hn 0 (by simp [rats_regionS]) rfl
      refine wp_value (v := .agg #[.bool ga, .slice oa la_ ka]) (w' := w) ?_ (hK _ _ (Below.refl _ _) (by simp [upd]))
      unfold execOp
      rw [h1]
      dsimp only
      rw [e]
      simp [go_sem, kG_0, kG_1, kG_2, kG_3]
    | 2, ho, _ =>
      have ho' : o2 = o := by simpa using ho
      subst ho'
      have e1 : a.eval (.tmp 51) = .agg #[.bool ga, .slice oa la_ ka] := hn 1 (by simp [rats_regionS]) rfl
      refine wp_call (run_call Tryz.func18 (by kernel_rfl) rfl h2 a w) ?_ (fun v w' hb' hφ => hK v w' hb' (by simpa [upd] using hφ))
      have em : Array.map a.eval #[Operand.tmp 51] = #[a.eval (.tmp 51)] := by first | (simp only [List.map_toArray, List.map_cons, List.map_nil]; done) | (simp only [List.map_toArray, List.map_cons, List.map_nil]; rfl) | rfl
      rw [em, e1]
      exact (opp16_any ga oa la_ ka p w (h1_.keep hw) hc1 hm1).mono fun e w h => h.is
    | 3, ho, _ =>
      have ho' : o3 = o := by simpa using ho
      subst ho'
      refine wp_value (v := .pointer (some ⟨gG, 2, none⟩)) (w' := w) ?_ (hK _ _ (Below.refl _ _) (by simp [upd]))
      unfold execOp
      rw [h3]
      dsimp only
      rw [erG]
      simp [go_sem]
    | 4, ho, _ =>
      have ho' : o4 = o := by simpa using ho
      subst ho'
      have e : a.eval (.tmp 53) = .pointer (some ⟨gG, 2, none⟩) := hn 3 (by simp [rats_regionS]) rfl
      refine wp_value (v := .agg #[.bool gb, .slice ob lb_ kb]) (w' := w) ?_ (hK _ _ (Below.refl _ _) (by simp [upd]))
      unfold execOp
      rw [h4]
      dsimp only
      rw [e]
      simp [go_sem, kG_0, kG_1, kG_2, kG_3]
    | 5, ho, _ =>
      have ho' : o5 = o := by simpa using ho
      subst ho'
      obtain ⟨n2, o2, l2, c2, e2, x2, z2, y2⟩ : IsJ (-p) (a.eval (.tmp 52)) w := hn 2 (by simp [rats_regionS]) rfl
      have e4 : a.eval (.tmp 54) = .agg #[.bool gb, .slice ob lb_ kb] := hn 4 (by simp [rats_regionS]) rfl
      refine wp_value (v := .agg #[.bool n2, .slice o2 l2 c2, .bool gb, .slice ob lb_ kb]) (w' := w) ?_ (hK _ _ (Below.refl _ _) (by simp only [upd, if_true]; exact ⟨n2, o2, l2, c2, gb, ob, lb_, kb, rfl, x2, z2, hc2, hm2, y2, h2_.keep hw⟩))
      unfold execOp
      rw [h5]
      dsimp only
      simp only [List.map_toArray, List.map_cons, List.map_nil, e2, e4]
      simp [go_sem]
    | 6, _, hv => cases hv
    | 7, _, hv => cases hv
    | i + 8, ho, _ => simp at ho
  case box =>
    intro i o T z ho hk a w
    match i, ho, hk with
    | 0, _, hk => cases hk
    | 1, _, hk => cases hk
    | 2, _, hk => cases hk
    | 3, _, hk => cases hk
    | 4, _, hk => cases hk
    | 5, _, hk => cases hk
    | 6, ho, hk =>
      have ho' : o6 = o := by simpa using ho
      subst ho'; cases hk; unfold execOp; rw [h6]; simp [go_sem]
    | 7, _, hk => cases hk
    | i + 8, ho, _ => simp at ho
  case put =>
    intro i o p' s' T z ho hk hp a w b hva hφ hbx
    match i, ho, hk with
    | 0, _, hk => cases hk
    | 1, _, hk => cases hk
    | 2, _, hk => cases hk
    | 3, _, hk => cases hk
    | 4, _, hk => cases hk
    | 5, _, hk => cases hk
    | 6, _, hk => cases hk
    | 7, ho, hk =>
      have ho' : o7 = o := by simpa using ho
      subst ho'; cases hk; cases hp
      obtain ⟨n5, o5, l5, c5, n25, o25, l25, c25, e5, x5, z5, x25, z25, y5, y25⟩ := hφ
      have q1 : a.eval (.tmp 55) = .agg #[.bool n5, .slice o5 l5 c5, .bool n25, .slice o25 l25 c25] := e5
      have q2 : a.eval (.tmp 13) = .pointer (some ⟨b, 0, none⟩) := hva
      have u0 := hbx.cell 0
      have f0 := hbx.frozen 0
      have u1 := hbx.cell 1
      have f1 := hbx.frozen 1
      have u2 := hbx.cell 2
      have f2 := hbx.frozen 2
      have u3 := hbx.cell 3
      have f3 := hbx.frozen 3
      refine ⟨[.bool n5, .slice o5 l5 c5, .bool n25, .slice o25 l25 c25], e5, rfl, by simp [isInt], ?_⟩
      unfold execOp; rw [h7]
      dsimp only
      rw [q1, q2]
      simp [go_sem, u0, f0, u1, f1, u2, f2, u3, f3, setFrom]
    | i + 8, ho, _ => simp at ho
  case fin =>
    intro a w blk hI
    have n8 : (#[o0, o1, o2, o3, o4, o5, o6, o7] : Array Oper).size = 8 := rfl
    rw [n8] at hI
    have hf := hI.agree.form
    have e0 : a.eval (.tmp 50) = .pointer (some ⟨gG, 0, none⟩) := hI.vals 0 (by decide) (by decide) rfl
    have e1 : a.eval (.tmp 51) = .agg #[.bool ga, .slice oa la_ ka] := hI.vals 1 (by decide) (by decide) rfl
    have e3 : a.eval (.tmp 53) = .pointer (some ⟨gG, 2, none⟩) := hI.vals 3 (by decide) (by decide) rfl
    have e4 : a.eval (.tmp 54) = .agg #[.bool gb, .slice ob lb_ kb] := hI.vals 4 (by decide) (by decide) rfl
    obtain ⟨n5, o5, l5, c5, n25, o25, l25, c25, e5, x5, z5, x25, z25, y5, y25⟩ : IsK (-p) (q) (a.eval (.tmp 55)) w := hI.vals 5 (by decide) (by decide) rfl
    obtain ⟨p6, r6, _, k6⟩ := hI.boxes 6 43 #[.bool false, .slice none 0 0, .bool false, .slice none 0 0] (by decide) (by decide) rfl
    obtain ⟨us6, i6, _, _, j6⟩ := k6 (show (7 : Nat) < 8 by decide)
    have y_6 : a.eval (.tmp 55) = .agg us6.toArray := i6
    rw [e5] at y_6
    cases y_6
    have e6 : a.eval (.tmp 13) = .pointer (some ⟨blk 6, 0, none⟩) := p6
    have hsl : rats_regionS.slots 8 = [50, 51, 52, 53, 54, 55, 13] := rfl
    rw [hsl] at hf
    simp only [List.map_cons, List.map_nil, e0, e1, e3, e4, e5, e6] at hf
    rw [hf]
    exact hend w (blk 6) n5 o5 l5 c5 n25 o25 l25 c25 _ (below_undrew hI.below) r6 j6 x5 z5 x25 z25 y5 y25
end Go.Proofs.YtbihgllfllkkaaaGreat

/- Facts for NumBack: Div by 0, Parse of a numeral. -/
set_option linter.unusedVariables false
namespace Go.Proofs.YtbihgllfllkkaaaGreat
open Go.RowKit Go.Proofs

def DivNone (W : World) (e : Ending) (w' : World) : Prop :=
  e = .returned (.tuple #[.agg #[.bool false, .slice none 0 0], .agg #[.bool false, .slice none 0 0], .int .i64 10]) ∧ Below W.heap.size W w'

set_option maxHeartbeats 1000000 in
theorem div_zero (na nb : Bool) (ao bo : Option Addr) (la ca cb : Nat) (W : World) :
    Calls Tryz.prog 55 #[.agg #[.bool na, .slice ao la ca], .agg #[.bool nb, .slice bo 0 cb]] W (DivNone W) := by
  have hf : Fr W ((((W.alloc (.cells #[.bool na, .slice ao la ca] 31)).alloc (.cells #[.bool nb, .slice bo 0 cb] 31)).alloc (.cells #[.bool false, .slice none 0 0] 31)).alloc (.cells #[.bool false, .slice none 0 0] 31))
      [(31, #[.bool na, .slice ao la ca]), (31, #[.bool nb, .slice bo 0 cb]), (31, #[.bool false, .slice none 0 0]), (31, #[.bool false, .slice none 0 0])] :=
    ((((Fr.nil W).alloc rfl _ _).alloc (by simp) _ _).alloc (by simp) _ _).alloc (by simp) _ _
  have HF := Lib.hid hf
  clear hf
  go_enter Tryz.func55, Tryz.ntmps55
  go_wp2
  exact bodyPost_ret (v := .tuple #[.agg #[.bool false, .slice none 0 0], .agg #[.bool false, .slice none 0 0], .int .i64 10]) (by simp [results, Tryz.results55, go_sem]) rfl ⟨rfl, HF.out.below⟩

theorem parse_back (x : Int) (W : World) (hf : Fits x) : Calls Tryz.prog 103 #[.string ⟨(numeralZ x).toArray⟩] W (OutE W x) := by
  obtain ⟨k, hk⟩ : ∃ k, k = 1024 := ⟨_, rfl⟩
  have hlt : x.natAbs < B32 ^ k := by
    have h2 : blen x.natAbs ≤ 32 * k := Nat.le_trans hf (by omega)
    rw [B32_pow]
    exact blen_le.1 h2
  have hnl := numeralZ_len hlt
  refine ((parse_any (numeralZ x) W (by omega)).mono fun e w h => h.one).mono ?_
  rintro e w ⟨na, po, la, ca, er, z', rfl, hz2, hb2, hx⟩
  rw [numZ_numeralZ] at hx
  rcases hx with ⟨h1, _⟩ | ⟨_, h2, _⟩ | ⟨_, h2, rfl, rfl⟩
  · rw [isNum_numeralZ] at h1; cases h1
  · exact absurd hf h2
  · exact ⟨na, po, la, ca, rfl, fits_len hz2 hf, hz2, hb2⟩

theorem bl_div {x y : Int} {k : Nat} (h : Bl k x) : Bl k (x / y) := by
  unfold Bl at *
  rw [blen_le] at *
  exact Nat.lt_of_le_of_lt (Int.natAbs_ediv_le_natAbs x y) h
theorem bl_mod {x y : Int} {k : Nat} (h : Bl k y) (hy : y ≠ 0) : Bl k (x % y) := by
  unfold Bl at *
  rw [blen_le] at *
  have h1 := Int.emod_nonneg x hy
  have h2 := Int.emod_lt x hy
  omega
theorem bl_back {x y : Int} {k : Nat} (hx : Bl k x) (hy : Bl k y) (h0 : y ≠ 0) : Bl (k + 1) (x / y * y) := by
  have e : x / y * y = x - x % y := by
    have := Int.ediv_mul_add_emod x y
    omega
  rw [e]
  exact hx.sub (bl_mod hy h0)

/-- stores into an own block without numbers leave an integer -/
theorem Z32.setFrom {w : World} {g T : Nat} {c : Array Value} {neg : Bool} {ao : Option Addr} {len : Nat} {z : Int} (h : Z32 w neg ao len z) (us : List Value) (hu : ∀ u ∈ us, isInt u = false) (hb : Box w g T c) (hc : noInts c = true) :
    Z32 (setFrom w g 0 us) neg ao len z := (Stable.z32 0 neg ao len z).setFrom (Nat.zero_le _) us hu w 0 c h hb hc
end Go.Proofs.YtbihgllfllkkaaaGreat

/- The specification's Div. -/
set_option linter.unusedVariables false
namespace Go.Proofs.YtbihgllfllkkaaaGreat
open Go.RowKit

def DivJ (x y : Int) (W : World) (e : Ending) (w' : World) : Prop :=
  ∃ s1 uo ul uc s2 vo vl vc, e = .returned (.tuple #[.agg #[.bool s1, .slice uo ul uc], .agg #[.bool s2, .slice vo vl vc]]) ∧ ul ≤ uc ∧ uc ≤ 9223372036854775807 ∧ vl ≤ vc ∧ vc ≤ 9223372036854775807 ∧ Z16 w' s1 uo ul (x / y) ∧ Z16 w' s2 vo vl (x % y) ∧ Below W.heap.size W w'

set_option maxRecDepth 4000 in
set_option maxHeartbeats 2000000 in
theorem divZ16_any (na nb : Bool) (ao bo : Option Addr) (la lb ca cb : Nat) (x y : Int) (W : World) (ha : Z16 W na ao la x) (hb : Z16 W nb bo lb y) (hla : la ≤ 10000000) (hlb : lb ≤ 10000000) (hy : y ≠ 0) :
    Calls Tryz.prog 66 #[.agg #[.bool na, .slice ao la ca], .agg #[.bool nb, .slice bo lb cb]] W (DivJ x y W) := by
  have hf : Fr W ((((W.alloc (.cells #[.bool na, .slice ao la ca] 27)).alloc (.cells #[.bool nb, .slice bo lb cb] 27)).alloc (.cells #[.bool false, .slice none 0 0] 27)).alloc (.cells #[.bool false, .slice none 0 0] 27))
      [(27, #[.bool na, .slice ao la ca]), (27, #[.bool nb, .slice bo lb cb]), (27, #[.bool false, .slice none 0 0]), (27, #[.bool false, .slice none 0 0])] :=
    ((((Fr.nil W).alloc rfl _ _).alloc (by simp) _ _).alloc (by simp) _ _).alloc (by simp) _ _
  have hlb0 : lb ≠ 0 := fun h => hy (hb.zero.2 h)
  obtain ⟨m, hm, rfl, hmn⟩ := ha
  obtain ⟨n, hn, rfl, hnn⟩ := hb
  have hn0 : n ≠ 0 := fun h => hlb0 (hn.zero.1 h)
  have HM := Lib.hid hm
  have HN := Lib.hid hn
  have HN0 := Lib.hid hn0
  clear hm hn hn0 hy hmn hnn
  go_enter Tryz.func66, Tryz.ntmps66
  go_wp2_with fail
  obtain ⟨W3, hW3⟩ : ∃ W3, W3 = (((W.alloc (.cells #[.bool na, .slice ao la ca] 27)).alloc (.cells #[.bool nb, .slice bo lb cb] 27)).alloc (.cells #[.bool false, .slice none 0 0] 27)).alloc (.cells #[.bool false, .slice none 0 0] 27) := ⟨_, rfl⟩
  rw [← hW3] at hf ⊢
  clear hW3
  have HF := Lib.hid hf
  clear hf
  refine (divMod_any _ _ _ _ _ _ m n _ (HM.out.keep HF.out.below) (HN.out.keep HF.out.below) (Nat.pos_of_ne_zero HN0.out) (by omega) (by omega)).mono ?_
  rintro e w1 ⟨qo, ql, qc, ro, rl, rc, rfl, hqlc, hqcm, hrlc, hrcm, hq1, hr1, hb1⟩
  have hql : ql ≤ 10000000 := Nat.le_trans (hq1.len_le (Nat.lt_of_le_of_lt (Nat.div_le_self _ _) HM.out.lt)) hla
  have hrl : rl ≤ 10000000 := Nat.le_trans (hr1.len_le (Nat.lt_trans (Nat.mod_lt _ (Nat.pos_of_ne_zero HN0.out)) HN.out.lt)) hlb
  have hrz := hr1.zero
  have HF1 := Lib.hid (HF.out.later hb1)
  have HQ := Lib.hid hq1
  have HR := Lib.hid hr1
  have HRZ := Lib.hid hrz
  clear hq1 hr1 hb1 hrz
  have c0 : w1.cell? ⟨W.heap.size, 0, none⟩ = some (.bool na) := HF1.out.cell 0 0 rfl rfl
  cases na with
  | false =>
    have HXQ := Lib.hid (div_cases false nb m n HN0.out (.inl rfl)).1
    have HXR := Lib.hid (div_cases false nb m n HN0.out (.inl rfl)).2
    have e0 : w1.cell? ⟨W.heap.size, 0, none⟩ = some (.bool false) := HF1.out.cell 0 0 rfl rfl
    have e1 : w1.cell? ⟨W.heap.size + 1, 0, none⟩ = some (.bool nb) := HF1.out.cell 1 0 rfl rfl
    go_wp2_with fail
    refine (made_any _ _ _ _ _ _ HQ.out hqlc hqcm).mono ?_
    rintro e w5 ⟨s1, uo, ul, uc, rfl, huc, hum, hz5, hb5⟩
    have HF5 := Lib.hid (HF1.out.later hb5)
    have HZ5 := Lib.hid hz5
    have HR5 := Lib.hid (HR.out.keep hb5)
    clear hz5 hb5
    go_wp2_with fail
    refine (made_any _ _ _ _ _ _ HR5.out hrlc hrcm).mono ?_
    rintro e w6 ⟨s2, vo, vl, vc, rfl, hvc, hvm, hz6, hb6⟩
    have HF6 := Lib.hid (HF5.out.later hb6)
    have HZ6 := Lib.hid (HZ5.out.keep hb6)
    have HY6 := Lib.hid hz6
    clear hz6 hb6
    have g0 : w6.cell? ⟨W.heap.size + 1 + 1, 0, none⟩ = some (.bool false) := HF6.out.cell 2 0 rfl rfl
    have g1 : w6.cell? ⟨W.heap.size + 1 + 1, 1, none⟩ = some (.slice none 0 0) := HF6.out.cell 2 1 rfl rfl
    have g2 : w6.frozen? ⟨W.heap.size + 1 + 1, 0, none⟩ = false := HF6.out.frozen 2 0 rfl
    have g3 : w6.frozen? ⟨W.heap.size + 1 + 1, 1, none⟩ = false := HF6.out.frozen 2 1 rfl
    have g4 : w6.cell? ⟨W.heap.size + 1 + 1 + 1, 0, none⟩ = some (.bool false) := HF6.out.cell 3 0 rfl rfl
    have g5 : w6.cell? ⟨W.heap.size + 1 + 1 + 1, 1, none⟩ = some (.slice none 0 0) := HF6.out.cell 3 1 rfl rfl
    have g6 : w6.frozen? ⟨W.heap.size + 1 + 1 + 1, 0, none⟩ = false := HF6.out.frozen 3 0 rfl
    have g7 : w6.frozen? ⟨W.heap.size + 1 + 1 + 1, 1, none⟩ = false := HF6.out.frozen 3 1 rfl
    go_wp2
    obtain ⟨k0, k1, hz, _, hfr⟩ := HF6.out.finJ (cap := uc) 2 rfl HZ6.out
    have hy2 := ((HY6.out.setFr HF6.out 2 0 rfl rfl (.bool s1)).setFr (HF6.out.set 2 0 rfl (.bool s1)) 2 1 rfl rfl (.slice uo ul uc))
    obtain ⟨k2, k3, hy3, hbel, hfr2⟩ := hfr.finJ (cap := vc) 3 rfl hy2
    have hz3 := ((hz.setFr hfr 3 0 rfl rfl (.bool s2)).setFr (hfr.set 3 0 rfl (.bool s2)) 3 1 rfl rfl (.slice vo vl vc))
    have k4 := hfr2.cell 2 0 (v := .bool s1) rfl rfl
    have k5 := hfr2.cell 2 1 (v := .slice uo ul uc) rfl rfl
    exact bodyPost_ret (v := .tuple #[.agg #[.bool s1, .slice uo ul uc], .agg #[.bool s2, .slice vo vl vc]]) (by simp [results, Tryz.results66, go_sem, k2, k3, k4, k5]) rfl ⟨s1, uo, ul, uc, s2, vo, vl, vc, rfl, huc, hum, hvc, hvm, by rw [HXQ.out, bne_false]; exact hz3, by rw [HXR.out]; exact hy3, hbel⟩
  | true =>
    by_cases hr0 : rl = 0
    · have HXQ := Lib.hid (div_cases true nb m n HN0.out (.inr (HRZ.out.2 hr0))).1
      have HXR := Lib.hid (div_cases true nb m n HN0.out (.inr (HRZ.out.2 hr0))).2
      have q1 : ¬ (0 : Int) < (rl : Int) := by omega
      have q3 : decide (0 < rl) = false := by simp; omega
      clear hr0
      have e0 : w1.cell? ⟨W.heap.size, 0, none⟩ = some (.bool true) := HF1.out.cell 0 0 rfl rfl
      have e1 : w1.cell? ⟨W.heap.size + 1, 0, none⟩ = some (.bool nb) := HF1.out.cell 1 0 rfl rfl
      go_wp2_with fail
      refine (made_any _ _ _ _ _ _ HQ.out hqlc hqcm).mono ?_
      rintro e w5 ⟨s1, uo, ul, uc, rfl, huc, hum, hz5, hb5⟩
      have HF5 := Lib.hid (HF1.out.later hb5)
      have HZ5 := Lib.hid hz5
      have HR5 := Lib.hid (HR.out.keep hb5)
      clear hz5 hb5
      go_wp2_with fail
      refine (made_any _ _ _ _ _ _ HR5.out hrlc hrcm).mono ?_
      rintro e w6 ⟨s2, vo, vl, vc, rfl, hvc, hvm, hz6, hb6⟩
      have HF6 := Lib.hid (HF5.out.later hb6)
      have HZ6 := Lib.hid (HZ5.out.keep hb6)
      have HY6 := Lib.hid hz6
      clear hz6 hb6
      have g0 : w6.cell? ⟨W.heap.size + 1 + 1, 0, none⟩ = some (.bool false) := HF6.out.cell 2 0 rfl rfl
      have g1 : w6.cell? ⟨W.heap.size + 1 + 1, 1, none⟩ = some (.slice none 0 0) := HF6.out.cell 2 1 rfl rfl
      have g2 : w6.frozen? ⟨W.heap.size + 1 + 1, 0, none⟩ = false := HF6.out.frozen 2 0 rfl
      have g3 : w6.frozen? ⟨W.heap.size + 1 + 1, 1, none⟩ = false := HF6.out.frozen 2 1 rfl
      have g4 : w6.cell? ⟨W.heap.size + 1 + 1 + 1, 0, none⟩ = some (.bool false) := HF6.out.cell 3 0 rfl rfl
      have g5 : w6.cell? ⟨W.heap.size + 1 + 1 + 1, 1, none⟩ = some (.slice none 0 0) := HF6.out.cell 3 1 rfl rfl
      have g6 : w6.frozen? ⟨W.heap.size + 1 + 1 + 1, 0, none⟩ = false := HF6.out.frozen 3 0 rfl
      have g7 : w6.frozen? ⟨W.heap.size + 1 + 1 + 1, 1, none⟩ = false := HF6.out.frozen 3 1 rfl
      go_wp2
      obtain ⟨k0, k1, hz, _, hfr⟩ := HF6.out.finJ (cap := uc) 2 rfl HZ6.out
      have hy2 := ((HY6.out.setFr HF6.out 2 0 rfl rfl (.bool s1)).setFr (HF6.out.set 2 0 rfl (.bool s1)) 2 1 rfl rfl (.slice uo ul uc))
      obtain ⟨k2, k3, hy3, hbel, hfr2⟩ := hfr.finJ (cap := vc) 3 rfl hy2
      have hz3 := ((hz.setFr hfr 3 0 rfl rfl (.bool s2)).setFr (hfr.set 3 0 rfl (.bool s2)) 3 1 rfl rfl (.slice vo vl vc))
      have k4 := hfr2.cell 2 0 (v := .bool s1) rfl rfl
      have k5 := hfr2.cell 2 1 (v := .slice uo ul uc) rfl rfl
      exact bodyPost_ret (v := .tuple #[.agg #[.bool s1, .slice uo ul uc], .agg #[.bool s2, .slice vo vl vc]]) (by simp [results, Tryz.results66, go_sem, k2, k3, k4, k5]) rfl ⟨s1, uo, ul, uc, s2, vo, vl, vc, rfl, huc, hum, hvc, hvm, by rw [HXQ.out, bne_true]; exact hz3, by rw [HXR.out]; exact hy3, hbel⟩
    · have hmr : m % n ≠ 0 := fun h => hr0 (HRZ.out.1 h)
      have HXQ := Lib.hid (div_up nb m n HN0.out hmr).1
      have HXR := Lib.hid (div_up nb m n HN0.out hmr).2
      have q1 : (0 : Int) < (rl : Int) := by omega
      have q3 : decide (0 < rl) = true := by simp; omega
      clear hr0 hmr
      go_wp2_with fail
      refine (of_any 1 1 _ rfl (by omega)).mono ?_
      rintro e w2 ⟨no, nl, nc, rfl, hnlc, hncm, hn1, hb2⟩
      have hnl : nl ≤ 1 := hn1.len_le (by rw [B16_eq]; decide)
      have HF2 := Lib.hid (HF1.out.later hb2)
      have HQ2 := Lib.hid (HQ.out.keep hb2)
      have HR2 := Lib.hid (HR.out.keep hb2)
      have HONE := Lib.hid hn1
      clear hn1 hb2
      go_wp2_with fail
      refine (add_any _ _ _ _ _ _ (m / n) 1 _ HQ2.out HONE.out (by omega) (by omega)).mono ?_
      rintro e w3 ⟨so, sl, sc, rfl, hslc, hscm, hs3, hb3⟩
      have HF3 := Lib.hid (HF2.out.later hb3)
      have HQ3 := Lib.hid hs3
      have HR3 := Lib.hid (HR2.out.keep hb3)
      clear hs3 hb3
      have c1 : w3.cell? ⟨W.heap.size + 1, 1, none⟩ = some (.slice bo lb cb) := HF3.out.cell 1 1 rfl rfl
      go_wp2_with fail
      refine (sub16_new _ _ _ _ _ _ n (m % n) _ (HN.out.keep HF3.out.below) HR3.out (by omega) (Nat.le_of_lt (Nat.mod_lt _ (Nat.pos_of_ne_zero HN0.out)))).mono ?_
      rintro e w4 ⟨to_, tl, tc, rfl, htlc, htcm, hd4, hb4, _⟩
      have HF4 := Lib.hid (HF3.out.later hb4)
      have HQ4 := Lib.hid (HQ3.out.keep hb4)
      have HR4 := Lib.hid hd4
      clear hd4 hb4
      have e0 : w4.cell? ⟨W.heap.size, 0, none⟩ = some (.bool true) := HF4.out.cell 0 0 rfl rfl
      have e1 : w4.cell? ⟨W.heap.size + 1, 0, none⟩ = some (.bool nb) := HF4.out.cell 1 0 rfl rfl
      go_wp2_with fail
      refine (made_any _ _ _ _ _ _ HQ4.out hslc hscm).mono ?_
      rintro e w5 ⟨s1, uo, ul, uc, rfl, huc, hum, hz5, hb5⟩
      have HF5 := Lib.hid (HF4.out.later hb5)
      have HZ5 := Lib.hid hz5
      have HR5 := Lib.hid (HR4.out.keep hb5)
      clear hz5 hb5
      go_wp2_with fail
      refine (made_any _ _ _ _ _ _ HR5.out htlc htcm).mono ?_
      rintro e w6 ⟨s2, vo, vl, vc, rfl, hvc, hvm, hz6, hb6⟩
      have HF6 := Lib.hid (HF5.out.later hb6)
      have HZ6 := Lib.hid (HZ5.out.keep hb6)
      have HY6 := Lib.hid hz6
      clear hz6 hb6
      have g0 : w6.cell? ⟨W.heap.size + 1 + 1, 0, none⟩ = some (.bool false) := HF6.out.cell 2 0 rfl rfl
      have g1 : w6.cell? ⟨W.heap.size + 1 + 1, 1, none⟩ = some (.slice none 0 0) := HF6.out.cell 2 1 rfl rfl
      have g2 : w6.frozen? ⟨W.heap.size + 1 + 1, 0, none⟩ = false := HF6.out.frozen 2 0 rfl
      have g3 : w6.frozen? ⟨W.heap.size + 1 + 1, 1, none⟩ = false := HF6.out.frozen 2 1 rfl
      have g4 : w6.cell? ⟨W.heap.size + 1 + 1 + 1, 0, none⟩ = some (.bool false) := HF6.out.cell 3 0 rfl rfl
      have g5 : w6.cell? ⟨W.heap.size + 1 + 1 + 1, 1, none⟩ = some (.slice none 0 0) := HF6.out.cell 3 1 rfl rfl
      have g6 : w6.frozen? ⟨W.heap.size + 1 + 1 + 1, 0, none⟩ = false := HF6.out.frozen 3 0 rfl
      have g7 : w6.frozen? ⟨W.heap.size + 1 + 1 + 1, 1, none⟩ = false := HF6.out.frozen 3 1 rfl
      go_wp2
      obtain ⟨k0, k1, hz, _, hfr⟩ := HF6.out.finJ (cap := uc) 2 rfl HZ6.out
      have hy2 := ((HY6.out.setFr HF6.out 2 0 rfl rfl (.bool s1)).setFr (HF6.out.set 2 0 rfl (.bool s1)) 2 1 rfl rfl (.slice uo ul uc))
      obtain ⟨k2, k3, hy3, hbel, hfr2⟩ := hfr.finJ (cap := vc) 3 rfl hy2
      have hz3 := ((hz.setFr hfr 3 0 rfl rfl (.bool s2)).setFr (hfr.set 3 0 rfl (.bool s2)) 3 1 rfl rfl (.slice vo vl vc))
      have k4 := hfr2.cell 2 0 (v := .bool s1) rfl rfl
      have k5 := hfr2.cell 2 1 (v := .slice uo ul uc) rfl rfl
      exact bodyPost_ret (v := .tuple #[.agg #[.bool s1, .slice uo ul uc], .agg #[.bool s2, .slice vo vl vc]]) (by simp [results, Tryz.results66, go_sem, k2, k3, k4, k5]) rfl ⟨s1, uo, ul, uc, s2, vo, vl, vc, rfl, huc, hum, hvc, hvm, by rw [HXQ.out, bne_true]; exact hz3, by rw [HXR.out]; exact hy3, hbel⟩
end Go.Proofs.YtbihgllfllkkaaaGreat

/- Facts for NumDivides. -/
set_option linter.unusedVariables false
namespace Go.Proofs.YtbihgllfllkkaaaGreat
open Go.RowKit Go.Proofs

theorem fits_div {x y : Int} (h : Fits x) : Fits (x / y) := bl_div (k := 16384) h
theorem fits_mod {x y : Int} (h : Fits y) (hy : y ≠ 0) : Fits (x % y) := bl_mod (k := 16384) h hy

theorem string_zero (W : World) : Calls Tryz.prog 52 #[.agg #[.bool false, .slice none 0 0]] W (fun e w' => e = .returned (.string { data := #[48] }) ∧ Below W.heap.size W w') :=
  (string_any false none 0 0 0 W (Z32.nil _) (by omega)).mono fun e w h => h
end Go.Proofs.YtbihgllfllkkaaaGreat

/- NewRat of 0; the specification's Floor. -/
set_option linter.unusedVariables false
set_option linter.unusedSimpArgs false
namespace Go.Proofs.YtbihgllfllkkaaaGreat
open Go.RowKit Go.Proofs

set_option maxHeartbeats 1000000 in
theorem newRat_zero (na nb : Bool) (ao bo : Option Addr) (la lb ca cb : Nat) (W : World) (hb : Z32 W nb bo lb 0) :
    Calls Tryz.prog 13 #[.agg #[.bool na, .slice ao la ca], .agg #[.bool nb, .slice bo lb cb]] W (fun e w' => e = .returned (.tuple #[.agg #[.bool false, .slice none 0 0, .slice none 0 0], .int .i64 10]) ∧ Below W.heap.size W w') := by
  have hf : Fr W (((W.alloc (.cells #[.bool na, .slice ao la ca] 31)).alloc (.cells #[.bool nb, .slice bo lb cb] 31)).alloc (.cells #[.bool false, .slice none 0 0, .slice none 0 0] 35))
      [(31, #[.bool na, .slice ao la ca]), (31, #[.bool nb, .slice bo lb cb]), (35, #[.bool false, .slice none 0 0, .slice none 0 0])] := (((Fr.nil W).alloc rfl _ _).alloc (by simp) _ _).alloc (by simp) _ _
  have HF := Lib.hid hf
  have HB := Lib.hid (hb.keep hf.below)
  clear hf hb
  go_enter Tryz.func13, Tryz.ntmps13
  go_wp2_with fail
  refine ((sign_any _ _ _ _ 0 _ HB.out).mono fun e w h => (h : e = .returned (.int .i64 0) ∧ _)).mono ?_
  rintro e w1 ⟨rfl, hb1⟩
  have HF1 := Lib.hid (HF.out.later hb1)
  clear hb1
  have g0 : w1.cell? ⟨W.heap.size + 2, 0, none⟩ = some (.bool false) := HF1.out.cell 2 0 rfl rfl
  have g1 : w1.cell? ⟨W.heap.size + 2, 1, none⟩ = some (.slice none 0 0) := HF1.out.cell 2 1 rfl rfl
  have g2 : w1.cell? ⟨W.heap.size + 2, 2, none⟩ = some (.slice none 0 0) := HF1.out.cell 2 2 rfl rfl
  have gf0 : w1.frozen? ⟨W.heap.size + 2, 0, none⟩ = false := HF1.out.frozen 2 0 rfl
  have gf1 : w1.frozen? ⟨W.heap.size + 2, 1, none⟩ = false := HF1.out.frozen 2 1 rfl
  have gf2 : w1.frozen? ⟨W.heap.size + 2, 2, none⟩ = false := HF1.out.frozen 2 2 rfl
  go_wp2
  obtain ⟨e0, e1, e2, hq, hbel⟩ := HF1.out.finQ (cap := 0) (bc := 0) (neg := false) (ao := none) (len := 0) (bo := none) (bl := 0) (p := 0) (q := 1) 2 rfl ⟨Z32.nil _, .inl ⟨rfl, rfl⟩⟩
  exact bodyPost_ret (v := .tuple #[.agg #[.bool false, .slice none 0 0, .slice none 0 0], .int .i64 10]) (by simp [results, Tryz.results13, go_sem, e0, e1, e2]) rfl ⟨rfl, hbel⟩

set_option maxHeartbeats 1000000 in
theorem refFloor_any (s1 s2 : Bool) (o1 o2 : Option Addr) (l1 l2 c1 c2 : Nat) (p q : Int) (W : World) (h1 : Z16 W s1 o1 l1 p) (h2 : Z16 W s2 o2 l2 q) (hl1 : l1 ≤ 1000000) (hl2 : l2 ≤ 1000000) (hq : q ≠ 0) :
    Calls Tryz.prog 28 #[.agg #[.bool s1, .slice o1 l1 c1, .bool s2, .slice o2 l2 c2]] W (OutJ W (p / q)) := by
  have hf : Fr W ((W.alloc (.cells #[.bool s1, .slice o1 l1 c1, .bool s2, .slice o2 l2 c2] 43)).alloc (.cells #[.bool false, .slice none 0 0] 27))
      [(43, #[.bool s1, .slice o1 l1 c1, .bool s2, .slice o2 l2 c2]), (27, #[.bool false, .slice none 0 0])] := ((Fr.nil W).alloc rfl _ _).alloc (by simp) _ _
  have HF := Lib.hid hf
  have HP := Lib.hid (h1.keep hf.below)
  have HQ := Lib.hid (h2.keep hf.below)
  clear hf h1 h2
  go_enter Tryz.func28, Tryz.ntmps28
  go_wp2_with fail
  refine (divZ16_any _ _ _ _ _ _ _ _ p q _ HP.out HQ.out (by omega) (by omega) hq).mono ?_
  rintro e w1 ⟨t1, uo, ul, uc, t2, vo, vl, vc, rfl, huc, hum, hvc, hvm, hz, _, hb⟩
  have hb2 : Below w1.heap.size w1 ((w1.alloc (.cells #[.bool t1, .slice uo ul uc] 27)).alloc (.cells #[.bool t2, .slice vo vl vc] 27)) := ((Below.refl _ _).alloc (Nat.le_refl _) _).alloc (by simp) _
  have HF1 := Lib.hid ((HF.out.later hb).later hb2)
  have HZ := Lib.hid (hz.keep hb2)
  clear hb hb2 hz
  go_upto_region 2 with fail
  obtain ⟨V, hV⟩ : ∃ V, V = ((w1.alloc (.cells #[.bool t1, .slice uo ul uc] 27)).alloc (.cells #[.bool t2, .slice vo vl vc] 27)) := ⟨_, rfl⟩
  have k0 : V.cell? ⟨w1.heap.size, 0, none⟩ = some (.bool t1) := by rw [hV]; exact (((Fr.nil w1).alloc rfl 27 #[.bool t1, .slice uo ul uc]).alloc (by simp) 27 #[.bool t2, .slice vo vl vc]).cell 0 0 rfl rfl
  have k1 : V.cell? ⟨w1.heap.size, 1, none⟩ = some (.slice uo ul uc) := by rw [hV]; exact (((Fr.nil w1).alloc rfl 27 #[.bool t1, .slice uo ul uc]).alloc (by simp) 27 #[.bool t2, .slice vo vl vc]).cell 0 1 rfl rfl
  rw [← hV] at HF1 HZ ⊢
  clear hV
  have g0 : V.cell? ⟨W.heap.size + 1, 0, none⟩ = some (.bool false) := HF1.out.cell 1 0 rfl rfl
  have g1 : V.cell? ⟨W.heap.size + 1, 1, none⟩ = some (.slice none 0 0) := HF1.out.cell 1 1 rfl rfl
  have gf0 : V.frozen? ⟨W.heap.size + 1, 0, none⟩ = false := HF1.out.frozen 1 0 rfl
  have gf1 : V.frozen? ⟨W.heap.size + 1, 1, none⟩ = false := HF1.out.frozen 1 1 rfl
  go_wp2
  obtain ⟨e0, e1, hz, hbel, _⟩ := HF1.out.finJ (cap := uc) 1 rfl HZ.out
  exact bodyPost_ret (v := .agg #[.bool t1, .slice uo ul uc]) (by simp [results, Tryz.results28, go_sem, e0, e1]) rfl ⟨t1, uo, ul, uc, rfl, huc, hum, hz, hbel⟩
end Go.Proofs.YtbihgllfllkkaaaGreat
