/- Part 8 of the contracts: Plan2, TwoOf, Law5, TwoTwo, Nested, Fine, Ring. -/
import Derived.Test.YtbihgllfllkkaaaPart7

/- The theorem of a plan: one invariant for all orders of a region. No function of the program is walked here. -/
set_option linter.unusedVariables false
namespace Go.Proofs.Ytbihgllfllkkaaa
open Go.RowKit

structure Shape.At (S : Shape) (n size i : Nat) (o : Oper) : Prop where
  guard : o.guard = none
  dst : o.dst = if (S.kd i).isPut then none else some (S.f i)
  back : ∀ e ∈ o.after, Region.binds .any e = true → e.on < i
  need : ∀ j ∈ S.need i, (S.kd j).isPut = false ∧ ∃ e ∈ o.after, Region.binds .any e = true ∧ e.on = j
  slot : (S.kd i).isPut = false → S.f i < size
  inj : ∀ j, j < n → i ≠ j → (S.kd i).isPut = false → (S.kd j).isPut = false → S.f i ≠ S.f j
  box : ∀ T z, S.kd i = .box T z → S.st i < n ∧ S.kd (S.st i) = .put i (S.src i) ∧ i ∈ S.need (S.st i) ∧ S.src i ∈ S.need (S.st i) ∧ noInts z = true
  put : ∀ p s, S.kd i = .put p s → p < n ∧ S.st p = i ∧ S.src p = s ∧ p ∈ S.need i ∧ s ∈ S.need i ∧ (∃ T z, S.kd p = .box T z) ∧ (S.kd s).isVal = true

theorem Shape.ok_at {S : Shape} {ops : Array Oper} {size i : Nat} {o : Oper} (h : S.ok ops size = true) (ho : ops[i]? = some o) : S.At ops.size size i o := by
  have hi : i < ops.size := (Array.getElem?_eq_some_iff.1 ho).1
  have h1 := List.all_eq_true.1 h i (List.mem_range.2 hi)
  simp only [ho] at h1
  rw [Bool.and_eq_true, Bool.and_eq_true, Bool.and_eq_true, Bool.and_eq_true, Bool.and_eq_true, Bool.and_eq_true] at h1
  obtain ⟨⟨⟨⟨⟨⟨g1, g2⟩, g3⟩, g4⟩, g5⟩, g6⟩, g7⟩ := h1
  refine ⟨by simpa using g1, by simpa using g2, fun e he hb => ?_, fun j hj => ?_, fun hp => ?_, fun j hj hne hp hq => ?_, fun T z hk => ?_, fun p s hk => ?_⟩
  · have := List.all_eq_true.1 g3 e (by simpa using he)
    simpa [hb] using this
  · have h2 := List.all_eq_true.1 g4 j hj
    rw [Bool.and_eq_true] at h2
    refine ⟨by simpa using h2.1, ?_⟩
    obtain ⟨e, he, hx⟩ := List.any_eq_true.1 h2.2
    simp at hx
    exact ⟨e, by simpa using he, hx.1, hx.2⟩
  · simpa [hp] using g5
  · have h2 := List.all_eq_true.1 g6 j (List.mem_range.2 hj)
    simpa [hne, hp, hq] using h2
  · simp only [hk] at g7
    rw [Bool.and_eq_true, Bool.and_eq_true, Bool.and_eq_true, Bool.and_eq_true] at g7
    obtain ⟨⟨⟨⟨a1, a2⟩, a3⟩, a4⟩, a5⟩ := g7
    refine ⟨by simpa using a1, ?_, by simpa using a3, by simpa using a4, a5⟩
    cases hst : S.kd (S.st i) with
    | val => rw [hst] at a2; simp at a2
    | box T z => rw [hst] at a2; simp at a2
    | put p s => rw [hst] at a2; simp at a2; rw [a2.1, a2.2]
  · simp only [hk] at g7
    rw [Bool.and_eq_true, Bool.and_eq_true, Bool.and_eq_true, Bool.and_eq_true, Bool.and_eq_true, Bool.and_eq_true] at g7
    obtain ⟨⟨⟨⟨⟨⟨a1, a2⟩, a3⟩, a4⟩, a5⟩, a6⟩, a7⟩ := g7
    refine ⟨by simpa using a1, by simpa using a2, by simpa using a3, by simpa using a4, by simpa using a5, ?_, a7⟩
    cases hp : S.kd p with
    | val => rw [hp] at a6; simp at a6
    | box T z => exact ⟨T, z, rfl⟩
    | put p' s' => rw [hp] at a6; simp at a6

theorem notput_val {k : Kd} (h : k.isVal = true) : k.isPut = false := by cases k <;> simp_all [Kd.isVal, Kd.isPut]

theorem Shape.mem_slots {S : Shape} {n i : Nat} (hi : i < n) (h : (S.kd i).isPut = false) : S.f i ∈ S.slots n :=
  List.mem_map.2 ⟨i, List.mem_filter.2 ⟨List.mem_range.2 hi, by simp [h]⟩, rfl⟩

section
variable {P : Program} {ops : Array Oper} {Q : Exit → Act → World → Prop}

theorem Shape.region {id : Nat} {a0 : Act} {W : World} {base : Nat} (S : Shape) (Φ : Nat → (Nat → Value) → World → Prop) (hm : P.follows .mixedOrders = true) (hok : S.ok ops a0.tmps.size = true)
    (hdep : ∀ i v v' w, i < ops.size → (∀ j, (j = i ∨ j ∈ S.need i) → v j = v' j) → Φ i v w → Φ i v' w)
    (hstab : ∀ i v, i < ops.size → Stable base (Φ i v))
    (hval : ∀ i o, ops[i]? = some o → (S.kd i).isVal = true → ∀ a w, Agree (S.slots ops.size) a0 a → Below base W.drew w → base ≤ w.heap.size →
      (∀ j ∈ S.need i, (S.kd j).isVal = true → Φ j (S.vals a) w) → ∀ K : Act → World → Prop, (∀ v w', Below w.heap.size w w' → Φ i (upd (S.vals a) i v) w' → K (a.put o.dst v) w') → o.wp P a w K Q)
    (hbox : ∀ i o T z, ops[i]? = some o → S.kd i = .box T z → ∀ (a : Act) (w : World), (execOp a.eval o).run P w = .ok (.value (.pointer (some ⟨w.heap.size, 0, none⟩))) (w.alloc (.cells z T)))
    (hput : ∀ i o p s T z, ops[i]? = some o → S.kd i = .put p s → S.kd p = .box T z → ∀ (a : Act) (w : World) (g : Nat), S.vals a p = .pointer (some ⟨g, 0, none⟩) → Φ s (S.vals a) w → Box w g T z →
      ∃ us : List Value, S.vals a s = .agg us.toArray ∧ us.length = z.size ∧ (∀ u ∈ us, isInt u = false) ∧ (execOp a.eval o).run P w = .ok .skip (setFrom w g 0 us))
    (hbase : base = W.heap.size)
    (hend : ∀ a w blk, S.Inv ops.size base a0 W.drew Φ (fun i => i < ops.size) a w blk → Q .normal a w) :
    (Code.region id ops true).wp P Q a0 W := by
  subst hbase
  refine wp_region_any hm (wpAny_inv (md := .any) (Inv := fun L a w => ∃ blk, S.Inv ops.size W.heap.size a0 W.drew Φ (fun i => L.getD i false = true) a w blk) ?step ?fin _ _ _ _ (by simp) (by simp) ⟨fun _ => 0, ?init⟩)
  case init =>
    have h0 : ∀ i, ¬ ((Array.replicate ops.size false).getD i false = true) := by
      intro i h
      rw [Array.getD_eq_getD_getElem?, Array.getElem?_replicate] at h
      split at h <;> simp at h
    exact ⟨Agree.refl _ _, Below.refl _ _, Nat.le_refl _, fun i _ h => absurd h (h0 i), fun i _ h => absurd h (h0 i), fun i T z _ h => absurd h (h0 i), fun i j Ti zi Tj zj _ _ h => absurd h (h0 i)⟩
  case fin =>
    intro L a w hs ⟨blk, hI⟩ hr
    have hall : ∀ i, i < ops.size → L.getD i false = true := by
      intro i
      induction i using Nat.strongRecOn with
      | ind i ih =>
        intro hi
        cases hL : L.getD i false with
        | true => rfl
        | false =>
          exfalso
          have hun : L.getD i true = false := by
            have : i < L.size := by omega
            simpa [this] using hL
          have ho : ops[i]? = some ops[i] := Array.getElem?_eq_getElem hi
          have hA := Shape.ok_at hok ho
          have hm : i ∈ Region.ready .any ops L := mem_ready.2 ⟨hun, _, ho, fun e he hb => by
            have hlt := hA.back e he hb
            exact ih e.on hlt (by omega)⟩
          rw [hr] at hm
          cases hm
    refine hend a w blk ⟨hI.agree, hI.below, hI.hsz, ?_, fun i hi _ => hI.vals i hi (hall i hi), fun i T z hi _ hk => ?_, fun i j Ti zi Tj zj hi hj _ _ => hI.apart i j Ti zi Tj zj hi hj (hall i hi) (hall j hj)⟩
    · intro i hi _ j hj
      have ho : ops[i]? = some ops[i] := Array.getElem?_eq_getElem hi
      have hA := Shape.ok_at hok ho
      obtain ⟨_, e, he, hb, rfl⟩ := hA.need j hj
      have := hA.back e he hb
      show e.on < ops.size
      omega
    · obtain ⟨h1, h2, h3, h4⟩ := hI.boxes i T z hi (hall i hi) hk
      have ho : ops[i]? = some ops[i] := Array.getElem?_eq_getElem hi
      have hst := ((Shape.ok_at hok ho).box T z hk).1
      exact ⟨h1, h2, fun h => absurd hst h, fun _ => h4 (hall _ hst)⟩
  case step =>
    intro L a w i hs ⟨blk, hI⟩ hr
    obtain ⟨hun, o, ho, hafter⟩ := mem_ready.1 hr
    have hi : i < ops.size := (Array.getElem?_eq_some_iff.1 ho).1
    have hiL : i < L.size := by omega
    have hnot : ¬ L.getD i false = true := by
      have : L.getD i false = false := by simpa [hiL] using hun
      rw [this]; decide
    have hA := Shape.ok_at hok ho
    have hneed : ∀ j ∈ S.need i, L.getD j false = true := by
      intro j hj
      obtain ⟨_, e, he, hb, rfl⟩ := hA.need j hj
      exact hafter e he hb
    have hset : ∀ j, (L.setIfInBounds i true).getD j false = true ↔ (j = i ∨ L.getD j false = true) := by
      intro j
      by_cases hj : j = i
      · subst hj; simp [hiL]
      · rw [getD_set_ne false (Ne.symm hj)]; simp [hj]
    have hneedlt : ∀ k, k < ops.size → ∀ j ∈ S.need k, j < ops.size ∧ (S.kd j).isPut = false := by
      intro k hk j hj
      have ho : ops[k]? = some ops[k] := Array.getElem?_eq_getElem hk
      have hA := Shape.ok_at hok ho
      obtain ⟨h1, e, he, hb, rfl⟩ := hA.need j hj
      have := hA.back e he hb
      exact ⟨by omega, h1⟩
    have hclosed : ∀ k, k < ops.size → (L.setIfInBounds i true).getD k false = true → ∀ j ∈ S.need k, (L.setIfInBounds i true).getD j false = true := by
      intro k hk hL j hj
      rw [hset] at hL ⊢
      rcases hL with rfl | hL
      · exact .inr (hneed j hj)
      · exact .inr (hI.closed k hk hL j hj)
    have hw : Region.wanted o (yielded ops a.tmps) = true := by
      unfold Region.wanted
      rw [hA.guard]
    unfold wpOp
    simp only [ho, hw, if_true]
    left
    cases hk : S.kd i with
    | val =>
      have hv : (S.kd i).isVal = true := by rw [hk]; rfl
      have hnp := notput_val hv
      have hdst : o.dst = some (S.f i) := by rw [hA.dst, hnp]; rfl
      refine hval i o ho hv a w hI.agree hI.below hI.hsz (fun j hj hjv => hI.vals j (hneedlt i hi j hj).1 (hneed j hj) hjv) _ fun v w' hb hΦ => ?_
      rw [hdst]
      have hslot := hA.slot hnp
      have hself : S.vals (a.put (some (S.f i)) v) i = v := eval_put_self (by rw [hI.agree.1]; exact hslot) v
      have hother : ∀ j, j < ops.size → j ≠ i → (S.kd j).isPut = false → S.vals (a.put (some (S.f i)) v) j = S.vals a j := fun j hj hne hp => eval_put_ne (hA.inj j hj (Ne.symm hne) hnp hp) v
      have hne_of : ∀ k, k < ops.size → L.getD k false = true → k ≠ i := fun k _ hL e => hnot (e ▸ hL)
      refine ⟨blk, hI.agree.put (Shape.mem_slots hi hnp) v, hI.below.trans (hb.mono hI.hsz), Nat.le_trans hI.hsz hb.size, hclosed, ?_, ?_, ?_⟩
      · intro k hk' hL hkv
        rw [hset] at hL
        by_cases hki : k = i
        · subst hki
          refine hdep k _ _ w' hi (fun j hj => ?_) hΦ
          rcases hj with rfl | hj
          · simp [upd, hself]
          · have hjne : j ≠ k := hne_of j (hneedlt k hi j hj).1 (hneed j hj)
            simp only [upd, if_neg hjne]
            exact (hother j (hneedlt k hi j hj).1 hjne (hneedlt k hi j hj).2).symm
        · have hLk := hL.resolve_left hki
          refine (hstab k _ hk').1 w w' (hdep k (S.vals a) _ w hk' (fun j hj => ?_) (hI.vals k hk' hLk hkv)) hb
          rcases hj with rfl | hj
          · exact (hother j hk' hki (notput_val hkv)).symm
          · exact (hother j (hneedlt k hk' j hj).1 (hne_of j (hneedlt k hk' j hj).1 (hI.closed k hk' hLk j hj)) (hneedlt k hk' j hj).2).symm
      · intro k T z hk' hL hkb
        rw [hset] at hL
        have hki : k ≠ i := fun e => by subst e; rw [hk] at hkb; cases hkb
        have hLk := hL.resolve_left hki
        obtain ⟨h1, h2, h3, h4⟩ := hI.boxes k T z hk' hLk hkb
        have hAk := Shape.ok_at hok (Array.getElem?_eq_getElem hk')
        obtain ⟨s1, s2, s3, s4, s5⟩ := hAk.box T z hkb
        have hsti : S.st k ≠ i := fun e => by rw [e, hk] at s2; cases s2
        have hLst : ((L.setIfInBounds i true).getD (S.st k) false = true) ↔ (L.getD (S.st k) false = true) := by rw [hset]; simp [hsti]
        have hlt : ∀ {c : Array Value}, Box w (blk k) T c → Box w' (blk k) T c := fun hb' => hb'.below hb hb'.lt
        refine ⟨(hother k hk' hki (by rw [hkb]; rfl)).trans h1, h2, fun hn => hlt (h3 (fun x => hn (hLst.2 x))), fun hy => ?_⟩
        obtain ⟨us, u1, u2, u3, u4⟩ := h4 (hLst.1 hy)
        have hsrcL := hI.closed (S.st k) s1 (hLst.1 hy) (S.src k) s4
        refine ⟨us, (hother (S.src k) (hneedlt _ s1 _ s4).1 (hne_of _ (hneedlt _ s1 _ s4).1 hsrcL) (hneedlt _ s1 _ s4).2).trans u1, u2, u3, hlt u4⟩
      · intro k j Tk zk Tj zj hk' hj' hLk hLj hkk hkj hne
        rw [hset] at hLk hLj
        have h1 : k ≠ i := fun e => by subst e; rw [hk] at hkk; cases hkk
        have h2 : j ≠ i := fun e => by subst e; rw [hk] at hkj; cases hkj
        exact hI.apart k j Tk zk Tj zj hk' hj' (hLk.resolve_left h1) (hLj.resolve_left h2) hkk hkj hne
    | box T z =>
      have hnp : (S.kd i).isPut = false := by rw [hk]; rfl
      have hdst : o.dst = some (S.f i) := by rw [hA.dst, hnp]; rfl
      have hslot := hA.slot hnp
      unfold Oper.wp
      rw [hbox i o T z ho hk a w]
      show ∃ blk, _
      rw [hdst]
      have hself : ∀ v, S.vals (a.put (some (S.f i)) v) i = v := fun v => eval_put_self (by rw [hI.agree.1]; exact hslot) v
      have hother : ∀ v j, j < ops.size → j ≠ i → (S.kd j).isPut = false → S.vals (a.put (some (S.f i)) v) j = S.vals a j := fun v j hj hne hp => eval_put_ne (hA.inj j hj (Ne.symm hne) hnp hp) v
      have hne_of : ∀ k, k < ops.size → L.getD k false = true → k ≠ i := fun k _ hL e => hnot (e ▸ hL)
      have hb : Below w.heap.size w (w.alloc (.cells z T)) := (Below.refl _ _).alloc (Nat.le_refl _) _
      obtain ⟨t1, t2, t3, t4, t5⟩ := hA.box T z hk
      refine ⟨fun k => if k = i then w.heap.size else blk k, hI.agree.put (Shape.mem_slots hi hnp) _, hI.below.trans (hb.mono hI.hsz), Nat.le_trans hI.hsz hb.size, hclosed, ?_, ?_, ?_⟩
      · intro k hk' hL hkv
        rw [hset] at hL
        have hki : k ≠ i := fun e => by subst e; rw [hk] at hkv; cases hkv
        have hLk := hL.resolve_left hki
        refine (hstab k _ hk').1 w _ (hdep k (S.vals a) _ w hk' (fun j hj => ?_) (hI.vals k hk' hLk hkv)) hb
        rcases hj with rfl | hj
        · exact (hother _ j hk' hki (notput_val hkv)).symm
        · exact (hother _ j (hneedlt k hk' j hj).1 (hne_of j (hneedlt k hk' j hj).1 (hI.closed k hk' hLk j hj)) (hneedlt k hk' j hj).2).symm
      · intro k T' z' hk' hL hkb
        rw [hset] at hL
        by_cases hki : k = i
        · subst hki
          rw [hk] at hkb
          cases hkb
          refine ⟨by rw [hself]; simp, by simp; exact hI.hsz, fun _ => by simp; exact Box.new w T z, fun hy => ?_⟩
          rw [hset] at hy
          rcases hy with hy | hy
          · rw [hy, hk] at t2; cases t2
          · exact absurd (hI.closed _ t1 hy _ t3) hnot
        · have hLk := hL.resolve_left hki
          obtain ⟨h1, h2, h3, h4⟩ := hI.boxes k T' z' hk' hLk hkb
          have hAk := Shape.ok_at hok (Array.getElem?_eq_getElem hk')
          obtain ⟨s1, s2, s3, s4, s5⟩ := hAk.box T' z' hkb
          have hsti : S.st k ≠ i := fun e => by rw [e, hk] at s2; cases s2
          have hLst : ((L.setIfInBounds i true).getD (S.st k) false = true) ↔ (L.getD (S.st k) false = true) := by rw [hset]; simp [hsti]
          have hlt : ∀ {c : Array Value}, Box w (blk k) T' c → Box (w.alloc (.cells z T)) (blk k) T' c := fun hb' => hb'.below hb hb'.lt
          simp only [if_neg hki]
          refine ⟨(hother _ k hk' hki (by rw [hkb]; rfl)).trans h1, h2, fun hn => hlt (h3 (fun x => hn (hLst.2 x))), fun hy => ?_⟩
          obtain ⟨us, u1, u2, u3, u4⟩ := h4 (hLst.1 hy)
          have hsrcL := hI.closed (S.st k) s1 (hLst.1 hy) (S.src k) s4
          exact ⟨us, (hother _ (S.src k) (hneedlt _ s1 _ s4).1 (hne_of _ (hneedlt _ s1 _ s4).1 hsrcL) (hneedlt _ s1 _ s4).2).trans u1, u2, u3, hlt u4⟩
      · have hltk : ∀ k T' z', k < ops.size → L.getD k false = true → S.kd k = .box T' z' → blk k < w.heap.size := by
          intro k T' z' hk' hLk hkb
          obtain ⟨h1, h2, h3, h4⟩ := hI.boxes k T' z' hk' hLk hkb
          by_cases hst : L.getD (S.st k) false = true
          · obtain ⟨us, _, _, _, u4⟩ := h4 hst
            exact u4.lt
          · exact (h3 hst).lt
        intro k j Tk zk Tj zj hk' hj' hLk hLj hkk hkj hne
        rw [hset] at hLk hLj
        by_cases h1 : k = i
        · have h2 : j ≠ i := fun e => hne (h1.trans e.symm)
          have := hltk j Tj zj hj' (hLj.resolve_left h2) hkj
          simp only [if_pos h1, if_neg h2]; omega
        · by_cases h2 : j = i
          · have := hltk k Tk zk hk' (hLk.resolve_left h1) hkk
            simp only [if_neg h1, if_pos h2]; omega
          · simp only [if_neg h1, if_neg h2]
            exact hI.apart k j Tk zk Tj zj hk' hj' (hLk.resolve_left h1) (hLj.resolve_left h2) hkk hkj hne
    | put p s =>
      have hdst : o.dst = none := by rw [hA.dst, hk]; rfl
      obtain ⟨p1, p2, p3, p4, p5, ⟨T, z, hp⟩, hsv⟩ := hA.put p s hk
      have hLp := hneed p p4
      have hLs := hneed s p5
      obtain ⟨h1, h2, h3, h4⟩ := hI.boxes p T z p1 hLp hp
      have hbx := h3 (by rw [p2]; exact hnot)
      obtain ⟨us, u1, u2, u3, u4⟩ := hput i o p s T z ho hk hp a w (blk p) h1 (hI.vals s (hneedlt i hi s p5).1 hLs hsv) hbx
      unfold Oper.wp
      rw [u4]
      show ∃ blk, _
      rw [hdst]
      have hAp := Shape.ok_at hok (Array.getElem?_eq_getElem p1)
      have hz := (hAp.box T z hp).2.2.2.2
      refine ⟨blk, hI.agree, setFrom_below h2 _ _ _ _ hI.below, by rw [setFrom_size]; exact hI.hsz, hclosed, ?_, ?_, ?_⟩
      · intro k hk' hL hkv
        rw [hset] at hL
        have hki : k ≠ i := fun e => by subst e; rw [hk] at hkv; cases hkv
        exact (hstab k _ hk').setFrom h2 us u3 w 0 z (hI.vals k hk' (hL.resolve_left hki) hkv) hbx hz
      · intro k T' z' hk' hL hkb
        rw [hset] at hL
        have hki : k ≠ i := fun e => by subst e; rw [hk] at hkb; cases hkb
        have hLk := hL.resolve_left hki
        obtain ⟨g1, g2, g3, g4⟩ := hI.boxes k T' z' hk' hLk hkb
        by_cases hkp : k = p
        · subst hkp
          rw [hp] at hkb
          cases hkb
          refine ⟨g1, g2, fun hn => absurd ((hset _).2 (.inl p2)) hn, fun _ => ⟨us, by rw [p3]; exact u1, u2, u3, setFrom_box0 us hbx u2.symm⟩⟩
        · have hAk := Shape.ok_at hok (Array.getElem?_eq_getElem hk')
          obtain ⟨s1, s2, s3, s4, s5⟩ := hAk.box T' z' hkb
          have hsti : S.st k ≠ i := fun e => by rw [e, hk] at s2; cases s2; exact hkp rfl
          have hLst : ((L.setIfInBounds i true).getD (S.st k) false = true) ↔ (L.getD (S.st k) false = true) := by rw [hset]; simp [hsti]
          have hne := hI.apart k p T' z' T z hk' p1 hLk hLp hkb hp hkp
          have hlt : ∀ {c : Array Value}, Box w (blk k) T' c → Box (setFrom w (blk p) 0 us) (blk k) T' c := fun hb' => (setFrom_other hne us w 0).trans hb'
          refine ⟨g1, g2, fun hn => hlt (g3 (fun x => hn (hLst.2 x))), fun hy => ?_⟩
          obtain ⟨vs, v1, v2, v3, v4⟩ := g4 (hLst.1 hy)
          exact ⟨vs, v1, v2, v3, hlt v4⟩
      · intro k j Tk zk Tj zj hk' hj' hLk hLj hkk hkj hne
        rw [hset] at hLk hLj
        have e1 : k ≠ i := fun e => by subst e; rw [hk] at hkk; cases hkk
        have e2 : j ≠ i := fun e => by subst e; rw [hk] at hkj; cases hkj
        exact hI.apart k j Tk zk Tj zj hk' hj' (hLk.resolve_left e1) (hLj.resolve_left e2) hkk hkj hne
end
end Go.Proofs.Ytbihgllfllkkaaa

/- The region 'a, b := of(x, n), of(y, n)', in whatever order its blocks are made. -/
set_option linter.unusedVariables false
namespace Go.Proofs.Ytbihgllfllkkaaa
open Go.RowKit Go.Proofs

/-- v is an integer of the specification -/
def IsJ (z : Int) (v : Value) (w : World) : Prop := ∃ n o l c, v = .agg #[.bool n, .slice o l c] ∧ l ≤ c ∧ c ≤ 9223372036854775807 ∧ Z16 w n o l z
/-- v is an integer of the program -/
def IsI (z : Int) (v : Value) (w : World) : Prop := ∃ n o l c, v = .agg #[.bool n, .slice o l c] ∧ Z32 w n o l z

theorem Stable.n16 (base : Nat) (ao : Option Addr) (len n : Nat) : Stable base (fun w => N16 w ao len n) :=
  ⟨fun w w' h hb => h.keep hb, fun w g T c k u h _ hb hc => by
    obtain ⟨xs, h1, h2⟩ := h
    exact ⟨xs, h1.setBox hb (noInts_get hc) k u, h2⟩⟩
theorem Stable.z16 (base : Nat) (neg : Bool) (ao : Option Addr) (len : Nat) (z : Int) : Stable base (fun w => Z16 w neg ao len z) :=
  Stable.ex fun n => (Stable.n16 base ao len n).and (Stable.const base _)
theorem Stable.isJ (base : Nat) (z : Int) (v : Value) : Stable base (IsJ z v) :=
  Stable.ex fun n => Stable.ex fun o => Stable.ex fun l => Stable.ex fun c => (Stable.const base _).and ((Stable.const base _).and ((Stable.const base _).and (Stable.z16 base n o l z)))
theorem Stable.isI (base : Nat) (z : Int) (v : Value) : Stable base (IsI z v) :=
  Stable.ex fun n => Stable.ex fun o => Stable.ex fun l => Stable.ex fun c => (Stable.const base _).and (Stable.z32 base n o l z)

theorem OutJ.is {W w' : World} {z : Int} {e : Ending} (h : OutJ W z e w') : ∃ v, e = .returned v ∧ IsJ z v w' ∧ Below W.heap.size W w' := by
  obtain ⟨n, o, l, c, rfl, h1, h2, h3, h4⟩ := h
  exact ⟨_, rfl, ⟨n, o, l, c, rfl, h1, h2, h3⟩, h4⟩

/-- a call as an operation of a plan -/
theorem wp_call {P : Program} {Q : Exit → Act → World → Prop} {o : Oper} {a : Act} {w : World} {f : FuncId} {args : Array Value} {φ : Value → World → Prop} {K : Act → World → Prop}
    (hr : (execOp a.eval o).run P w = .ok (.enter f args) w) (hc : Calls P f args w fun e w' => ∃ v, e = .returned v ∧ φ v w' ∧ Below w.heap.size w w')
    (hK : ∀ v w', Below w.heap.size w w' → φ v w' → K (a.put o.dst v) w') : o.wp P a w K Q := by
  unfold Oper.wp
  rw [hr]
  refine hc.mono ?_
  rintro e w' ⟨v, rfl, h1, h2⟩
  exact hK v w' h2 h1

theorem wp_value {P : Program} {Q : Exit → Act → World → Prop} {o : Oper} {a : Act} {w w' : World} {v : Value} {K : Act → World → Prop}
    (hr : (execOp a.eval o).run P w = .ok (.value v) w') (hK : K (a.put o.dst v) w') : o.wp P a w K Q := by
  unfold Oper.wp
  rw [hr]
  exact hK

theorem run_enter {P : Program} {f : FuncId} {fn : Func} {c : Code} (hf : P.funcs[f]? = some fn) (hname : (fn.name == "runtime.NumGoroutine") = false) (hb : fn.body = some c) (args : Array Value) (w : World) :
    (callFunc f args).run P w = .ok (.enter f args) w := by
  have h1 : ¬ fn.name = "runtime.NumGoroutine" := by simpa using hname
  simp [callFunc, hf, h1, hb]

theorem run_call {P : Program} {o : Oper} {f : FuncId} {fn : Func} {c : Code} {xs : Array Operand} {ts : Array TypeId} (hf : P.funcs[f]? = some fn) (hname : (fn.name == "runtime.NumGoroutine") = false) (hb : fn.body = some c)
    (h : o.op = .call { callee := .value (.func f), args := xs, argTypes := ts }) (a : Act) (w : World) :
    (execOp a.eval o).run P w = .ok (.enter f (xs.map a.eval)) w := by
  unfold execOp
  rw [h]
  simp [go_sem, Act.eval, run_enter hf hname hb]

def twoS (t0 t1 t2 t3 p q : Nat) (T : Nat) (z : Array Value) : Shape where
  f := fun i => match i with | 0 => t0 | 1 => t1 | 2 => t2 | 3 => t3 | 4 => p | 5 => q | _ => 0
  kd := fun i => match i with | 4 => .box T z | 5 => .box T z | 6 => .put 4 1 | 7 => .put 5 3 | _ => .val
  need := fun i => match i with | 1 => [0] | 3 => [2] | 6 => [4, 1] | 7 => [5, 3] | _ => []
  st := fun i => match i with | 4 => 6 | _ => 7
  src := fun i => match i with | 4 => 1 | _ => 3

def twoΦ (r1 r2 : Value) (z1 z2 : Int) (i : Nat) (v : Value) (w : World) : Prop :=
  match i with | 0 => v = r1 | 1 => IsJ z1 v w | 2 => v = r2 | _ => IsJ z2 v w

set_option maxHeartbeats 1000000 in
theorem two_of {Q : Exit → Act → World → Prop} {id : Nat} {a0 : Act} {W : World} {o0 o1 o2 o3 o4 o5 o6 o7 : Oper} (t0 t1 t2 t3 p q r s : Nat) (f : FuncId) (K : Value) (u1 u2 v1 v2 : Value) (g h : Nat) (z1 z2 : Int) (ts : Array TypeId) {fn : Func} {cb : Code}
    (hfn : Try.prog.funcs[f]? = some fn) (hname : (fn.name == "runtime.NumGoroutine") = false) (hbody : fn.body = some cb)
    (hok : (twoS t0 t1 t2 t3 p q 27 #[.bool false, .slice none 0 0]).ok #[o0, o1, o2, o3, o4, o5, o6, o7] a0.tmps.size = true)
    (h0 : o0.op = .load 24 (.tmp r)) (h1 : o1.op = .call { callee := .value (.func f), args := #[.tmp t0, .const K], argTypes := ts })
    (h2 : o2.op = .load 24 (.tmp s)) (h3 : o3.op = .call { callee := .value (.func f), args := #[.tmp t2, .const K], argTypes := ts })
    (h4 : o4.op = .alloc 27) (h5 : o5.op = .alloc 27) (h6 : o6.op = .store 27 (.tmp p) (.tmp t1)) (h7 : o7.op = .store 27 (.tmp q) (.tmp t3))
    (hr : a0.eval (.tmp r) = .pointer (some ⟨g, 0, none⟩)) (hs : a0.eval (.tmp s) = .pointer (some ⟨h, 0, none⟩))
    (hrs : r ∉ [t0, t1, t2, t3, p, q]) (hss : s ∉ [t0, t1, t2, t3, p, q]) (hg : g < W.heap.size) (hh : h < W.heap.size)
    (c1 : W.cell? ⟨g, 0, none⟩ = some u1) (c2 : W.cell? ⟨g, 1, none⟩ = some u2) (c3 : W.cell? ⟨h, 0, none⟩ = some v1) (c4 : W.cell? ⟨h, 1, none⟩ = some v2)
    (hc1 : ∀ w, Below W.heap.size W w → W.heap.size ≤ w.heap.size → Calls Try.prog f #[.agg #[u1, u2], K] w (OutJ w z1))
    (hc2 : ∀ w, Below W.heap.size W w → W.heap.size ≤ w.heap.size → Calls Try.prog f #[.agg #[v1, v2], K] w (OutJ w z2))
    (hend : ∀ w b1 b2 n1 x1 l1 k1 n2 x2 l2 k2, Below W.heap.size W w → W.heap.size ≤ b1 → W.heap.size ≤ b2 → b1 ≠ b2 → Box w b1 27 #[.bool n1, .slice x1 l1 k1] → Box w b2 27 #[.bool n2, .slice x2 l2 k2] →
      l1 ≤ k1 → k1 ≤ 9223372036854775807 → l2 ≤ k2 → k2 ≤ 9223372036854775807 → Z16 w n1 x1 l1 z1 → Z16 w n2 x2 l2 z2 →
      Q .normal (puts a0 [(t0, .agg #[u1, u2]), (t1, .agg #[.bool n1, .slice x1 l1 k1]), (t2, .agg #[v1, v2]), (t3, .agg #[.bool n2, .slice x2 l2 k2]), (p, .pointer (some ⟨b1, 0, none⟩)), (q, .pointer (some ⟨b2, 0, none⟩))]) w) :
    (Code.region id #[o0, o1, o2, o3, o4, o5, o6, o7] true).wp Try.prog Q a0 W := by
  refine Shape.region (twoS t0 t1 t2 t3 p q 27 #[.bool false, .slice none 0 0]) (fun i v w => twoΦ (.agg #[u1, u2]) (.agg #[v1, v2]) z1 z2 i (v i) w) (by kernel_rfl) hok
    (fun i v v' w _ hj hΦ => by rw [← hj i (.inl rfl)]; exact hΦ) ?stab ?val ?box ?put rfl ?fin
  case stab =>
    intro i v hi
    match i with
    | 0 => exact Stable.const _ _
    | 1 => exact Stable.isJ _ _ _
    | 2 => exact Stable.const _ _
    | i + 3 => exact Stable.isJ _ _ _
  case val =>
    intro i o ho hv a w hA hb hz hn K' hK
    match i, ho, hv with
    | 0, ho, _ =>
      have ho' : o0 = o := by simpa using ho
      subst ho'
      have e : a.eval (.tmp r) = .pointer (some ⟨g, 0, none⟩) := (hA.eval hrs).trans hr
      refine wp_value (v := .agg #[u1, u2]) (w' := w) ?_ (hK _ _ (Below.refl _ _) (by simp [upd, twoΦ]))
      have d1 := (hb.cell (p := ⟨g, 0, none⟩) hg).trans c1
      have d2 := (hb.cell (p := ⟨g, 1, none⟩) hg).trans c2
      unfold execOp
      rw [h0]
      dsimp only
      rw [e]
      simp [go_sem, d1, d2]
    | 1, ho, _ =>
      have ho' : o1 = o := by simpa using ho
      subst ho'
      have e := hn 0 (by simp [twoS]) rfl
      refine wp_call (run_call hfn hname hbody h1 a w) ((?_ : Calls _ _ _ _ _).mono fun e w' h => OutJ.is h) (fun v w' hb' hφ => hK v w' hb' (by simpa [upd, twoΦ] using hφ))
      have e2 : a.eval (.tmp t0) = .agg #[u1, u2] := e
      have em : Array.map a.eval #[Operand.tmp t0, Operand.const K] = #[a.eval (.tmp t0), K] := by simp only [List.map_toArray, List.map_cons, List.map_nil]; rfl
      rw [em, e2]
      exact hc1 w (below_undrew hb) hz
    | 2, ho, _ =>
      have ho' : o2 = o := by simpa using ho
      subst ho'
      have e : a.eval (.tmp s) = .pointer (some ⟨h, 0, none⟩) := (hA.eval hss).trans hs
      refine wp_value (v := .agg #[v1, v2]) (w' := w) ?_ (hK _ _ (Below.refl _ _) (by simp [upd, twoΦ]))
      have d1 := (hb.cell (p := ⟨h, 0, none⟩) hh).trans c3
      have d2 := (hb.cell (p := ⟨h, 1, none⟩) hh).trans c4
      unfold execOp
      rw [h2]
      dsimp only
      rw [e]
      simp [go_sem, d1, d2]
    | 3, ho, _ =>
      have ho' : o3 = o := by simpa using ho
      subst ho'
      have e := hn 2 (by simp [twoS]) rfl
      refine wp_call (run_call hfn hname hbody h3 a w) ((?_ : Calls _ _ _ _ _).mono fun e w' h => OutJ.is h) (fun v w' hb' hφ => hK v w' hb' (by simpa [upd, twoΦ] using hφ))
      have e2 : a.eval (.tmp t2) = .agg #[v1, v2] := e
      have em : Array.map a.eval #[Operand.tmp t2, Operand.const K] = #[a.eval (.tmp t2), K] := by simp only [List.map_toArray, List.map_cons, List.map_nil]; rfl
      rw [em, e2]
      exact hc2 w (below_undrew hb) hz
    | 4, _, hv => cases hv
    | 5, _, hv => cases hv
    | 6, _, hv => cases hv
    | 7, _, hv => cases hv
    | i + 8, ho, _ => simp at ho
  case box =>
    intro i o T z ho hk a w
    match i, ho, hk with
    | 0, _, hk => cases hk
    | 1, _, hk => cases hk
    | 2, _, hk => cases hk
    | 3, _, hk => cases hk
    | 6, _, hk => cases hk
    | 7, _, hk => cases hk
    | i + 8, ho, _ => simp at ho
    | 4, ho, hk => have ho' : o4 = o := by simpa using ho
                   subst ho'; cases hk; unfold execOp; rw [h4]; simp [go_sem]
    | 5, ho, hk => have ho' : o5 = o := by simpa using ho
                   subst ho'; cases hk; unfold execOp; rw [h5]; simp [go_sem]
  case put =>
    intro i o p' s' T z ho hk hp a w b hva hφ hbx
    match i, ho, hk with
    | 0, _, hk => cases hk
    | 1, _, hk => cases hk
    | 2, _, hk => cases hk
    | 3, _, hk => cases hk
    | 4, _, hk => cases hk
    | 5, _, hk => cases hk
    | i + 8, ho, _ => simp at ho
    | 6, ho, hk =>
      have ho' : o6 = o := by simpa using ho
      subst ho'; cases hk; cases hp
      obtain ⟨n, x, l, c, e, _⟩ := hφ
      have e1 : a.eval (.tmp t1) = .agg #[.bool n, .slice x l c] := e
      have e2 : a.eval (.tmp p) = .pointer (some ⟨b, 0, none⟩) := hva
      have d1 := hbx.cell 0
      have d2 := hbx.cell 1
      have f1 := hbx.frozen 0
      have f2 := hbx.frozen 1
      refine ⟨[.bool n, .slice x l c], e, rfl, by simp [isInt], ?_⟩
      unfold execOp; rw [h6]
      dsimp only
      rw [e1, e2]
      simp [go_sem, d1, d2, f1, f2, setFrom]
    | 7, ho, hk =>
      have ho' : o7 = o := by simpa using ho
      subst ho'; cases hk; cases hp
      obtain ⟨n, x, l, c, e, _⟩ := hφ
      have e1 : a.eval (.tmp t3) = .agg #[.bool n, .slice x l c] := e
      have e2 : a.eval (.tmp q) = .pointer (some ⟨b, 0, none⟩) := hva
      have d1 := hbx.cell 0
      have d2 := hbx.cell 1
      have f1 := hbx.frozen 0
      have f2 := hbx.frozen 1
      refine ⟨[.bool n, .slice x l c], e, rfl, by simp [isInt], ?_⟩
      unfold execOp; rw [h7]
      dsimp only
      rw [e1, e2]
      simp [go_sem, d1, d2, f1, f2, setFrom]
  case fin =>
    intro a w blk hI
    have n8 : (#[o0, o1, o2, o3, o4, o5, o6, o7] : Array Oper).size = 8 := rfl
    rw [n8] at hI
    have hf := hI.agree.form
    have e0 : a.eval (.tmp t0) = .agg #[u1, u2] := hI.vals 0 (by decide) (by decide) rfl
    obtain ⟨n1, x1, l1, k1, e1, a1, a2, a3⟩ : IsJ z1 (a.eval (.tmp t1)) w := hI.vals 1 (by decide) (by decide) rfl
    have e2 : a.eval (.tmp t2) = .agg #[v1, v2] := hI.vals 2 (by decide) (by decide) rfl
    obtain ⟨n2, x2, l2, k2, e3, b1, b2, b3⟩ : IsJ z2 (a.eval (.tmp t3)) w := hI.vals 3 (by decide) (by decide) rfl
    obtain ⟨p1, p2, _, p3⟩ := hI.boxes 4 27 #[.bool false, .slice none 0 0] (by decide) (by decide) rfl
    obtain ⟨us, y1, y2, y3, y4⟩ := p3 (show (6 : Nat) < 8 by decide)
    obtain ⟨q1, q2, _, q3⟩ := hI.boxes 5 27 #[.bool false, .slice none 0 0] (by decide) (by decide) rfl
    obtain ⟨vs, w1, w2, w3, w4⟩ := q3 (show (7 : Nat) < 8 by decide)
    have y5 : a.eval (.tmp t1) = .agg us.toArray := y1
    have w5 : a.eval (.tmp t3) = .agg vs.toArray := w1
    rw [e1] at y5
    rw [e3] at w5
    cases y5
    cases w5
    have e4 : a.eval (.tmp p) = .pointer (some ⟨blk 4, 0, none⟩) := p1
    have e5 : a.eval (.tmp q) = .pointer (some ⟨blk 5, 0, none⟩) := q1
    have hsl : (twoS t0 t1 t2 t3 p q 27 #[.bool false, .slice none 0 0]).slots 8 = [t0, t1, t2, t3, p, q] := rfl
    rw [hsl] at hf
    simp only [List.map_cons, List.map_nil, e0, e1, e2, e3, e4, e5] at hf
    rw [hf]
    exact hend w (blk 4) (blk 5) n1 x1 l1 k1 n2 x2 l2 k2 (below_undrew hI.below) p2 q2 (hI.apart 4 5 _ _ _ _ (by decide) (by decide) (by decide) (by decide) rfl rfl (by decide)) y4 w4 a1 a2 b1 b2 a3 b3
end Go.Proofs.Ytbihgllfllkkaaa

/- Facts for the laws of two integers. -/
set_option linter.unusedVariables false
namespace Go.Proofs.Ytbihgllfllkkaaa
open Go.RowKit Go.Proofs

/-- an answer with an error is told of z -/
def ToldOk (z er z' : Int) : Prop := (Fits z ∧ er = 0 ∧ z' = z) ∨ (¬ Fits z ∧ er = 3 ∧ z' = 0)

def OutT (W : World) (z : Int) (e : Ending) (w' : World) : Prop :=
  ∃ neg ao len cap er z', e = .returned (.tuple #[.agg #[.bool neg, .slice ao len cap], .int .i64 er]) ∧ len ≤ 512 ∧ Z32 w' neg ao len z' ∧ Below W.heap.size W w' ∧ ToldOk z er z'

theorem OutF.told {W w' : World} {z : Int} {e : Ending} (h : OutF W z e w') : OutT W z e w' := by
  rcases h with ⟨h, neg, ao, len, cap, rfl, hz, hb⟩ | ⟨h, rfl, hb⟩
  · exact ⟨neg, ao, len, cap, 0, z, rfl, fits_len hz h, hz, hb, .inl ⟨h, rfl, rfl⟩⟩
  · exact ⟨false, none, 0, 0, 3, 0, rfl, by omega, Z32.nil _, hb, .inr ⟨h, rfl, rfl⟩⟩

theorem told_any (na nb : Bool) (ao bo : Option Addr) (la lb ca cb : Nat) (z er z' : Int) (W : World) (ha : Z32 W na ao la z') (hb : Z16 W nb bo lb z) (hla : la ≤ 1000000000) (hlb : lb ≤ 1000000000) (ht : ToldOk z er z') :
    Calls Try.prog 14 #[.agg #[.bool na, .slice ao la ca], .int .i64 er, .agg #[.bool nb, .slice bo lb cb]] W (fun e w' => e = .returned (.bool true) ∧ Below W.heap.size W w') := by
  rcases ht with ⟨h1, rfl, rfl⟩ | ⟨h1, rfl, rfl⟩
  · exact told_fit _ _ _ _ _ _ _ _ _ _ ha hb hla hlb h1
  · exact told_out _ _ _ _ _ _ _ _ _ _ ha hb hla hlb h1

def Two (x y : Int) (W : World) (e : Ending) (w' : World) : Prop :=
  ∃ na ao la ca nb bo lb cb, e = .returned (.tuple #[.agg #[.bool na, .slice ao la ca], .agg #[.bool nb, .slice bo lb cb], .bool true]) ∧ la ≤ 512 ∧ lb ≤ 512 ∧ Z32 w' na ao la x ∧ Z32 w' nb bo lb y ∧ Below W.heap.size W w'

theorem TwoPost.fits {x y : Int} {W w' : World} {e : Ending} (h : TwoPost x y W e w') (hx : Fits x) (hy : Fits y) : Two x y W e w' := by
  obtain ⟨na, ao, la, ca, nb, bo, lb, cb, ok1, ok2, x', y', rfl, h1, h2, h3, h4, h5, h6, h7⟩ := h
  rcases h6 with ⟨_, rfl, rfl⟩ | ⟨h, _⟩
  · rcases h7 with ⟨_, rfl, rfl⟩ | ⟨h, _⟩
    · exact ⟨na, ao, la, ca, nb, bo, lb, cb, rfl, h1, h2, h3, h4, h5⟩
    · exact absurd hy h
  · exact absurd hx h

theorem fits_lt16 {x : Int} (hx : Fits x) : ∀ k, 16384 ≤ 16 * k → x.natAbs < B16 ^ k := by
  intro k hk
  have h1 := blen_le.2 (blen_lt x.natAbs)
  have h2 : blen x.natAbs ≤ 16 * k := Nat.le_trans hx hk
  rw [B16_pow]
  exact blen_le.1 h2

theorem sum_len16 {w : World} {neg : Bool} {ao : Option Addr} {len : Nat} {x y : Int} (hx : Fits x) (hy : Fits y) (h : Z16 w neg ao len (x + y)) : len ≤ 1000000000 := by
  refine Nat.le_trans (h.n16.len_le (k := 1026) ?_) (by omega)
  obtain ⟨k, hk⟩ : ∃ k, k = 1025 := ⟨_, rfl⟩
  have h1 := fits_lt16 hx k (by omega)
  have h2 := fits_lt16 hy k (by omega)
  have h3 : (x + y).natAbs ≤ x.natAbs + y.natAbs := Int.natAbs_add_le x y
  rw [show 1026 = k + 1 by omega, Nat.pow_succ, B16_eq] at *
  omega

theorem mul_len16 {w : World} {neg : Bool} {ao : Option Addr} {len : Nat} {x y : Int} (hx : Fits x) (hy : Fits y) (h : Z16 w neg ao len (x * y)) : len ≤ 1000000000 := by
  refine Nat.le_trans (h.n16.len_le (k := 2050) ?_) (by omega)
  obtain ⟨k, hk⟩ : ∃ k, k = 1025 := ⟨_, rfl⟩
  have h1 := fits_lt16 hx k (by omega)
  have h2 := fits_lt16 hy k (by omega)
  rw [Int.natAbs_mul, show 2050 = k + k by omega, Nat.pow_add]
  exact Nat.mul_lt_mul'' h1 h2

theorem sub_len16 {w : World} {neg : Bool} {ao : Option Addr} {len : Nat} {x y : Int} (hx : Fits x) (hy : Fits y) (h : Z16 w neg ao len (x - y)) : len ≤ 1000000000 := sum_len16 hx (fits_neg hy) h
end Go.Proofs.Ytbihgllfllkkaaa

/- Two more regions whose blocks may be made in any order: 'x, y, ok := two(of(a, n), of(b, n))' and 'i, e := x.f(y.g())'. -/
set_option linter.unusedVariables false
namespace Go.Proofs.Ytbihgllfllkkaaa
open Go.RowKit Go.Proofs

/-- v is an integer of the program, not long -/
def IsS (z : Int) (v : Value) (w : World) : Prop := ∃ n o l c, v = .agg #[.bool n, .slice o l c] ∧ l ≤ 512 ∧ Z32 w n o l z
def IsTwo (x y : Int) (v : Value) (w : World) : Prop := ∃ na ao la ca nb bo lb cb, v = .tuple #[.agg #[.bool na, .slice ao la ca], .agg #[.bool nb, .slice bo lb cb], .bool true] ∧ la ≤ 512 ∧ lb ≤ 512 ∧ Z32 w na ao la x ∧ Z32 w nb bo lb y
/-- v is an integer and no error -/
def IsE (z : Int) (v : Value) (w : World) : Prop := ∃ n o l c, v = .tuple #[.agg #[.bool n, .slice o l c], .int .i64 0] ∧ l ≤ 512 ∧ Z32 w n o l z

theorem Stable.isS (base : Nat) (z : Int) (v : Value) : Stable base (IsS z v) :=
  Stable.ex fun n => Stable.ex fun o => Stable.ex fun l => Stable.ex fun c => (Stable.const base _).and ((Stable.const base _).and (Stable.z32 base n o l z))
theorem Stable.isE (base : Nat) (z : Int) (v : Value) : Stable base (IsE z v) :=
  Stable.ex fun n => Stable.ex fun o => Stable.ex fun l => Stable.ex fun c => (Stable.const base _).and ((Stable.const base _).and (Stable.z32 base n o l z))
theorem Stable.isTwo (base : Nat) (x y : Int) (v : Value) : Stable base (IsTwo x y v) :=
  Stable.ex fun na => Stable.ex fun ao => Stable.ex fun la => Stable.ex fun ca => Stable.ex fun nb => Stable.ex fun bo => Stable.ex fun lb => Stable.ex fun cb =>
    (Stable.const base _).and ((Stable.const base _).and ((Stable.const base _).and ((Stable.z32 base na ao la x).and (Stable.z32 base nb bo lb y))))

theorem OutF.noErr {W w' : World} {z : Int} {e : Ending} (h : OutF W z e w') (hf : Fits z) : ∃ v, e = .returned v ∧ IsE z v w' ∧ Below W.heap.size W w' := by
  rcases h with ⟨_, n, o, l, c, rfl, hz, hb⟩ | ⟨hn, _⟩
  · exact ⟨_, rfl, ⟨n, o, l, c, rfl, fits_len hz hf, hz⟩, hb⟩
  · exact absurd hf hn

theorem Two.is {x y : Int} {W w' : World} {e : Ending} (h : Two x y W e w') : ∃ v, e = .returned v ∧ IsTwo x y v w' ∧ Below W.heap.size W w' := by
  obtain ⟨na, ao, la, ca, nb, bo, lb, cb, rfl, h1, h2, h3, h4, h5⟩ := h
  exact ⟨_, rfl, ⟨na, ao, la, ca, nb, bo, lb, cb, rfl, h1, h2, h3, h4⟩, h5⟩

theorem OutI.is {W w' : World} {z : Int} {e : Ending} (h : OutI W z e w') : ∃ v, e = .returned v ∧ IsI z v w' ∧ Below W.heap.size W w' := by
  obtain ⟨n, o, l, c, rfl, h3, h4⟩ := h
  exact ⟨_, rfl, ⟨n, o, l, c, rfl, h3⟩, h4⟩

theorem run_move {P : Program} {o : Oper} {t : Nat} (h : o.op = .move (.tmp t)) (a : Act) (w : World) : (execOp a.eval o).run P w = .ok (.value (a.eval (.tmp t))) w := by
  unfold execOp
  rw [h]
  rfl
theorem run_assign {P : Program} {o : Oper} {t : Nat} (h : o.op = .assign (.tmp t)) (a : Act) (w : World) : (execOp a.eval o).run P w = .ok (.value (a.eval (.tmp t))) w := by
  unfold execOp
  rw [h]
  rfl
theorem run_extract {P : Program} {o : Oper} {t i : Nat} {vs : Array Value} {v : Value} (h : o.op = .extract (.tmp t) i) {a : Act} (he : a.eval (.tmp t) = .tuple vs) (hv : vs[i]? = some v) (w : World) : (execOp a.eval o).run P w = .ok (.value v) w := by
  unfold execOp
  rw [h]
  dsimp only
  rw [he]
  simp [go_sem, Instr.extract, hv]

def ttS (t0 t1 t2 t3 t4 t5 t6 t7 t8 p q k : Nat) (T : Nat) (z : Array Value) : Shape where
  f := fun i => match i with | 0 => t0 | 1 => t1 | 2 => t2 | 3 => t3 | 4 => t4 | 5 => t5 | 6 => t6 | 7 => t7 | 8 => t8 | 9 => p | 10 => q | 13 => k | _ => 0
  kd := fun i => match i with | 9 => .box T z | 10 => .box T z | 11 => .put 9 6 | 12 => .put 10 7 | _ => .val
  need := fun i => match i with | 1 => [0] | 3 => [2] | 4 => [1, 3] | 5 => [4] | 6 => [5] | 7 => [5] | 8 => [5] | 11 => [9, 6] | 12 => [10, 7] | 13 => [8] | _ => []
  st := fun i => match i with | 9 => 11 | _ => 12
  src := fun i => match i with | 9 => 6 | _ => 7

def ttΦ (r1 r2 : Value) (z1 z2 : Int) (i : Nat) (v : Value) (w : World) : Prop :=
  match i with | 0 => v = r1 | 1 => IsJ z1 v w | 2 => v = r2 | 3 => IsJ z2 v w | 4 => IsTwo z1 z2 v w | 5 => IsTwo z1 z2 v w | 6 => IsS z1 v w | 7 => IsS z2 v w | _ => v = .bool true

set_option maxHeartbeats 2000000 in
theorem two_two {Q : Exit → Act → World → Prop} {id : Nat} {a0 : Act} {W : World} {o0 o1 o2 o3 o4 o5 o6 o7 o8 o9 o10 o11 o12 o13 : Oper} (t0 t1 t2 t3 t4 t5 t6 t7 t8 p q k r s : Nat) (f f2 : FuncId) (K : Value) (u1 u2 v1 v2 : Value) (g h : Nat) (z1 z2 : Int) (ts ts2 : Array TypeId) {fn fn2 : Func} {cb cb2 : Code}
    (hfn : Try.prog.funcs[f]? = some fn) (hname : (fn.name == "runtime.NumGoroutine") = false) (hbody : fn.body = some cb)
    (hfn2 : Try.prog.funcs[f2]? = some fn2) (hname2 : (fn2.name == "runtime.NumGoroutine") = false) (hbody2 : fn2.body = some cb2)
    (hok : (ttS t0 t1 t2 t3 t4 t5 t6 t7 t8 p q k 31 #[.bool false, .slice none 0 0]).ok #[o0, o1, o2, o3, o4, o5, o6, o7, o8, o9, o10, o11, o12, o13] a0.tmps.size = true)
    (h0 : o0.op = .load 24 (.tmp r)) (h1 : o1.op = .call { callee := .value (.func f), args := #[.tmp t0, .const K], argTypes := ts })
    (h2 : o2.op = .load 24 (.tmp s)) (h3 : o3.op = .call { callee := .value (.func f), args := #[.tmp t2, .const K], argTypes := ts })
    (h4 : o4.op = .call { callee := .value (.func f2), args := #[.tmp t1, .tmp t3], argTypes := ts2 }) (h5 : o5.op = .move (.tmp t4))
    (h6 : o6.op = .extract (.tmp t5) 0) (h7 : o7.op = .extract (.tmp t5) 1) (h8 : o8.op = .extract (.tmp t5) 2)
    (h9 : o9.op = .alloc 31) (h10 : o10.op = .alloc 31) (h11 : o11.op = .store 31 (.tmp p) (.tmp t6)) (h12 : o12.op = .store 31 (.tmp q) (.tmp t7)) (h13 : o13.op = .assign (.tmp t8))
    (hr : a0.eval (.tmp r) = .pointer (some ⟨g, 0, none⟩)) (hs : a0.eval (.tmp s) = .pointer (some ⟨h, 0, none⟩))
    (hrs : r ∉ [t0, t1, t2, t3, t4, t5, t6, t7, t8, p, q, k]) (hss : s ∉ [t0, t1, t2, t3, t4, t5, t6, t7, t8, p, q, k]) (hg : g < W.heap.size) (hh : h < W.heap.size)
    (c1 : W.cell? ⟨g, 0, none⟩ = some u1) (c2 : W.cell? ⟨g, 1, none⟩ = some u2) (c3 : W.cell? ⟨h, 0, none⟩ = some v1) (c4 : W.cell? ⟨h, 1, none⟩ = some v2)
    (hc1 : ∀ w, Below W.heap.size W w → W.heap.size ≤ w.heap.size → Calls Try.prog f #[.agg #[u1, u2], K] w (OutJ w z1))
    (hc2 : ∀ w, Below W.heap.size W w → W.heap.size ≤ w.heap.size → Calls Try.prog f #[.agg #[v1, v2], K] w (OutJ w z2))
    (hc3 : ∀ w n1 x1 l1 k1 n2 x2 l2 k2, Z16 w n1 x1 l1 z1 → Z16 w n2 x2 l2 z2 → Calls Try.prog f2 #[.agg #[.bool n1, .slice x1 l1 k1], .agg #[.bool n2, .slice x2 l2 k2]] w (Two z1 z2 w))
    (hend : ∀ w b1 b2 n1 x1 l1 k1 n2 x2 l2 k2 d1 d3 d4 d5, Below W.heap.size W w → W.heap.size ≤ b1 → W.heap.size ≤ b2 → b1 ≠ b2 → Box w b1 31 #[.bool n1, .slice x1 l1 k1] → Box w b2 31 #[.bool n2, .slice x2 l2 k2] →
      l1 ≤ 512 → l2 ≤ 512 → Z32 w n1 x1 l1 z1 → Z32 w n2 x2 l2 z2 →
      Q .normal (puts a0 [(t0, .agg #[u1, u2]), (t1, d1), (t2, .agg #[v1, v2]), (t3, d3), (t4, d4), (t5, d5), (t6, .agg #[.bool n1, .slice x1 l1 k1]), (t7, .agg #[.bool n2, .slice x2 l2 k2]), (t8, .bool true),
        (p, .pointer (some ⟨b1, 0, none⟩)), (q, .pointer (some ⟨b2, 0, none⟩)), (k, .bool true)]) w) :
    (Code.region id #[o0, o1, o2, o3, o4, o5, o6, o7, o8, o9, o10, o11, o12, o13] true).wp Try.prog Q a0 W := by
  refine Shape.region (ttS t0 t1 t2 t3 t4 t5 t6 t7 t8 p q k 31 #[.bool false, .slice none 0 0]) (fun i v w => ttΦ (.agg #[u1, u2]) (.agg #[v1, v2]) z1 z2 i (v i) w) (by kernel_rfl) hok
    (fun i v v' w _ hj hΦ => by rw [← hj i (.inl rfl)]; exact hΦ) ?stab ?val ?box ?put rfl ?fin
  case stab =>
    intro i v hi
    match i with
    | 0 => exact Stable.const _ _
    | 1 => exact Stable.isJ _ _ _
    | 2 => exact Stable.const _ _
    | 3 => exact Stable.isJ _ _ _
    | 4 => exact Stable.isTwo _ _ _ _
    | 5 => exact Stable.isTwo _ _ _ _
    | 6 => exact Stable.isS _ _ _
    | 7 => exact Stable.isS _ _ _
    | i + 8 => exact Stable.const _ _
  case val =>
    intro i o ho hv a w hA hb hz hn K' hK
    match i, ho, hv with
    | 0, ho, _ =>
      have ho' : o0 = o := by simpa using ho
      subst ho'
      have e : a.eval (.tmp r) = .pointer (some ⟨g, 0, none⟩) := (hA.eval hrs).trans hr
      refine wp_value (v := .agg #[u1, u2]) (w' := w) ?_ (hK _ _ (Below.refl _ _) (by simp [upd, ttΦ]))
      have d1 := (hb.cell (p := ⟨g, 0, none⟩) hg).trans c1
      have d2 := (hb.cell (p := ⟨g, 1, none⟩) hg).trans c2
      unfold execOp
      rw [h0]
      dsimp only
      rw [e]
      simp [go_sem, d1, d2]
    | 1, ho, _ =>
      have ho' : o1 = o := by simpa using ho
      subst ho'
      have e := hn 0 (by simp [ttS]) rfl
      refine wp_call (run_call hfn hname hbody h1 a w) ((?_ : Calls _ _ _ _ _).mono fun e w' h => OutJ.is h) (fun v w' hb' hφ => hK v w' hb' (by simpa [upd, ttΦ] using hφ))
      have e2 : a.eval (.tmp t0) = .agg #[u1, u2] := e
      have em : Array.map a.eval #[Operand.tmp t0, Operand.const K] = #[a.eval (.tmp t0), K] := by simp only [List.map_toArray, List.map_cons, List.map_nil]; rfl
      rw [em, e2]
      exact hc1 w (below_undrew hb) hz
    | 2, ho, _ =>
      have ho' : o2 = o := by simpa using ho
      subst ho'
      have e : a.eval (.tmp s) = .pointer (some ⟨h, 0, none⟩) := (hA.eval hss).trans hs
      refine wp_value (v := .agg #[v1, v2]) (w' := w) ?_ (hK _ _ (Below.refl _ _) (by simp [upd, ttΦ]))
      have d1 := (hb.cell (p := ⟨h, 0, none⟩) hh).trans c3
      have d2 := (hb.cell (p := ⟨h, 1, none⟩) hh).trans c4
      unfold execOp
      rw [h2]
      dsimp only
      rw [e]
      simp [go_sem, d1, d2]
    | 3, ho, _ =>
      have ho' : o3 = o := by simpa using ho
      subst ho'
      have e := hn 2 (by simp [ttS]) rfl
      refine wp_call (run_call hfn hname hbody h3 a w) ((?_ : Calls _ _ _ _ _).mono fun e w' h => OutJ.is h) (fun v w' hb' hφ => hK v w' hb' (by simpa [upd, ttΦ] using hφ))
      have e2 : a.eval (.tmp t2) = .agg #[v1, v2] := e
      have em : Array.map a.eval #[Operand.tmp t2, Operand.const K] = #[a.eval (.tmp t2), K] := by simp only [List.map_toArray, List.map_cons, List.map_nil]; rfl
      rw [em, e2]
      exact hc2 w (below_undrew hb) hz
    | 4, ho, _ =>
      have ho' : o4 = o := by simpa using ho
      subst ho'
      obtain ⟨n1, x1, l1, k1, e1, _, _, y1⟩ : IsJ z1 (a.eval (.tmp t1)) w := hn 1 (by simp [ttS]) rfl
      obtain ⟨n2, x2, l2, k2, e2, _, _, y2⟩ : IsJ z2 (a.eval (.tmp t3)) w := hn 3 (by simp [ttS]) rfl
      refine wp_call (run_call hfn2 hname2 hbody2 h4 a w) ((?_ : Calls _ _ _ _ _).mono fun e w' h => Two.is h) (fun v w' hb' hφ => hK v w' hb' (by simpa [upd, ttΦ] using hφ))
      have em : Array.map a.eval #[Operand.tmp t1, Operand.tmp t3] = #[a.eval (.tmp t1), a.eval (.tmp t3)] := by simp only [List.map_toArray, List.map_cons, List.map_nil]
      rw [em, e1, e2]
      exact hc3 w n1 x1 l1 k1 n2 x2 l2 k2 y1 y2
    | 5, ho, _ =>
      have ho' : o5 = o := by simpa using ho
      subst ho'
      have e : IsTwo z1 z2 (a.eval (.tmp t4)) w := hn 4 (by simp [ttS]) rfl
      exact wp_value (run_move h5 a w) (hK _ _ (Below.refl _ _) (by simpa [upd, ttΦ] using e))
    | 6, ho, _ =>
      have ho' : o6 = o := by simpa using ho
      subst ho'
      obtain ⟨na, ao, la, ca, nb, bo, lb, cb, e, m1, m2, y1, y2⟩ : IsTwo z1 z2 (a.eval (.tmp t5)) w := hn 5 (by simp [ttS]) rfl
      exact wp_value (run_extract h6 e rfl w) (hK _ _ (Below.refl _ _) (by simp only [upd, ttΦ, if_true]; exact ⟨na, ao, la, ca, rfl, m1, y1⟩))
    | 7, ho, _ =>
      have ho' : o7 = o := by simpa using ho
      subst ho'
      obtain ⟨na, ao, la, ca, nb, bo, lb, cb, e, m1, m2, y1, y2⟩ : IsTwo z1 z2 (a.eval (.tmp t5)) w := hn 5 (by simp [ttS]) rfl
      exact wp_value (run_extract h7 e rfl w) (hK _ _ (Below.refl _ _) (by simp only [upd, ttΦ, if_true]; exact ⟨nb, bo, lb, cb, rfl, m2, y2⟩))
    | 8, ho, _ =>
      have ho' : o8 = o := by simpa using ho
      subst ho'
      obtain ⟨na, ao, la, ca, nb, bo, lb, cb, e, m1, m2, y1, y2⟩ : IsTwo z1 z2 (a.eval (.tmp t5)) w := hn 5 (by simp [ttS]) rfl
      exact wp_value (run_extract h8 e rfl w) (hK _ _ (Below.refl _ _) (by simp [upd, ttΦ]))
    | 13, ho, _ =>
      have ho' : o13 = o := by simpa using ho
      subst ho'
      have e : a.eval (.tmp t8) = .bool true := hn 8 (by simp [ttS]) rfl
      exact wp_value (run_assign h13 a w) (hK _ _ (Below.refl _ _) (by simpa [upd, ttΦ] using e))
    | 9, _, hv => cases hv
    | 10, _, hv => cases hv
    | 11, _, hv => cases hv
    | 12, _, hv => cases hv
    | i + 14, ho, _ => simp at ho
  case box =>
    intro i o T z ho hk a w
    match i, ho, hk with
    | 9, ho, hk => have ho' : o9 = o := by simpa using ho
                   subst ho'; cases hk; unfold execOp; rw [h9]; simp [go_sem]
    | 10, ho, hk => have ho' : o10 = o := by simpa using ho
                    subst ho'; cases hk; unfold execOp; rw [h10]; simp [go_sem]
    | 0, _, hk => cases hk
    | 1, _, hk => cases hk
    | 2, _, hk => cases hk
    | 3, _, hk => cases hk
    | 4, _, hk => cases hk
    | 5, _, hk => cases hk
    | 6, _, hk => cases hk
    | 7, _, hk => cases hk
    | 8, _, hk => cases hk
    | 11, _, hk => cases hk
    | 12, _, hk => cases hk
    | 13, _, hk => cases hk
    | i + 14, ho, _ => simp at ho
  case put =>
    intro i o p' s' T z ho hk hp a w b hva hφ hbx
    match i, ho, hk with
    | 0, _, hk => cases hk
    | 1, _, hk => cases hk
    | 2, _, hk => cases hk
    | 3, _, hk => cases hk
    | 4, _, hk => cases hk
    | 5, _, hk => cases hk
    | 6, _, hk => cases hk
    | 7, _, hk => cases hk
    | 8, _, hk => cases hk
    | 9, _, hk => cases hk
    | 10, _, hk => cases hk
    | 13, _, hk => cases hk
    | i + 14, ho, _ => simp at ho
    | 11, ho, hk =>
      have ho' : o11 = o := by simpa using ho
      subst ho'; cases hk; cases hp
      obtain ⟨n, x, l, c, e, _⟩ := hφ
      have e1 : a.eval (.tmp t6) = .agg #[.bool n, .slice x l c] := e
      have e2 : a.eval (.tmp p) = .pointer (some ⟨b, 0, none⟩) := hva
      have d1 := hbx.cell 0
      have d2 := hbx.cell 1
      have f1 := hbx.frozen 0
      have f2 := hbx.frozen 1
      refine ⟨[.bool n, .slice x l c], e, rfl, by simp [isInt], ?_⟩
      unfold execOp; rw [h11]
      dsimp only
      rw [e1, e2]
      simp [go_sem, d1, d2, f1, f2, setFrom]
    | 12, ho, hk =>
      have ho' : o12 = o := by simpa using ho
      subst ho'; cases hk; cases hp
      obtain ⟨n, x, l, c, e, _⟩ := hφ
      have e1 : a.eval (.tmp t7) = .agg #[.bool n, .slice x l c] := e
      have e2 : a.eval (.tmp q) = .pointer (some ⟨b, 0, none⟩) := hva
      have d1 := hbx.cell 0
      have d2 := hbx.cell 1
      have f1 := hbx.frozen 0
      have f2 := hbx.frozen 1
      refine ⟨[.bool n, .slice x l c], e, rfl, by simp [isInt], ?_⟩
      unfold execOp; rw [h12]
      dsimp only
      rw [e1, e2]
      simp [go_sem, d1, d2, f1, f2, setFrom]
  case fin =>
    intro a w blk hI
    have n8 : (#[o0, o1, o2, o3, o4, o5, o6, o7, o8, o9, o10, o11, o12, o13] : Array Oper).size = 14 := rfl
    rw [n8] at hI
    have hf := hI.agree.form
    have e0 : a.eval (.tmp t0) = .agg #[u1, u2] := hI.vals 0 (by decide) (by decide) rfl
    have e2 : a.eval (.tmp t2) = .agg #[v1, v2] := hI.vals 2 (by decide) (by decide) rfl
    obtain ⟨n1, x1, l1, k1, e6, a1, a3⟩ : IsS z1 (a.eval (.tmp t6)) w := hI.vals 6 (by decide) (by decide) rfl
    obtain ⟨n2, x2, l2, k2, e7, b1, b3⟩ : IsS z2 (a.eval (.tmp t7)) w := hI.vals 7 (by decide) (by decide) rfl
    have e8 : a.eval (.tmp t8) = .bool true := hI.vals 8 (by decide) (by decide) rfl
    have e13 : a.eval (.tmp k) = .bool true := hI.vals 13 (by decide) (by decide) rfl
    obtain ⟨p1, p2, _, p3⟩ := hI.boxes 9 31 #[.bool false, .slice none 0 0] (by decide) (by decide) rfl
    obtain ⟨us, y1, y2, y3, y4⟩ := p3 (show (11 : Nat) < 14 by decide)
    obtain ⟨q1, q2, _, q3⟩ := hI.boxes 10 31 #[.bool false, .slice none 0 0] (by decide) (by decide) rfl
    obtain ⟨vs, w1, w2, w3, w4⟩ := q3 (show (12 : Nat) < 14 by decide)
    have y5 : a.eval (.tmp t6) = .agg us.toArray := y1
    have w5 : a.eval (.tmp t7) = .agg vs.toArray := w1
    rw [e6] at y5
    rw [e7] at w5
    cases y5
    cases w5
    have e9 : a.eval (.tmp p) = .pointer (some ⟨blk 9, 0, none⟩) := p1
    have e10 : a.eval (.tmp q) = .pointer (some ⟨blk 10, 0, none⟩) := q1
    have hsl : (ttS t0 t1 t2 t3 t4 t5 t6 t7 t8 p q k 31 #[.bool false, .slice none 0 0]).slots 14 = [t0, t1, t2, t3, t4, t5, t6, t7, t8, p, q, k] := rfl
    rw [hsl] at hf
    simp only [List.map_cons, List.map_nil, e0, e2, e6, e7, e8, e9, e10, e13] at hf
    rw [hf]
    exact hend w (blk 9) (blk 10) n1 x1 l1 k1 n2 x2 l2 k2 _ _ _ _ (below_undrew hI.below) p2 q2 (hI.apart 9 10 _ _ _ _ (by decide) (by decide) (by decide) (by decide) rfl rfl (by decide)) y4 w4 a1 b1 a3 b3
end Go.Proofs.Ytbihgllfllkkaaa

/- A region 'i, e := x.f(y.g())', whose block may be made at any time. -/
set_option linter.unusedVariables false
namespace Go.Proofs.Ytbihgllfllkkaaa
open Go.RowKit Go.Proofs

def neS (t0 t1 t2 t3 t4 t5 t6 p k : Nat) (T : Nat) (z : Array Value) : Shape where
  f := fun i => match i with | 0 => t0 | 1 => t1 | 2 => t2 | 3 => t3 | 4 => t4 | 5 => t5 | 6 => t6 | 7 => p | 9 => k | _ => 0
  kd := fun i => match i with | 7 => .box T z | 8 => .put 7 5 | _ => .val
  need := fun i => match i with | 2 => [1] | 3 => [0, 2] | 4 => [3] | 5 => [4] | 6 => [4] | 8 => [7, 5] | 9 => [6] | _ => []
  st := fun _ => 8
  src := fun _ => 5

def neΦ (r1 r2 : Value) (zn z : Int) (i : Nat) (v : Value) (w : World) : Prop :=
  match i with | 0 => v = r1 | 1 => v = r2 | 2 => IsS zn v w | 3 => IsE z v w | 4 => IsE z v w | 5 => IsS z v w | _ => v = .int .i64 0

set_option maxHeartbeats 2000000 in
theorem nested {Q : Exit → Act → World → Prop} {id : Nat} {a0 : Act} {W : World} {o0 o1 o2 o3 o4 o5 o6 o7 o8 o9 : Oper} (t0 t1 t2 t3 t4 t5 t6 p k r s : Nat) (f f2 : FuncId) (u1 u2 v1 v2 : Value) (g h : Nat) (zn z : Int) (ts ts2 : Array TypeId) {fn fn2 : Func} {cb cb2 : Code}
    (hfn : Try.prog.funcs[f]? = some fn) (hname : (fn.name == "runtime.NumGoroutine") = false) (hbody : fn.body = some cb)
    (hfn2 : Try.prog.funcs[f2]? = some fn2) (hname2 : (fn2.name == "runtime.NumGoroutine") = false) (hbody2 : fn2.body = some cb2)
    (hok : (neS t0 t1 t2 t3 t4 t5 t6 p k 31 #[.bool false, .slice none 0 0]).ok #[o0, o1, o2, o3, o4, o5, o6, o7, o8, o9] a0.tmps.size = true)
    (h0 : o0.op = .load 31 (.tmp r)) (h1 : o1.op = .load 31 (.tmp s)) (h2 : o2.op = .call { callee := .value (.func f), args := #[.tmp t1], argTypes := ts })
    (h3 : o3.op = .call { callee := .value (.func f2), args := #[.tmp t0, .tmp t2], argTypes := ts2 }) (h4 : o4.op = .move (.tmp t3))
    (h5 : o5.op = .extract (.tmp t4) 0) (h6 : o6.op = .extract (.tmp t4) 1)
    (h7 : o7.op = .alloc 31) (h8 : o8.op = .store 31 (.tmp p) (.tmp t5)) (h9 : o9.op = .assign (.tmp t6))
    (hr : a0.eval (.tmp r) = .pointer (some ⟨g, 0, none⟩)) (hs : a0.eval (.tmp s) = .pointer (some ⟨h, 0, none⟩))
    (hrs : r ∉ [t0, t1, t2, t3, t4, t5, t6, p, k]) (hss : s ∉ [t0, t1, t2, t3, t4, t5, t6, p, k]) (hg : g < W.heap.size) (hh : h < W.heap.size)
    (c1 : W.cell? ⟨g, 0, none⟩ = some u1) (c2 : W.cell? ⟨g, 1, none⟩ = some u2) (c3 : W.cell? ⟨h, 0, none⟩ = some v1) (c4 : W.cell? ⟨h, 1, none⟩ = some v2)
    (hc1 : ∀ w, Below W.heap.size W w → Calls Try.prog f #[.agg #[v1, v2]] w (fun e w' => ∃ v, e = .returned v ∧ IsS zn v w' ∧ Below w.heap.size w w'))
    (hc2 : ∀ w n x l c, Below W.heap.size W w → l ≤ 512 → Z32 w n x l zn → Calls Try.prog f2 #[.agg #[u1, u2], .agg #[.bool n, .slice x l c]] w (fun e w' => ∃ v, e = .returned v ∧ IsE z v w' ∧ Below w.heap.size w w'))
    (hend : ∀ w b1 n x l c d2 d3 d4, Below W.heap.size W w → W.heap.size ≤ b1 → Box w b1 31 #[.bool n, .slice x l c] → l ≤ 512 → Z32 w n x l z →
      Q .normal (puts a0 [(t0, .agg #[u1, u2]), (t1, .agg #[v1, v2]), (t2, d2), (t3, d3), (t4, d4), (t5, .agg #[.bool n, .slice x l c]), (t6, .int .i64 0), (p, .pointer (some ⟨b1, 0, none⟩)), (k, .int .i64 0)]) w) :
    (Code.region id #[o0, o1, o2, o3, o4, o5, o6, o7, o8, o9] true).wp Try.prog Q a0 W := by
  refine Shape.region (neS t0 t1 t2 t3 t4 t5 t6 p k 31 #[.bool false, .slice none 0 0]) (fun i v w => neΦ (.agg #[u1, u2]) (.agg #[v1, v2]) zn z i (v i) w) (by kernel_rfl) hok
    (fun i v v' w _ hj hΦ => by rw [← hj i (.inl rfl)]; exact hΦ) ?stab ?val ?box ?put rfl ?fin
  case stab =>
    intro i v hi
    match i with
    | 0 => exact Stable.const _ _
    | 1 => exact Stable.const _ _
    | 2 => exact Stable.isS _ _ _
    | 3 => exact Stable.isE _ _ _
    | 4 => exact Stable.isE _ _ _
    | 5 => exact Stable.isS _ _ _
    | i + 6 => exact Stable.const _ _
  case val =>
    intro i o ho hv a w hA hb hz hn K' hK
    match i, ho, hv with
    | 0, ho, _ =>
      have ho' : o0 = o := by simpa using ho
      subst ho'
      have e : a.eval (.tmp r) = .pointer (some ⟨g, 0, none⟩) := (hA.eval hrs).trans hr
      refine wp_value (v := .agg #[u1, u2]) (w' := w) ?_ (hK _ _ (Below.refl _ _) (by simp [upd, neΦ]))
      have d1 := (hb.cell (p := ⟨g, 0, none⟩) hg).trans c1
      have d2 := (hb.cell (p := ⟨g, 1, none⟩) hg).trans c2
      unfold execOp
      rw [h0]
      dsimp only
      rw [e]
      simp [go_sem, d1, d2]
    | 1, ho, _ =>
      have ho' : o1 = o := by simpa using ho
      subst ho'
      have e : a.eval (.tmp s) = .pointer (some ⟨h, 0, none⟩) := (hA.eval hss).trans hs
      refine wp_value (v := .agg #[v1, v2]) (w' := w) ?_ (hK _ _ (Below.refl _ _) (by simp [upd, neΦ]))
      have d1 := (hb.cell (p := ⟨h, 0, none⟩) hh).trans c3
      have d2 := (hb.cell (p := ⟨h, 1, none⟩) hh).trans c4
      unfold execOp
      rw [h1]
      dsimp only
      rw [e]
      simp [go_sem, d1, d2]
    | 2, ho, _ =>
      have ho' : o2 = o := by simpa using ho
      subst ho'
      have e : a.eval (.tmp t1) = .agg #[v1, v2] := hn 1 (by simp [neS]) rfl
      refine wp_call (run_call hfn hname hbody h2 a w) ?_ (fun v w' hb' hφ => hK v w' hb' (by simpa [upd, neΦ] using hφ))
      have em : Array.map a.eval #[Operand.tmp t1] = #[a.eval (.tmp t1)] := by simp only [List.map_toArray, List.map_cons, List.map_nil]
      rw [em, e]
      exact hc1 w (below_undrew hb)
    | 3, ho, _ =>
      have ho' : o3 = o := by simpa using ho
      subst ho'
      have e : a.eval (.tmp t0) = .agg #[u1, u2] := hn 0 (by simp [neS]) rfl
      obtain ⟨n, x, l, c, e2, y1, y2⟩ : IsS zn (a.eval (.tmp t2)) w := hn 2 (by simp [neS]) rfl
      refine wp_call (run_call hfn2 hname2 hbody2 h3 a w) ?_ (fun v w' hb' hφ => hK v w' hb' (by simpa [upd, neΦ] using hφ))
      have em : Array.map a.eval #[Operand.tmp t0, Operand.tmp t2] = #[a.eval (.tmp t0), a.eval (.tmp t2)] := by simp only [List.map_toArray, List.map_cons, List.map_nil]
      rw [em, e, e2]
      exact hc2 w n x l c (below_undrew hb) y1 y2
    | 4, ho, _ =>
      have ho' : o4 = o := by simpa using ho
      subst ho'
      have e : IsE z (a.eval (.tmp t3)) w := hn 3 (by simp [neS]) rfl
      exact wp_value (run_move h4 a w) (hK _ _ (Below.refl _ _) (by simpa [upd, neΦ] using e))
    | 5, ho, _ =>
      have ho' : o5 = o := by simpa using ho
      subst ho'
      obtain ⟨n, x, l, c, e, m1, y1⟩ : IsE z (a.eval (.tmp t4)) w := hn 4 (by simp [neS]) rfl
      exact wp_value (run_extract h5 e rfl w) (hK _ _ (Below.refl _ _) (by simp only [upd, neΦ, if_true]; exact ⟨n, x, l, c, rfl, m1, y1⟩))
    | 6, ho, _ =>
      have ho' : o6 = o := by simpa using ho
      subst ho'
      obtain ⟨n, x, l, c, e, m1, y1⟩ : IsE z (a.eval (.tmp t4)) w := hn 4 (by simp [neS]) rfl
      exact wp_value (run_extract h6 e rfl w) (hK _ _ (Below.refl _ _) (by simp [upd, neΦ]))
    | 9, ho, _ =>
      have ho' : o9 = o := by simpa using ho
      subst ho'
      have e : a.eval (.tmp t6) = .int .i64 0 := hn 6 (by simp [neS]) rfl
      exact wp_value (run_assign h9 a w) (hK _ _ (Below.refl _ _) (by simpa [upd, neΦ] using e))
    | 7, _, hv => cases hv
    | 8, _, hv => cases hv
    | i + 10, ho, _ => simp at ho
  case box =>
    intro i o T z ho hk a w
    match i, ho, hk with
    | 7, ho, hk => have ho' : o7 = o := by simpa using ho
                   subst ho'; cases hk; unfold execOp; rw [h7]; simp [go_sem]
    | 0, _, hk => cases hk
    | 1, _, hk => cases hk
    | 2, _, hk => cases hk
    | 3, _, hk => cases hk
    | 4, _, hk => cases hk
    | 5, _, hk => cases hk
    | 6, _, hk => cases hk
    | 8, _, hk => cases hk
    | 9, _, hk => cases hk
    | i + 10, ho, _ => simp at ho
  case put =>
    intro i o p' s' T z ho hk hp a w b hva hφ hbx
    match i, ho, hk with
    | 0, _, hk => cases hk
    | 1, _, hk => cases hk
    | 2, _, hk => cases hk
    | 3, _, hk => cases hk
    | 4, _, hk => cases hk
    | 5, _, hk => cases hk
    | 6, _, hk => cases hk
    | 7, _, hk => cases hk
    | 9, _, hk => cases hk
    | i + 10, ho, _ => simp at ho
    | 8, ho, hk =>
      have ho' : o8 = o := by simpa using ho
      subst ho'; cases hk; cases hp
      obtain ⟨n, x, l, c, e, _⟩ := hφ
      have e1 : a.eval (.tmp t5) = .agg #[.bool n, .slice x l c] := e
      have e2 : a.eval (.tmp p) = .pointer (some ⟨b, 0, none⟩) := hva
      have d1 := hbx.cell 0
      have d2 := hbx.cell 1
      have f1 := hbx.frozen 0
      have f2 := hbx.frozen 1
      refine ⟨[.bool n, .slice x l c], e, rfl, by simp [isInt], ?_⟩
      unfold execOp; rw [h8]
      dsimp only
      rw [e1, e2]
      simp [go_sem, d1, d2, f1, f2, setFrom]
  case fin =>
    intro a w blk hI
    have n8 : (#[o0, o1, o2, o3, o4, o5, o6, o7, o8, o9] : Array Oper).size = 10 := rfl
    rw [n8] at hI
    have hf := hI.agree.form
    have e0 : a.eval (.tmp t0) = .agg #[u1, u2] := hI.vals 0 (by decide) (by decide) rfl
    have e1 : a.eval (.tmp t1) = .agg #[v1, v2] := hI.vals 1 (by decide) (by decide) rfl
    obtain ⟨n, x, l, c, e5, a1, a3⟩ : IsS z (a.eval (.tmp t5)) w := hI.vals 5 (by decide) (by decide) rfl
    have e6 : a.eval (.tmp t6) = .int .i64 0 := hI.vals 6 (by decide) (by decide) rfl
    have e9 : a.eval (.tmp k) = .int .i64 0 := hI.vals 9 (by decide) (by decide) rfl
    obtain ⟨p1, p2, _, p3⟩ := hI.boxes 7 31 #[.bool false, .slice none 0 0] (by decide) (by decide) rfl
    obtain ⟨us, y1, y2, y3, y4⟩ := p3 (show (8 : Nat) < 10 by decide)
    have y5 : a.eval (.tmp t5) = .agg us.toArray := y1
    rw [e5] at y5
    cases y5
    have e7 : a.eval (.tmp p) = .pointer (some ⟨blk 7, 0, none⟩) := p1
    have hsl : (neS t0 t1 t2 t3 t4 t5 t6 p k 31 #[.bool false, .slice none 0 0]).slots 10 = [t0, t1, t2, t3, t4, t5, t6, p, k] := rfl
    rw [hsl] at hf
    simp only [List.map_cons, List.map_nil, e0, e1, e5, e6, e7, e9] at hf
    rw [hf]
    exact hend w (blk 7) n x l c _ _ _ (below_undrew hI.below) p2 y4 a1 a3
end Go.Proofs.Ytbihgllfllkkaaa

/- The laws' helper fine. -/
set_option linter.unusedVariables false
namespace Go.Proofs.Ytbihgllfllkkaaa
open Go.RowKit Go.Proofs

end Go.Proofs.Ytbihgllfllkkaaa

/- Facts for the laws of rings. -/
set_option linter.unusedVariables false
namespace Go.Proofs.Ytbihgllfllkkaaa
open Go.RowKit Go.Proofs

def Bl (k : Nat) (z : Int) : Prop := blen z.natAbs ≤ k

theorem Bl.fits {k : Nat} {z : Int} (h : Bl k z) (hk : k ≤ 16384) : Fits z := Nat.le_trans h hk
theorem Bl.mono {k j : Nat} {z : Int} (h : Bl k z) (hk : k ≤ j) : Bl j z := Nat.le_trans h hk
theorem Bl.neg {k : Nat} {z : Int} (h : Bl k z) : Bl k (-z) := by unfold Bl at *; rwa [Int.natAbs_neg]
theorem Bl.add {k : Nat} {x y : Int} (hx : Bl k x) (hy : Bl k y) : Bl (k + 1) (x + y) := by
  unfold Bl at *
  rw [blen_le] at *
  have := Int.natAbs_add_le x y
  rw [Nat.pow_succ]
  omega
theorem Bl.sub {k : Nat} {x y : Int} (hx : Bl k x) (hy : Bl k y) : Bl (k + 1) (x - y) := hx.add hy.neg
theorem Bl.mul {j k : Nat} {x y : Int} (hx : Bl j x) (hy : Bl k y) : Bl (j + k) (x * y) := by
  unfold Bl at *
  rw [blen_le] at *
  rw [Int.natAbs_mul, Nat.pow_add]
  exact Nat.mul_lt_mul'' hx hy

theorem rawZ_bl (s : Bool) (xs : List Nat) (hd : Dig B16 xs) (most : Nat) : Bl (16 * most) (rawZ s xs most) := by
  have h1 := rawZ_lt s xs hd most
  rw [B16_pow] at h1
  exact blen_le.2 h1

def OutE (W : World) (z : Int) (e : Ending) (w' : World) : Prop :=
  ∃ neg ao len cap, e = .returned (.tuple #[.agg #[.bool neg, .slice ao len cap], .int .i64 0]) ∧ len ≤ 512 ∧ Z32 w' neg ao len z ∧ Below W.heap.size W w'

theorem OutF.fine {W w' : World} {z : Int} {e : Ending} (h : OutF W z e w') (hf : Fits z) : OutE W z e w' := by
  rcases h with ⟨_, n, o, l, c, rfl, hz, hb⟩ | ⟨hn, _⟩
  · exact ⟨n, o, l, c, rfl, fits_len hz hf, hz, hb⟩
  · exact absurd hf hn

theorem OutI.small {W w' : World} {z : Int} {e : Ending} (h : OutI W z e w') (hf : Fits z) : ∃ v, e = .returned v ∧ IsS z v w' ∧ Below W.heap.size W w' := by
  obtain ⟨n, o, l, c, rfl, hz, hb⟩ := h
  exact ⟨_, rfl, ⟨n, o, l, c, rfl, fits_len hz hf, hz⟩, hb⟩

theorem MadePost.fits {z : Int} {W w' : World} {e : Ending} (h : MadePost z W e w') (hf : Fits z) :
    ∃ neg ao len cap, e = .returned (.tuple #[.agg #[.bool neg, .slice ao len cap], .bool true]) ∧ len ≤ 512 ∧ Z32 w' neg ao len z ∧ Below W.heap.size W w' := by
  obtain ⟨n, o, l, c, ok, z', rfl, hl, hz, hb, ⟨_, rfl, rfl⟩ | ⟨hn, _⟩⟩ := h
  · exact ⟨n, o, l, c, rfl, hl, hz, hb⟩
  · exact absurd hf hn

/-- a row of zeros that was just made -/
theorem zeros_sl (W : World) (e n : Nat) (c : Array Value) (hc : c = cs .i64 (List.replicate n 0)) : Sl .i64 (W.alloc (.cells c e)) (some ⟨W.heap.size, 0, none⟩) n (List.replicate n 0) :=
  (Blk.new' W .i64 e (List.replicate n 0) c hc).whole (by simp)

theorem below_made {V w' : World} {o : Obj} (hb : Below (V.drew.alloc o).heap.size (V.drew.alloc o) w') : Below V.heap.size V w' :=
  below_then (((Below.refl _ _).drew).alloc (Nat.le_refl _) o) hb
end Go.Proofs.Ytbihgllfllkkaaa
