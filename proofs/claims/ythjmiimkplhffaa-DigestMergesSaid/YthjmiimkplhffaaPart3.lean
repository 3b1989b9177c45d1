/- Part 3 of the contracts: DPass, DComp, DPlus. -/
import Derived.Deep.LoopGhost
import Derived.Maps.RangeWalk
import Derived.Test.YthjmiimkplhffaaPart2

/- The program's pass over the rows of waiting nodes. -/
set_option linter.unusedVariables false
set_option linter.unusedSimpArgs false
namespace Go.Proofs.Ythjmiimkplhffaa
open Go.RowKit Go.Maps

/-- Memory in the middle of a pass that began in W. -/
structure PM (W : World) (tb mb : Nat) (L F n : Int) (X0 : Nat → Prop) (c : Int → Int) (rk nk : Nat → List Int) (wr : World) : Prop where
  frame : Only (fun b => b = mb ∨ X0 b) W wr
  tree : Tree wr tb mb n c
  d0 : wr.cell? ⟨W.heap.size, 0, none⟩ = some (.int .i64 L)
  d1 : wr.cell? ⟨W.heap.size, 1, none⟩ = some (.int .i64 F)
  d2 : wr.cell? ⟨W.heap.size, 2, none⟩ = some (.pointer (some ⟨tb, 0, none⟩))
  res : wr.heap[W.heap.size + 2]? = some (.cells (List.replicate 20 (Value.slice none 0 0)).toArray 93 (0, 0))
  rows : ∃ X Y : Nat → Prop, RowsAt wr (W.heap.size + 1) X rk ∧ RowsAt wr (W.heap.size + 3) Y nk ∧ (∀ b, X b → X0 b ∨ W.heap.size + 4 ≤ b) ∧ (∀ b, Y b → W.heap.size + 4 ≤ b) ∧ (∀ b, X b → ¬ Y b) ∧ (∀ b, X b → b < wr.heap.size) ∧ (∀ b, Y b → b < wr.heap.size)
  size : W.heap.size + 4 ≤ wr.heap.size

/-- What the tree and the rows that are handed over ask. -/
structure PreM (W : World) (tb mb : Nat) (X0 : Nat → Prop) : Prop where
  ne : tb ≠ mb
  t : tb < W.heap.size
  m : mb < W.heap.size
  xt : ¬ X0 tb
  xm : ¬ X0 mb
  x : ∀ b, X0 b → b < W.heap.size

section
variable {W wr w' : World} {tb mb : Nat} {L F n : Int} {X0 : Nat → Prop} {c : Int → Int} {rk nk : Nat → List Int}

/-- other blocks of the call's own, and nothing else -/
theorem PM.only {P : Nat → Prop} (h : PM W tb mb L F n X0 c rk nk wr) (ho : Only P wr w') (hp : ∀ i, ¬ P i) : PM W tb mb L F n X0 c rk nk w' := by
  obtain ⟨X, Y, h1, h2, h3, h4, h5, h6, h7⟩ := h.rows
  obtain ⟨vs, a1, a2, a3⟩ := h1
  obtain ⟨us, b1, b2, b3⟩ := h2
  have hl : ∀ {k : Nat} {o : Obj}, wr.heap[k]? = some o → w'.heap[k]? = some o := fun {k o} hk => (ho.block k (Array.getElem?_eq_some_iff.1 hk).1 (hp k)).trans hk
  exact ⟨h.frame.andThen ho (fun i hi => absurd hi (hp i)), ⟨ho.cell h.tree.c0 (hp _), ho.cell h.tree.c1 (hp _), ho.cm h.tree.m (hp _)⟩, ho.cell h.d0 (hp _), ho.cell h.d1 (hp _), ho.cell h.d2 (hp _), hl h.res,
    ⟨X, Y, ⟨vs, hl a1, a2.only ho (fun b _ => hp b), a3⟩, ⟨us, hl b1, b2.only ho (fun b _ => hp b), b3⟩, h3, h4, h5, fun b hb => Nat.lt_of_lt_of_le (h6 b hb) ho.size, fun b hb => Nat.lt_of_lt_of_le (h7 b hb) ho.size⟩, Nat.le_trans h.size ho.size⟩
theorem PM.below (h : PM W tb mb L F n X0 c rk nk wr) (hb : Below wr.heap.size wr w') : PM W tb mb L F n X0 c rk nk w' := h.only (P := fun _ => False) (Only.of_below hb) (fun _ hi => hi)
theorem PM.drew (h : PM W tb mb L F n X0 c rk nk wr) (hb : Drew wr w') : PM W tb mb L F n X0 c rk nk w' := h.below hb.below

/-- a climb -/
theorem PM.climb {d : Int → Int} (h : PM W tb mb L F n X0 c rk nk wr) (pre : PreM W tb mb X0) (hm : Cm w' mb d) (hg : wr.grownBy w' (some mb)) : PM W tb mb L F n X0 d rk nk w' := by
  obtain ⟨X, Y, h1, h2, h3, h4, h5, h6, h7⟩ := h.rows
  obtain ⟨vs, a1, a2, a3⟩ := h1
  obtain ⟨us, b1, b2, b3⟩ := h2
  have ho : Only (fun b => b = mb) wr w' := (Only.of_grown hg).mono (fun i hi => by simpa using hi.symm)
  have hm2 := pre.m
  have hne : ∀ {k : Nat} {o : Obj}, wr.heap[k]? = some o → k ≠ mb → w'.heap[k]? = some o := fun {k o} hk hn => (ho.block k (Array.getElem?_eq_some_iff.1 hk).1 hn).trans hk
  have hX : ∀ b, X b → ¬ b = mb := fun b hb e => by
    subst e
    rcases h3 b hb with k | k
    · exact pre.xm k
    · omega
  have hY : ∀ b, Y b → ¬ b = mb := fun b hb e => by have := h4 b hb; omega
  exact ⟨h.frame.trans (ho.mono (fun i hi => .inl hi)), ⟨ho.cell h.tree.c0 pre.ne, ho.cell h.tree.c1 pre.ne, hm⟩, ho.cell h.d0 (by show ¬ W.heap.size = mb; omega), ho.cell h.d1 (by show ¬ W.heap.size = mb; omega), ho.cell h.d2 (by show ¬ W.heap.size = mb; omega), hne h.res (by omega),
    ⟨X, Y, ⟨vs, hne a1 (by omega), a2.only ho hX, a3⟩, ⟨us, hne b1 (by omega), b2.only ho hY, b3⟩, h3, h4, h5, fun b hb => Nat.lt_of_lt_of_le (h6 b hb) ho.size, fun b hb => Nat.lt_of_lt_of_le (h7 b hb) ho.size⟩, Nat.le_trans h.size ho.size⟩

/-- nodes are laid to the rows that wait -/
theorem PM.add1 {wa : World} (h0 : PM W tb mb L F n X0 c rk nk wr) (pre : PreM W tb mb X0) (hwa : Below wr.heap.size wr wa) : ∃ X, RowsAt wa (W.heap.size + 1) X rk ∧ (∀ b, X b → b < wr.heap.size) ∧ ∀ rk' w', Added wa (W.heap.size + 1) X rk rk' w' → PM W tb mb L F n X0 c rk' nk w' := by
  have h := h0.below hwa
  obtain ⟨X, Y, h1, h2, h3, h4, h5, h6, h7⟩ := h0.rows
  have ho0 : Only (fun _ => False) wr wa := Only.of_below hwa
  have h1 : RowsAt wa (W.heap.size + 1) X rk := by
    obtain ⟨vs, a1, a2, a3⟩ := h1
    exact ⟨vs, (hwa.block _ (Array.getElem?_eq_some_iff.1 a1).1).trans a1, a2.only ho0 (fun _ _ h => h), a3⟩
  have h2 : RowsAt wa (W.heap.size + 3) Y nk := by
    obtain ⟨vs, a1, a2, a3⟩ := h2
    exact ⟨vs, (hwa.block _ (Array.getElem?_eq_some_iff.1 a1).1).trans a1, a2.only ho0 (fun _ _ h => h), a3⟩
  refine ⟨X, h1, h6, fun rk' w' ha => ?_⟩
  have h6 : ∀ b, X b → b < wa.heap.size := fun b hb => Nat.lt_of_lt_of_le (h6 b hb) hwa.size
  have h7 : ∀ b, Y b → b < wa.heap.size := fun b hb => Nat.lt_of_lt_of_le (h7 b hb) hwa.size
  clear h0 hwa ho0
  obtain ⟨wr, rfl⟩ : ∃ w, w = wa := ⟨_, rfl⟩
  obtain ⟨⟨Z, z1, z2, ho⟩, _⟩ := ha
  obtain ⟨zs, z3, z4, z5⟩ := z1
  obtain ⟨us, b1, b2, b3⟩ := h2
  have hm2 := pre.m
  have ht2 := pre.t
  have hs := h.size
  have hne : ∀ {k : Nat} {o : Obj}, wr.heap[k]? = some o → k ≠ W.heap.size + 1 → ¬ X k → w'.heap[k]? = some o := fun {k o} hk hn hx => (ho.block k (Array.getElem?_eq_some_iff.1 hk).1 (by rintro (e | e); exact hn e; exact hx e)).trans hk
  have hx : ∀ k, ¬ X0 k → k < W.heap.size + 4 → ¬ X k := fun k h1 h2 hk => by
    rcases h3 k hk with g | g
    · exact h1 g
    · omega
  have x0 : ∀ k, W.heap.size ≤ k → ¬ X0 k := fun k hk g => by have := pre.x k g; omega
  have q : ∀ k, ¬ X0 k → k < W.heap.size + 4 → k ≠ W.heap.size + 1 → ¬ (k = W.heap.size + 1 ∨ X k) := fun k h1 h2 h3' g => by
    rcases g with g | g
    · exact h3' g
    · exact hx k h1 h2 g
  refine ⟨h.frame.andThen ho (fun i hi => ?_), ⟨ho.cell h.tree.c0 (q tb pre.xt (by omega) (by omega)), ho.cell h.tree.c1 (q tb pre.xt (by omega) (by omega)), ho.cm h.tree.m (q mb pre.xm (by omega) (by omega))⟩,
    ho.cell h.d0 (q _ (x0 _ (Nat.le_refl _)) (by show W.heap.size < _; omega) (by show W.heap.size ≠ _; omega)), ho.cell h.d1 (q _ (x0 _ (Nat.le_refl _)) (by show W.heap.size < _; omega) (by show W.heap.size ≠ _; omega)), ho.cell h.d2 (q _ (x0 _ (Nat.le_refl _)) (by show W.heap.size < _; omega) (by show W.heap.size ≠ _; omega)),
    hne h.res (by omega) (hx _ (x0 _ (by omega)) (by omega)), ⟨fun b => Z b ∧ b < w'.heap.size, Y, ⟨zs, z3, z4.tight, fun g => z5 g.1⟩, ⟨us, hne b1 (by omega) (hx _ (x0 _ (by omega)) (by omega)), b2.only ho (fun b hb e => ?_), b3⟩, fun b hb => ?_, h4, fun b hb hy => ?_, fun b hb => hb.2, fun b hb => Nat.lt_of_lt_of_le (h7 b hb) ho.size⟩, Nat.le_trans h.size ho.size⟩
  · rcases hi with rfl | hi
    · right; omega
    · rcases h3 i hi with g | g
      · exact .inl (.inr g)
      · right; omega
  · rcases e with e | e
    · subst e; have := h4 _ hb; omega
    · exact h5 b e hb
  · rcases z2 b hb.1 with g | g
    · exact h3 b g
    · right; omega
  · rcases z2 b hb.1 with g | g
    · exact h5 b g hy
    · have := h7 b hy; omega

/-- nodes are laid to the rows of the next pass -/
theorem PM.add2 {wa : World} (h0 : PM W tb mb L F n X0 c rk nk wr) (pre : PreM W tb mb X0) (hwa : Below wr.heap.size wr wa) : ∃ Y, RowsAt wa (W.heap.size + 3) Y nk ∧ (∀ b, Y b → b < wr.heap.size) ∧ ∀ nk' w', Added wa (W.heap.size + 3) Y nk nk' w' → PM W tb mb L F n X0 c rk nk' w' ∧ ∀ i v, wa.cell? ⟨W.heap.size + 1, i, none⟩ = some v → w'.cell? ⟨W.heap.size + 1, i, none⟩ = some v := by
  have h := h0.below hwa
  obtain ⟨X, Y, h1, h2, h3, h4, h5, h6, h7⟩ := h0.rows
  have ho0 : Only (fun _ => False) wr wa := Only.of_below hwa
  have h1 : RowsAt wa (W.heap.size + 1) X rk := by
    obtain ⟨vs, a1, a2, a3⟩ := h1
    exact ⟨vs, (hwa.block _ (Array.getElem?_eq_some_iff.1 a1).1).trans a1, a2.only ho0 (fun _ _ h => h), a3⟩
  have h2 : RowsAt wa (W.heap.size + 3) Y nk := by
    obtain ⟨vs, a1, a2, a3⟩ := h2
    exact ⟨vs, (hwa.block _ (Array.getElem?_eq_some_iff.1 a1).1).trans a1, a2.only ho0 (fun _ _ h => h), a3⟩
  refine ⟨Y, h2, h7, fun nk' w' ha => ?_⟩
  have h6 : ∀ b, X b → b < wa.heap.size := fun b hb => Nat.lt_of_lt_of_le (h6 b hb) hwa.size
  have h7 : ∀ b, Y b → b < wa.heap.size := fun b hb => Nat.lt_of_lt_of_le (h7 b hb) hwa.size
  clear h0 hwa ho0
  obtain ⟨wr, rfl⟩ : ∃ w, w = wa := ⟨_, rfl⟩
  obtain ⟨⟨Z, z1, z2, ho⟩, _⟩ := ha
  obtain ⟨zs, z3, z4, z5⟩ := z1
  obtain ⟨us, b1, b2, b3⟩ := h1
  have hm2 := pre.m
  have ht2 := pre.t
  have hs := h.size
  have hne : ∀ {k : Nat} {o : Obj}, wr.heap[k]? = some o → k ≠ W.heap.size + 3 → ¬ Y k → w'.heap[k]? = some o := fun {k o} hk hn hx => (ho.block k (Array.getElem?_eq_some_iff.1 hk).1 (by rintro (e | e); exact hn e; exact hx e)).trans hk
  have hx : ∀ k, k < W.heap.size + 4 → ¬ Y k := fun k h2 hk => by have := h4 k hk; omega
  have q : ∀ k, k < W.heap.size + 3 → ¬ (k = W.heap.size + 3 ∨ Y k) := fun k h2 g => by
    rcases g with g | g
    · omega
    · exact hx k (by omega) g
  refine ⟨?_, fun i v hi => ho.cell hi (q (W.heap.size + 1) (by omega))⟩
  refine ⟨h.frame.andThen ho (fun i hi => ?_), ⟨ho.cell h.tree.c0 (q tb (by omega)), ho.cell h.tree.c1 (q tb (by omega)), ho.cm h.tree.m (q mb (by omega))⟩,
    ho.cell h.d0 (q _ (by show W.heap.size < _; omega)), ho.cell h.d1 (q _ (by show W.heap.size < _; omega)), ho.cell h.d2 (q _ (by show W.heap.size < _; omega)),
    hne h.res (by omega) (hx _ (by omega)), ⟨X, fun b => Z b ∧ b < w'.heap.size, ⟨us, hne b1 (by omega) (hx _ (by omega)), b2.only ho (fun b hb e => ?_), b3⟩, ⟨zs, z3, z4.tight, fun g => z5 g.1⟩, h3, fun b hb => ?_, fun b hb hy => ?_, fun b hb => Nat.lt_of_lt_of_le (h6 b hb) ho.size, fun b hb => hb.2⟩, Nat.le_trans h.size ho.size⟩
  · rcases hi with rfl | hi
    · right; omega
    · right; have := h4 i hi; omega
  · rcases e with e | e
    · subst e
      rcases h3 _ hb with g | g
      · have := pre.x _ g; omega
      · omega
    · exact h5 b hb e
  · rcases z2 b hb.1 with g | g
    · exact h4 b g
    · omega
  · rcases z2 b hy.1 with g | g
    · exact h5 b hb g
    · have := h6 b hb; omega
end

/-- the row whose cell is known reads as it should -/
theorem PM.il {W wr : World} {tb mb : Nat} {L F n : Int} {X0 : Nat → Prop} {c : Int → Int} {rk nk : Nat → List Int} (h : PM W tb mb L F n X0 c rk nk wr) {d : Nat} (hd : d < 20) {ao : Option Addr} {la cap : Nat} (hc : wr.cell? ⟨W.heap.size + 1, d, none⟩ = some (.slice ao la cap)) : Il wr ao la (rk d) ∧ (rk d).length = la := by
  obtain ⟨X, Y, ⟨us, hus, hV, _⟩, _⟩ := h.rows
  have h1 := cell_rows hus (i := d) (by rw [hV.len]; exact hd)
  rw [hc] at h1
  have h2 : nth us d = .slice ao la cap := by simpa using h1.symm
  obtain ⟨bo, cp, h3, _, _, h4⟩ := (hV.own d hd).il
  rw [h2] at h3
  simp at h3
  obtain ⟨rfl, rfl, rfl⟩ := h3
  exact ⟨h4, rfl⟩

theorem addL_one (rs : Nat → List Int) {e : Nat} {p : Int} (h : At e p) : More rs (addL rs [p]) e [p] := by
  have := addL_snoc rs [] h
  rw [List.nil_append] at this
  intro i
  rw [this, addL_nil]
  simp only
  split
  · subst_vars; rfl
  · rfl
theorem addL_two (rs : Nat → List Int) {e : Nat} {p q : Int} (h : At e p) (k : At e q) : More rs (addL rs [p, q]) e [p, q] := by
  have h1 := addL_snoc rs [p] k
  have h2 := addL_one rs h
  intro i
  show addL rs ([p] ++ [q]) i = _
  rw [h1]
  simp only
  split
  · subst_vars
    rw [h2 _, if_pos rfl, List.append_assoc]
    rfl
  · rw [h2 i, if_neg (by assumption)]

theorem climb_yes (tb mb : Nat) (n t : Int) (c : Int → Int) (p : Int) (W : World) (h : Tree W tb mb n c) (hne : tb ≠ mb) (hp : 1 ≤ p) (hp2 : p ≤ 4194304) (L : Nat) (hpL : p < 2 ^ L) (hg : Good L c) (hL : L ≤ 20) (hc1 : ∀ q, c q ≤ 1099511627776) (hc : can t c p) :
    Calls Try.prog 72 #[.pointer (some ⟨tb, 0, none⟩), .int .i64 p, .int .i64 t] W (fun e w' => e = .returned (.bool true) ∧ Cm w' mb (climbF c p) ∧ W.grownBy w' (some mb)) :=
  (climb_any tb mb n t c p W h hne hp hp2 L hpL hg hL hc1).mono fun e w' h => by
    rcases h with ⟨_, h⟩ | ⟨h, _⟩
    · exact h
    · exact absurd hc h
theorem climb_no (tb mb : Nat) (n t : Int) (c : Int → Int) (p : Int) (W : World) (h : Tree W tb mb n c) (hne : tb ≠ mb) (hp : 1 ≤ p) (hp2 : p ≤ 4194304) (L : Nat) (hpL : p < 2 ^ L) (hg : Good L c) (hL : L ≤ 20) (hc1 : ∀ q, c q ≤ 1099511627776) (hc : ¬ can t c p) :
    Calls Try.prog 72 #[.pointer (some ⟨tb, 0, none⟩), .int .i64 p, .int .i64 t] W (fun e w' => e = .returned (.bool false) ∧ Drew W w') :=
  (climb_any tb mb n t c p W h hne hp hp2 L hpL hg hL hc1).mono fun e w' h => by
    rcases h with ⟨h, _⟩ | ⟨_, h⟩
    · exact absurd h hc
    · exact h

theorem Il.new (w : World) (T : Nat) (zs : List Int) (n : Nat) (hn : n = zs.length) : Il (w.alloc (.cells (zs.map fun z => Value.int .i64 z).toArray T)) (some ⟨w.heap.size, 0, none⟩) n zs := by
  subst hn
  refine ⟨rfl, w.heap.size, 0, fun _ => rfl, fun i hi => ?_⟩
  simp [List.getElem?_eq_getElem hi]
theorem off_new {w : World} {X : Nat → Prop} {R : Nat} (hR : R < w.heap.size) (hX : ∀ b, X b → b < w.heap.size) : Off (some ⟨w.heap.size, 0, none⟩) R X := fun a ha => by
  obtain rfl := (Option.some.inj ha).symm
  exact ⟨fun e => by have : w.heap.size = R := e; omega, fun hx => by have := hX _ hx; exact absurd this (by simp)⟩

/-- no count is greater than the number of values -/
theorem good_le {L : Nat} {c : Int → Int} (h : Good L c) (q : Int) : c q ≤ tot L c := by
  by_cases hz : c q = 0
  · rw [hz]; exact S_nonneg _ (fun i _ => h.1 i)
  · have h1 := h.2 q hz
    obtain ⟨m, rfl⟩ := Int.eq_ofNat_of_zero_le (show 0 ≤ q by omega)
    have h2 : m < SZ L := by have := SZ_cast L; omega
    exact S_single h2 (fun i _ => h.1 i)

/-- twenty empty rows -/
def emptyRows : Array Value := #[Value.slice none 0 0, Value.slice none 0 0, Value.slice none 0 0, Value.slice none 0 0, Value.slice none 0 0, Value.slice none 0 0, Value.slice none 0 0, Value.slice none 0 0, Value.slice none 0 0, Value.slice none 0 0, Value.slice none 0 0, Value.slice none 0 0, Value.slice none 0 0, Value.slice none 0 0, Value.slice none 0 0, Value.slice none 0 0, Value.slice none 0 0, Value.slice none 0 0, Value.slice none 0 0, Value.slice none 0 0]
theorem emptyRows_eq : emptyRows = (List.replicate 20 (Value.slice none 0 0)).toArray := rfl
theorem nth_empty {i : Nat} (hi : i < 20) : nth (List.replicate 20 (Value.slice none 0 0)) i = .slice none 0 0 := by
  unfold nth
  rw [List.getElem?_replicate, if_pos hi]
  rfl
theorem rows_empty (w : World) (X : Nat → Prop) : RowsV w X (List.replicate 20 (Value.slice none 0 0)) (fun _ => []) :=
  ⟨by simp, fun i hi => by rw [nth_empty hi]; exact OwnI.nil _ _ _, fun i b hi hb => by rw [nth_empty hi] at hb; simp [Value.ownBlock] at hb, fun i j b hi hj hne hb => by rw [nth_empty hi] at hb; simp [Value.ownBlock] at hb⟩

theorem PM.start {W : World} {tb mb : Nat} {L F n : Int} {X0 : Nat → Prop} {c : Int → Int} {vs : List Value} {rs : Nat → List Int} (ht : Tree W tb mb n c) (pre : PreM W tb mb X0) (hv : RowsV W X0 vs rs) :
    PM W tb mb L F n X0 c rs (fun _ => []) ((((W.alloc (.cells #[.int .i64 L, .int .i64 F, .pointer (some ⟨tb, 0, none⟩)] 28)).alloc (.cells vs.toArray 93)).alloc (.cells emptyRows 93)).alloc (.cells emptyRows 93)) := by
  obtain ⟨V, hV⟩ : ∃ V, V = ((((W.alloc (.cells #[.int .i64 L, .int .i64 F, .pointer (some ⟨tb, 0, none⟩)] 28)).alloc (.cells vs.toArray 93)).alloc (.cells emptyRows 93)).alloc (.cells emptyRows 93)) := ⟨_, rfl⟩
  have hb : Below W.heap.size W V := by
    rw [hV]
    exact ((((Below.refl _ _).alloc (Nat.le_refl _) _).alloc (by simp) _).alloc (by simp <;> omega) _).alloc (by simp <;> omega) _
  have hs : V.heap.size = W.heap.size + 4 := by rw [hV]; simp
  have e0 : V.heap[W.heap.size]? = some (.cells #[.int .i64 L, .int .i64 F, .pointer (some ⟨tb, 0, none⟩)] 28 (0, 0)) := by
    rw [hV, Below.heap_alloc _ _ _ (by simp <;> omega), Below.heap_alloc _ _ _ (by simp <;> omega), Below.heap_alloc _ _ _ (by simp)]
    exact heap_alloc_new _ _
  have e1 : V.heap[W.heap.size + 1]? = some (.cells vs.toArray 93 (0, 0)) := by
    rw [hV, Below.heap_alloc _ _ _ (by simp <;> omega), Below.heap_alloc _ _ _ (by simp)]
    have := heap_alloc_new (W.alloc (.cells #[.int .i64 L, .int .i64 F, .pointer (some ⟨tb, 0, none⟩)] 28)) (.cells vs.toArray 93)
    simpa using this
  have e2 : V.heap[W.heap.size + 2]? = some (.cells emptyRows 93 (0, 0)) := by
    rw [hV, Below.heap_alloc _ _ _ (by simp)]
    have := heap_alloc_new ((W.alloc (.cells #[.int .i64 L, .int .i64 F, .pointer (some ⟨tb, 0, none⟩)] 28)).alloc (.cells vs.toArray 93)) (.cells emptyRows 93)
    simpa using this
  have e3 : V.heap[W.heap.size + 3]? = some (.cells emptyRows 93 (0, 0)) := by
    rw [hV]
    have := heap_alloc_new (((W.alloc (.cells #[.int .i64 L, .int .i64 F, .pointer (some ⟨tb, 0, none⟩)] 28)).alloc (.cells vs.toArray 93)).alloc (.cells emptyRows 93)) (.cells emptyRows 93)
    simpa using this
  rw [← hV]
  clear hV
  have ho : Only (fun _ => False) W V := Only.of_below hb
  have k0 : ∀ i v, (#[Value.int .i64 L, .int .i64 F, .pointer (some ⟨tb, 0, none⟩)] : Array Value)[i]? = some v → V.cell? ⟨W.heap.size, i, none⟩ = some v := fun i v hi => by
    simp only [World.cell?]
    rw [e0]
    simpa using hi
  refine ⟨Only.of_below hb, ⟨ho.cell ht.c0 (fun h => h), ho.cell ht.c1 (fun h => h), ht.m.keep hb⟩, k0 0 _ rfl, k0 1 _ rfl, k0 2 _ rfl, e2, ⟨X0, fun _ => False, ⟨vs, e1, hv.only ho (fun _ _ h => h), fun g => ?_⟩, ⟨_, e3, rows_empty _ _, fun g => g⟩, fun b hb => .inl hb, fun b hb => hb.elim, fun b _ h => h, fun b hb => by have := pre.x b hb; omega, fun b hb => hb.elim⟩, by omega⟩
  have := pre.x _ g
  omega

/-- behind a pass -/
def Passed (W : World) (tb mb : Nat) (L : Nat) (n t : Int) (X0 : Nat → Prop) (c : Int → Int) (e : Ending) (w' : World) : Prop :=
  ∃ (vs : List Value) (ns : Nat → List Int) (b : Bool) (Y : Nat → Prop), e = .returned (.tuple #[.agg vs.toArray, .bool b]) ∧ (b = true ↔ moved t L c) ∧ RowsV w' Y vs ns ∧ (∀ k, Y k → W.heap.size ≤ k ∧ k < w'.heap.size) ∧
    Tree w' tb mb n (passF t L c) ∧ Only (fun k => k = mb ∨ X0 k) W w' ∧ Holds t (passF t L c) 0 L ns ∧ Wf L ns ∧ (∀ e, ((ns e).length : Int) ≤ 2 * (wt L c - wt L (passF t L c))) ∧ Good L (passF t L c) ∧ tot L (passF t L c) = tot L c ∧ wt L (passF t L c) ≤ wt L c ∧ (b = true → wt L (passF t L c) < wt L c)

set_option maxRecDepth 100000 in
set_option maxHeartbeats 8000000 in
theorem pass_any (tb mb L K : Nat) (F n : Int) (X0 : Nat → Prop) (c : Int → Int) (vs : List Value) (rs : Nat → List Int) (W : World) (ht : Tree W tb mb n c) (pre : PreM W tb mb X0) (hv : RowsV W X0 vs rs)
    (hL : 1 ≤ L) (hL2 : L ≤ 20) (hF : 1 ≤ F) (hF2 : F ≤ 1000) (hn : 0 ≤ n) (hn2 : n ≤ 1099511627776) (hc1 : ∀ q, c q ≤ 1099511627776) (hg : Good L c) (htot : tot L c = n)
    (hw : Holds (n / F) c 0 L rs) (hf : Wf L rs) (hl : ∀ e, (rs e).length ≤ K) (hK : (K : Int) + 2 * wt L c ≤ 8000000000000) :
    Calls Try.prog 61 #[.agg #[.int .i64 (L : Int), .int .i64 F, .pointer (some ⟨tb, 0, none⟩)], .agg vs.toArray] W (Passed W tb mb L n (n / F) X0 c) := by
  have HT := Lib.hid ht
  have HP := Lib.hid pre
  have HV := Lib.hid hv
  have HG := Lib.hid hg
  have HTO := Lib.hid htot
  have HW := Lib.hid hw
  have HF := Lib.hid hf
  have HLN := Lib.hid hl
  have HK := Lib.hid hK
  have HC := Lib.hid hc1
  have HS : Hid (Outer (n / F) L K c L c rs (fun _ => []) false) := Outer.start hg hw hf hl
  have HQ : Hid (PM W tb mb L F n X0 c rs (fun _ => []) _) := PM.start ht pre hv
  clear ht pre hv hg htot hw hf hl hK hc1
  go_enter Try.func61, Try.ntmps61
  go_wp2_with fail
  go_loopw [7, 8] (fun t7 t8 wr => ∃ (x : Int) (bk : Bool), t8 = .int .i64 x ∧ t7 = .bool bk ∧ -1 ≤ x ∧ x ≤ 19 ∧ Hid (∃ ck rk nk, ∃ d : Nat, x = (d : Int) - 1 ∧ d ≤ L ∧ Outer (n / F) L K c d ck rk nk bk ∧ PM W tb mb L F n X0 ck rk nk wr)) (fun _ t8 _ => (intOf t8 + 1).toNat)
  case atStart => exact ⟨(L : Int) - 1, false, rfl, rfl, by omega, by omega, c, rs, fun _ => [], L, rfl, Nat.le_refl _, HS.out, HQ.out⟩
  case round =>
    obtain ⟨x, bk, rfl, rfl, hx0, hx1, HI⟩ := hrel
    clear HS HQ
    by_cases h1 : x < 0
    · have t1 : ¬ 0 ≤ x := by omega
      obtain ⟨ck, rk, nk, d, hd, hdL, hout, hpm⟩ := HI.out
      obtain rfl : d = 0 := by omega
      obtain ⟨X, Y, hX, ⟨us, hus, hV, _⟩, _, hY1, _, _, hY2⟩ := hpm.rows
      have hres := hpm.res
      have hul : us.length = 20 := hV.len
      have hone : us.toArray.all (·.oneCell') = true := by
        rw [List.all_toArray, List.all_eq_true]
        intro v hv
        obtain ⟨i, hi, rfl⟩ := List.getElem_of_mem hv
        obtain ⟨ao, cap, h3, _⟩ := (hV.own i (by omega)).il
        have h4 : nth us i = us[i] := by simp [nth, List.getElem?_eq_getElem hi]
        rw [h4] at h3
        rw [h3]; rfl
      have hinf : (Try.prog.info? 93).map (·.size) = some us.toArray.size := by
        rw [show us.toArray.size = 20 by simpa using hul]
        kernel_rfl
      obtain ⟨V, hV0⟩ : ∃ V, V = wr.setRow (W.heap.size + 2) us.toArray := ⟨_, rfl⟩
      have hO : Only (fun k => k = W.heap.size + 2) wr V := by
        rw [hV0]
        exact ⟨rfl, rfl, rfl, by simp [World.setRow], fun k hk hp => setRow_other wr (W.heap.size + 2) k us.toArray hp⟩
      have hrow : V.heap[W.heap.size + 2]? = some (.cells us.toArray 93 (0, 0)) := by
        rw [hV0]
        have := setRow_heap wr (W.heap.size + 2) _ us.toArray 93 (0, 0) hres
        exact this
      have hload := run_loadVar_row (P := Try.prog) V (W.heap.size + 2) 93 93 us.toArray (0, 0) _ hrow Try.underlying93 (by kernel_rfl) hinf
      have HOU := Lib.hid hout
      have HPM := Lib.hid hpm
      have HR := Lib.hid hres
      have HU := Lib.hid hus
      have HN := Lib.hid hinf
      have HONE := Lib.hid hone
      have HUL := Lib.hid hul
      have HVV := Lib.hid hV
      have HOO := Lib.hid hO
      have HY1 := Lib.hid hY1
      have HY2 := Lib.hid hY2
      have HLOAD := Lib.hid hload
      have HROW := Lib.hid hrow
      clear hout hpm hres hus hinf hone hul hV hO hY1 hY2 hX hd HI hload hrow
      subst hV0
      go_wp2_with (first
        | (refine wpList_load_row rfl 93 (.tmp 6) rfl (W.heap.size + 1 + 1 + 1) rfl 93 us.toArray (0, 0) _ HU.out Try.underlying93 (by kernel_rfl) HN.out ?_)
        | (refine wpList_store_row rfl 93 (.tmp 4) (.tmp 54) rfl (W.heap.size + 1 + 1) us.toArray rfl rfl 93 _ HR.out HN.out (by simp [HUL.out]) HONE.out ?_))
      have hload2 : (loadVar 93 ⟨W.heap.size + 1 + 1, 0, none⟩).run Try.prog (wr.setRow (W.heap.size + 2) us.toArray) = .ok (.agg us.toArray) (wr.setRow (W.heap.size + 2) us.toArray) := HLOAD.out
      refine bodyPost_ret (v := .tuple #[.agg us.toArray, .bool bk]) (by simp [results, Try.results61, asAddr, hload2, Result.andThen]) rfl ?_
      have e : passF (n / F) L c = ck := HOU.out.left
      have hm2 := HP.out.m
      have ht2 := HP.out.t
      refine ⟨us, nk, bk, Y, rfl, ?_, ?_, fun k hk => ⟨by have := HY1.out k hk; omega, ?_⟩, ?_, ?_, ?_, HOU.out.wf2, ?_, ?_, ?_, ?_, ?_⟩
      · rw [HOU.out.mv]
        exact ⟨fun h => .inl h, fun h => h.elim id (fun h => h.elim)⟩
      · exact HVV.out.only HOO.out (fun b hb e => by have := HY1.out _ hb; omega)
      · exact Nat.lt_of_lt_of_le (HY2.out k hk) HOO.out.size
      · rw [e]
        exact ⟨HOO.out.cell HPM.out.tree.c0 (by show ¬ tb = _; omega), HOO.out.cell HPM.out.tree.c1 (by show ¬ tb = _; omega), HOO.out.cm HPM.out.tree.m (by omega)⟩
      · exact HPM.out.frame.andThen HOO.out (fun i hi => .inr (by omega))
      · rw [e]; exact HOU.out.next
      · rw [e]; exact HOU.out.len2
      · rw [e]; exact HOU.out.good
      · rw [e]; exact HOU.out.tot
      · rw [e]; exact HOU.out.wts
      · rw [e]; exact HOU.out.ws
    · have t1 : 0 ≤ x := by omega
      obtain ⟨dd, rfl⟩ := Int.eq_ofNat_of_zero_le t1
      obtain ⟨ck, rk, nk, d, hd, hdL, hout, hpm⟩ := HI.out
      obtain rfl : d = dd + 1 := by omega
      obtain ⟨X, Y, hX, hrest⟩ := hpm.rows
      obtain ⟨us, hus, hV, _⟩ := hX
      obtain ⟨ao, cap, hv, hcap, hcm, hil⟩ := (hV.own dd (by omega)).il
      have cv : wr.cell? ⟨W.heap.size + 1, dd, none⟩ = some (.slice ao (rk dd).length cap) := by rw [cell_rows hus (by rw [hV.len]; omega), hv]
      obtain ⟨wo, rfl⟩ : ∃ wo : World, wo = wr := ⟨_, rfl⟩
      have HO := Lib.hid hout
      have HM := Lib.hid hpm
      obtain ⟨la, hla⟩ : ∃ la, la = (rk dd).length := ⟨_, rfl⟩
      rw [← hla] at cv hcap
      have HLA := Lib.hid hla
      have hlb : la ≤ 8000000000000 := by
        have h2 := hout.len1 dd
        have h3 := HK.out
        have h4 := wt_nonneg L ck
        have h5 := wt_nonneg L c
        omega
      clear hout hpm hrest hus hV hv hil hd HI hla
      go_wp2_with fail
      go_loopw [7, 23] (fun t7 t23 wr => ∃ (k : Nat) (b2 : Bool), t23 = .int .i64 (k : Int) ∧ t7 = .bool b2 ∧ k ≤ la ∧ Hid (∃ ci ri ni, Inner (n / F) L K c dd ck rk nk bk ((rk dd).take k) ci ri ni b2 ∧ PM W tb mb L F n X0 ci ri ni wr ∧ wr.cell? ⟨W.heap.size + 1, dd, none⟩ = some (.slice ao la cap))) (fun _ t23 _ => la - (intOf t23).toNat)
      case atStart => exact ⟨0, bk, rfl, rfl, by omega, ck, rk, nk, by rw [List.take_zero]; exact Inner.start HO.out, HM.out, cv⟩
      case round =>
        obtain ⟨k, b2, rfl, rfl, hk, HJ⟩ := hrel
        clear cv HM
        by_cases h2 : k < la
        · have u1 : (k : Int) < (la : Int) := by omega
          have u0 : (0 : Int) ≤ (k : Int) := by omega
          obtain ⟨ci, ri, ni, hin, hpm, hcell⟩ := HJ.out
          have hil := (hpm.il (by omega) hcell).1
          rw [hin.r0 dd (by omega)] at hil
          have hkl : k < (rk dd).length := by rw [← HLA.out]; exact h2
          have hAt := (HO.out.wf1 dd _ (List.getElem_mem hkl)).1
          obtain ⟨b, off, rfl, hc⟩ := hil.at (by omega)
          have ck0 := hc k h2
          rw [List.getElem?_eq_getElem hkl] at ck0
          simp only [Option.getD_some] at ck0
          obtain ⟨p, hp⟩ : ∃ p, p = (rk dd)[k] := ⟨_, rfl⟩
          rw [← hp] at ck0 hAt
          have p1 := hAt.pos
          have p2 : p < 2 ^ L := at_le hAt (by omega)
          have p3 : p < 1048576 := by have := Int.lt_of_lt_of_le p2 (pow_le_int (show L ≤ 20 by omega)); simpa using this
          have HPD := Lib.hid hp
          have HAT := Lib.hid hAt
          have HIN := Lib.hid hin
          have HPM := Lib.hid hpm
          have HCE := Lib.hid hcell
          have HP2 := Lib.hid p2
          have HC1 : Hid (∀ q, ci q ≤ 1099511627776) := fun q => by have h5 := good_le hin.good q; have h6 := hin.tot; have h7 := HTO.out; omega
          have e0 := hpm.d0
          have e1 := hpm.d1
          have e2 := hpm.d2
          clear hc hil hp hAt hin hpm hcell p2 HJ
          by_cases hcan : can (n / F) ci p
          · have HCN := Lib.hid hcan
            clear hcan
            go_upto_region 9 with fail
            go_region_held3 (fun w' => w'.cell? ⟨W.heap.size, 0, none⟩ = some (.int .i64 (L : Int)) ∧ w'.cell? ⟨W.heap.size, 1, none⟩ = some (.int .i64 F) ∧ w'.cell? ⟨W.heap.size, 2, none⟩ = some (.pointer (some ⟨tb, 0, none⟩))) (go_keep)
              (first | (go_at_call 72; refine (climb_yes tb mb n (n / F) ci p _ HPM5.out.tree HP.out.ne p1 (by omega) L HP2.out HIN.out.good hL2 HC1.out HCN.out).mono ?_; rintro e w6 ⟨rfl, hm6, hg6⟩; have HPM6 := Lib.hid (HPM5.out.climb HP.out hm6 hg6); have g0 := HPM6.out.d0; have g1 := HPM6.out.d1; have g2 := HPM6.out.d2; have c6 : w6.cell? ⟨W.heap.size + 1, dd, none⟩ = some (.slice (some ⟨b, off, none⟩) la cap) := hg6.cell c5 (by have := HP.out.m; simp; omega); clear hm6 hg6 f0 f1 f2) | (go_at_call 49; refine (limit_any _ _ tb mb n ci _ (HPM.out.drew ⟨1, rfl⟩).tree hF hF2 hn hn2).mono ?_; rintro e w5 ⟨rfl, hb5⟩; have HPM5 := Lib.hid ((HPM.out.drew ⟨1, rfl⟩).below hb5); have f0 := HPM5.out.d0; have f1 := HPM5.out.d1; have f2 := HPM5.out.d2; have c5 : w5.cell? ⟨W.heap.size + 1, dd, none⟩ = some (.slice (some ⟨b, off, none⟩) la cap) := cell_later hb5 HCE.out; clear hb5))
            clear e0 e1 e2
            have hlen1 : ∀ i, (ri i).length + 2 ≤ 8800000000000 := fun i => by
              have h5 := HIN.out.len1 i; have h6 := HK.out; have h7 := wt_nonneg L ci; have h8 := wt_nonneg L c; omega
            have hlen2 : ∀ i, (ni i).length + 2 ≤ 8800000000000 := fun i => by
              have h5 := HIN.out.len2 i; have h6 := HK.out; have h7 := wt_nonneg L ci; have h8 := wt_nonneg L c; omega
            have HL1 := Lib.hid hlen1
            have HL2 := Lib.hid hlen2
            clear hlen1 hlen2
            by_cases g3 : dd = 0
            · have u3 : ¬ (0 : Int) < (dd : Int) := by omega
              have HG3 := Lib.hid g3
              clear g3
              by_cases g4 : dd + 1 < L
              · have u4 : (dd : Int) + 1 < (L : Int) := by omega
                go_wp2_with fail
                have hbn : Below w6.heap.size w6 (w6.alloc (.cells #[.int .i64 (2 * p), .int .i64 (2 * p + 1)] 3)) := (Below.refl _ _).alloc (Nat.le_refl _) _
                obtain ⟨Y2, hY1, hY2, hY3⟩ := HPM6.out.add2 HP.out hbn
                have hsz2 := HPM6.out.size
                have hch := HAT.out.child
                refine (add_any _ Y2 ni _ 2 _ [2 * p, 2 * p + 1] _ hY1 (Il.new w6 3 [2 * p, 2 * p + 1] 2 rfl) (off_new (by omega) hY2) (fun x hx => by simp at hx; rcases hx with rfl | rfl; exact ⟨dd + 1, by omega, hch.1⟩; exact ⟨dd + 1, by omega, hch.2⟩) (fun i => HL2.out i)).mono ?_
                rintro e w9 ⟨rfl, ha⟩
                have HPM9 := Lib.hid (hY3 _ _ ha).1
                have c9 : w9.cell? ⟨W.heap.size + 1, dd, none⟩ = some (.slice (some ⟨b, off, none⟩) la cap) := (hY3 _ _ ha).2 _ _ (cell_later hbn c6)
                have HMN := Lib.hid (addL_two ni hch.1 hch.2)
                clear ha hY1 hY2 hY3 hbn hch
                go_wp2
                go_roundw
                case rel =>
                  refine ⟨k + 1, true, by go_num, rfl, by omega, climbF ci p, ri, addL ni [2 * p, 2 * p + 1], ?_, HPM9.out, c9⟩
                  rw [List.take_succ_eq_append_getElem hkl, ← HPD.out]
                  exact HIN.out.yes (fun q hq => (HO.out.wf1 dd q (List.mem_of_mem_take hq)).1) HAT.out (by omega) HCN.out (.inl ⟨HG3.out, rfl⟩) (.inr ⟨g4, HMN.out⟩)
                case measure => simp only [intOf]; omega
              · have u4 : ¬ (dd : Int) + 1 < (L : Int) := by omega
                go_wp2
                go_roundw
                case rel =>
                  refine ⟨k + 1, true, by go_num, rfl, by omega, climbF ci p, ri, ni, ?_, HPM6.out, c6⟩
                  rw [List.take_succ_eq_append_getElem hkl, ← HPD.out]
                  exact HIN.out.yes (fun q hq => (HO.out.wf1 dd q (List.mem_of_mem_take hq)).1) HAT.out (by omega) HCN.out (.inl ⟨HG3.out, rfl⟩) (.inl ⟨g4, rfl⟩)
                case measure => simp only [intOf]; omega
            · have u3 : (0 : Int) < (dd : Int) := by omega
              go_wp2_with (go_at_call 50; refine (parent_any p _ (by omega) (by omega)).mono ?_; rintro e w7 ⟨rfl, rfl⟩)
              have hpa : Hid (At (dd - 1) (p / 2)) := by
                obtain ⟨j, rfl⟩ : ∃ j, dd = j + 1 := ⟨dd - 1, by omega⟩
                exact HAT.out.parent
              have hbw : Below w7.heap.size w7 (w7.alloc (.cells #[.int .i64 (p / 2)] 3)) := (Below.refl _ _).alloc (Nat.le_refl _) _
              obtain ⟨X2, hX1, hX2, hX3⟩ := HPM6.out.add1 HP.out hbw
              have hsz := HPM6.out.size
              refine (add_any _ X2 ri _ 1 _ [p / 2] _ hX1 (Il.new w7 3 [p / 2] 1 rfl) (off_new (by omega) hX2) (fun x hx => by simp at hx; subst hx; exact ⟨dd - 1, by omega, hpa.out⟩) (fun i => by have := HL1.out i; omega)).mono ?_
              rintro e w8 ⟨rfl, ha⟩
              have HPM8 := Lib.hid (hX3 _ _ ha)
              have c8 : w8.cell? ⟨W.heap.size + 1, dd, none⟩ = some (.slice (some ⟨b, off, none⟩) la cap) := (ha.2 dd (by omega) (by rw [addL_one ri hpa.out dd, if_neg (by omega)])).trans (cell_later hbw c6)
              have HMO := Lib.hid (addL_one ri hpa.out)
              clear ha hX1 hX2 hX3 hbw g0 g1 g2
              have g0 := HPM8.out.d0
              have g1 := HPM8.out.d1
              have g2 := HPM8.out.d2
              by_cases g4 : dd + 1 < L
              · have u4 : (dd : Int) + 1 < (L : Int) := by omega
                go_wp2_with fail
                have hbn : Below w8.heap.size w8 (w8.alloc (.cells #[.int .i64 (2 * p), .int .i64 (2 * p + 1)] 3)) := (Below.refl _ _).alloc (Nat.le_refl _) _
                obtain ⟨Y2, hY1, hY2, hY3⟩ := HPM8.out.add2 HP.out hbn
                have hsz2 := HPM8.out.size
                have hch := HAT.out.child
                refine (add_any _ Y2 ni _ 2 _ [2 * p, 2 * p + 1] _ hY1 (Il.new w8 3 [2 * p, 2 * p + 1] 2 rfl) (off_new (by omega) hY2) (fun x hx => by simp at hx; rcases hx with rfl | rfl; exact ⟨dd + 1, by omega, hch.1⟩; exact ⟨dd + 1, by omega, hch.2⟩) (fun i => HL2.out i)).mono ?_
                rintro e w9 ⟨rfl, ha⟩
                have HPM9 := Lib.hid (hY3 _ _ ha).1
                have c9 : w9.cell? ⟨W.heap.size + 1, dd, none⟩ = some (.slice (some ⟨b, off, none⟩) la cap) := (hY3 _ _ ha).2 _ _ (cell_later hbn c8)
                have HMN := Lib.hid (addL_two ni hch.1 hch.2)
                clear ha hY1 hY2 hY3 hbn hch
                go_wp2
                go_roundw
                case rel =>
                  refine ⟨k + 1, true, by go_num, rfl, by omega, climbF ci p, addL ri [p / 2], addL ni [2 * p, 2 * p + 1], ?_, HPM9.out, c9⟩
                  rw [List.take_succ_eq_append_getElem hkl, ← HPD.out]
                  exact HIN.out.yes (fun q hq => (HO.out.wf1 dd q (List.mem_of_mem_take hq)).1) HAT.out (by omega) HCN.out (.inr ⟨dd - 1, by omega, HMO.out⟩) (.inr ⟨g4, HMN.out⟩)
                case measure => simp only [intOf]; omega
              · have u4 : ¬ (dd : Int) + 1 < (L : Int) := by omega
                go_wp2
                go_roundw
                case rel =>
                  refine ⟨k + 1, true, by go_num, rfl, by omega, climbF ci p, addL ri [p / 2], ni, ?_, HPM8.out, c8⟩
                  rw [List.take_succ_eq_append_getElem hkl, ← HPD.out]
                  exact HIN.out.yes (fun q hq => (HO.out.wf1 dd q (List.mem_of_mem_take hq)).1) HAT.out (by omega) HCN.out (.inr ⟨dd - 1, by omega, HMO.out⟩) (.inl ⟨g4, rfl⟩)
                case measure => simp only [intOf]; omega
          · have HCN := Lib.hid hcan
            clear hcan
            go_upto_region 9 with fail
            go_region_held3 (fun w' => w'.cell? ⟨W.heap.size, 0, none⟩ = some (.int .i64 (L : Int)) ∧ w'.cell? ⟨W.heap.size, 1, none⟩ = some (.int .i64 F) ∧ w'.cell? ⟨W.heap.size, 2, none⟩ = some (.pointer (some ⟨tb, 0, none⟩))) (go_keep)
              (first | (go_at_call 72; refine (climb_no tb mb n (n / F) ci p _ HPM5.out.tree HP.out.ne p1 (by omega) L HP2.out HIN.out.good hL2 HC1.out HCN.out).mono ?_; rintro e w6 ⟨rfl, hd6⟩; have HPM6 := Lib.hid (HPM5.out.drew hd6); have g0 := HPM6.out.d0; have g1 := HPM6.out.d1; have g2 := HPM6.out.d2; have c6 : w6.cell? ⟨W.heap.size + 1, dd, none⟩ = some (.slice (some ⟨b, off, none⟩) la cap) := (hd6.cell _).trans c5; clear hd6 f0 f1 f2) | (go_at_call 49; refine (limit_any _ _ tb mb n ci _ (HPM.out.drew ⟨1, rfl⟩).tree hF hF2 hn hn2).mono ?_; rintro e w5 ⟨rfl, hb5⟩; have HPM5 := Lib.hid ((HPM.out.drew ⟨1, rfl⟩).below hb5); have f0 := HPM5.out.d0; have f1 := HPM5.out.d1; have f2 := HPM5.out.d2; have c5 : w5.cell? ⟨W.heap.size + 1, dd, none⟩ = some (.slice (some ⟨b, off, none⟩) la cap) := cell_later hb5 HCE.out; clear hb5))
            go_wp2
            go_roundw
            case rel =>
              refine ⟨k + 1, b2, by go_num, rfl, by omega, ci, ri, ni, ?_, HPM6.out, c6⟩
              rw [List.take_succ_eq_append_getElem hkl, ← HPD.out]
              exact HIN.out.no (fun q hq => (HO.out.wf1 dd q (List.mem_of_mem_take hq)).1) HAT.out HCN.out
            case measure => simp only [intOf]; omega
        · have u1 : ¬ (k : Int) < (la : Int) := by omega
          go_wp2
          go_roundw
          case rel =>
            obtain ⟨ci, ri, ni, hin, hpm, _⟩ := HJ.out
            rw [List.take_of_length_le (by rw [← HLA.out]; omega)] at hin
            exact ⟨(dd : Int) - 1, b2, by go_num, rfl, by omega, by omega, ci, ri, ni, dd, rfl, by omega, Inner.done HO.out (by omega) hin, hpm⟩
          case measure => simp only [intOf]; omega
end Go.Proofs.Ythjmiimkplhffaa

/- The program's compress: what Comp says. -/
set_option linter.unusedVariables false
set_option linter.unusedSimpArgs false
namespace Go.Proofs.Ythjmiimkplhffaa
open Go.RowKit Go.Maps

theorem rows_one {w : World} {X : Nat → Prop} {us : List Value} {rs : Nat → List Int} (hV : RowsV w X us rs) : us.toArray.all (·.oneCell') = true := by
  rw [List.all_toArray, List.all_eq_true]
  intro v hv
  obtain ⟨i, hi, rfl⟩ := List.getElem_of_mem hv
  obtain ⟨ao, cap, h3, _⟩ := (hV.own i (by have := hV.len; omega)).il
  have h4 : nth us i = us[i] := by simp [nth, List.getElem?_eq_getElem hi]
  rw [h4] at h3
  rw [h3]; rfl

/-- behind compress -/
def Compressed (W : World) (tb mb L : Nat) (n t : Int) (c : Int → Int) (w' : World) : Prop :=
  ∃ d, Comp t L c d ∧ Tree w' tb mb n d ∧ Good L d ∧ tot L d = tot L c ∧ Only (fun k => k = mb) W w'

/-- in the middle of it -/
structure CInv (W : World) (tb mb L : Nat) (F n t : Int) (c : Int → Int) (b : Bool) (g : Nat) (wr : World) (d : Int → Int) (us : List Value) (rs : Nat → List Int) (X : Nat → Prop) (K : Nat) : Prop where
  frame : Only (fun k => k = mb) W wr
  tree : Tree wr tb mb n d
  d0 : wr.cell? ⟨W.heap.size, 0, none⟩ = some (.int .i64 (L : Int))
  d1 : wr.cell? ⟨W.heap.size, 1, none⟩ = some (.int .i64 F)
  d2 : wr.cell? ⟨W.heap.size, 2, none⟩ = some (.pointer (some ⟨tb, 0, none⟩))
  cells : wr.heap[W.heap.size + 1]? = some (.cells us.toArray 93 (0, 0))
  rows : RowsV wr X us rs
  x : ∀ k, X k → W.heap.size + 2 ≤ k ∧ k < wr.heap.size
  size : W.heap.size + 2 ≤ wr.heap.size
  wait : Holds t d 0 L rs
  wf : Wf L rs
  len : ∀ e, (rs e).length ≤ K
  K : (K : Int) + 2 * wt L d ≤ 8000000000000
  good : Good L d
  tot : tot L d = tot L c
  yes : b = true → ∀ z, Comp t L d z → Comp t L c z
  no : b = false → Comp t L c d
  g : (wt L d).toNat + (if b then 1 else 0) ≤ g

set_option maxRecDepth 100000 in
set_option maxHeartbeats 8000000 in
theorem compress_any (tb mb L : Nat) (F n : Int) (c : Int → Int) (ao : Option Addr) (la ca : Nat) (xs : List Int) (W : World) (ht : Tree W tb mb n c) (hne : tb ≠ mb) (htb : tb < W.heap.size)
    (hs : Il W ao la xs) (hla : la ≤ 4194304) (hL : 1 ≤ L) (hL2 : L ≤ 20) (hF : 1 ≤ F) (hF2 : F ≤ 1000) (hn : 0 ≤ n) (hn2 : n ≤ 1099511627776) (hg : Good L c) (htot : tot L c = n)
    (hx : ∀ x ∈ xs, ∃ d, d < L ∧ At d x) (hw : ∀ e, e < L → ∀ p, At e p → can (n / F) c p → p ∈ xs) (hwt : wt L c ≤ 3000000000000) (hao : ∀ a, ao = some a → a.block < W.heap.size) :
    Calls Try.prog 44 #[.agg #[.int .i64 (L : Int), .int .i64 F, .pointer (some ⟨tb, 0, none⟩)], .slice ao la ca] W (fun e w' => e = .returned (.tuple #[]) ∧ Compressed W tb mb L n (n / F) c w') := by
  have HT := Lib.hid ht
  have HNE := Lib.hid hne
  have HS := Lib.hid hs
  have HLE := Lib.hid hs.len
  have HG := Lib.hid hg
  have HTO := Lib.hid htot
  have HX := Lib.hid hx
  have HW := Lib.hid hw
  have HWT := Lib.hid hwt
  have HMB := Lib.hid ht.m.lt
  obtain ⟨V, hV⟩ : ∃ V, V = (W.alloc (.cells #[.int .i64 (L : Int), .int .i64 F, .pointer (some ⟨tb, 0, none⟩)] 28)).alloc (.cells emptyRows 93) := ⟨_, rfl⟩
  have hb : Below W.heap.size W V := by
    rw [hV]
    exact ((Below.refl _ _).alloc (Nat.le_refl _) _).alloc (by simp) _
  have hsz : V.heap.size = W.heap.size + 2 := by rw [hV]; simp
  have hrV : V.heap[W.heap.size + 1]? = some (.cells emptyRows 93 (0, 0)) := by
    rw [hV]
    have := heap_alloc_new (W.alloc (.cells #[.int .i64 (L : Int), .int .i64 F, .pointer (some ⟨tb, 0, none⟩)] 28)) (.cells emptyRows 93)
    simpa using this
  have hd0 : V.heap[W.heap.size]? = some (.cells #[.int .i64 (L : Int), .int .i64 F, .pointer (some ⟨tb, 0, none⟩)] 28 (0, 0)) := by
    rw [hV, Below.heap_alloc _ _ _ (by simp)]
    exact heap_alloc_new _ _
  have hRA : RowsAt V (W.heap.size + 1) (fun _ => False) (fun _ => []) := ⟨_, hrV, rows_empty _ _, fun g => g⟩
  have HRA := Lib.hid hRA
  have HSV := Lib.hid (hs.keep hb)
  have HOFF : Hid (Off ao (W.heap.size + 1) (fun _ => False)) := fun a ha => ⟨fun e => by have := hao a ha; omega, fun g => g⟩
  have HBV := Lib.hid hb
  have HSZ := Lib.hid hsz
  have HD0 := Lib.hid hd0
  have HRV := Lib.hid hrV
  clear ht hne hs hg htot hx hw hwt hb hsz hrV hd0 hRA
  have hcall := add_any (W.heap.size + 1) (fun _ => False) (fun _ => []) ao la ca xs V HRA.out HSV.out HOFF.out (fun x hx => by obtain ⟨d, h1, h2⟩ := HX.out x hx; exact ⟨d, by omega, h2⟩) (fun i => by simp; omega)
  rw [hV] at hcall
  have HCALL := Lib.hid hcall
  clear hcall
  go_enter Try.func44, Try.ntmps44
  go_wp2_with fail
  refine HCALL.out.mono ?_
  rintro e w1 ⟨rfl, ha⟩
  rw [← hV] at ha
  have hinv : ∃ us X, CInv W tb mb L F n (n / F) c true (((wt L c).toNat + 1)) w1 c us (addL (fun _ => []) xs) X la := by
    obtain ⟨⟨Y, ⟨us, hus, hv, hny⟩, hy, ho⟩, _⟩ := ha
    have hm2 := HMB.out
    have hs2 := HSZ.out
    have fr : ∀ k, k < W.heap.size + 1 → ¬ (k = W.heap.size + 1 ∨ False) := fun k hk g => by rcases g with g | g; omega; exact g
    have k0 : ∀ i v, (#[Value.int .i64 (L : Int), .int .i64 F, .pointer (some ⟨tb, 0, none⟩)] : Array Value)[i]? = some v → w1.cell? ⟨W.heap.size, i, none⟩ = some v := fun i v hi => by
      refine ho.cell (p := ⟨W.heap.size, i, none⟩) ?_ (fr _ (by show W.heap.size < _; omega))
      simp only [World.cell?]
      rw [HD0.out]
      simpa using hi
    refine ⟨us, fun k => Y k ∧ k < w1.heap.size, (Only.of_below HBV.out).andThen ho (fun i hi => .inr (by rcases hi with hi | hi; omega; exact hi.elim)), ⟨ho.cell (cell_later HBV.out HT.out.c0) (fr tb (by omega)), ho.cell (cell_later HBV.out HT.out.c1) (fr tb (by omega)), ho.cm (HT.out.m.keep HBV.out) (fr mb (by omega))⟩, k0 0 _ rfl, k0 1 _ rfl, k0 2 _ rfl, hus, hv.tight, fun k hk => ⟨?_, hk.2⟩, by have := ho.size; omega, fun e _ he p hp hc => ?_, fun e x hx => ?_, fun e => ?_, ?_, HG.out, rfl, fun _ z hz => hz, fun h => by simp at h, by simp⟩
    · rcases hy k hk.1 with g | g
      · exact g.elim
      · omega
    · unfold addL
      simp [HW.out e he p hp hc, hp]
    · unfold addL at hx
      simp at hx
      refine ⟨hx.2, ?_⟩
      obtain ⟨d, h1, h2⟩ := HX.out x hx.1
      rw [hx.2.same h2]; exact h1
    · unfold addL
      have := List.length_filter_le (fun p => decide (At e p)) xs
      have := HLE.out
      simp
      omega
    · have := HWT.out
      omega
  obtain ⟨us, X, hinv⟩ := hinv
  have HI := Lib.hid hinv
  clear hinv ha hV
  go_wp2_with fail
  go_loopg [5] ((wt L c).toNat + 1) (fun g t5 wr => ∃ b : Bool, t5 = .bool b ∧ Hid (∃ d us rs X K, CInv W tb mb L F n (n / F) c b g wr d us rs X K))
  case atStart => exact ⟨true, rfl, c, us, _, X, la, HI.out⟩
  case round =>
    obtain ⟨b, rfl, HJ⟩ := hrel
    clear HI
    cases b with
    | false =>
      go_wp2
      go_end0
      obtain ⟨d, us, rs, X, K, hi⟩ := HJ.out
      exact ⟨rfl, d, hi.no rfl, hi.tree, hi.good, hi.tot, hi.frame⟩
    | true =>
      obtain ⟨d, us, rs, X, K, hi⟩ := HJ.out
      have e0 := hi.d0
      have e1 := hi.d1
      have e2 := hi.d2
      have HQ := Lib.hid hi
      have HTR := Lib.hid hi.tree
      have hul : us.length = 20 := hi.rows.len
      have hinf : (Try.prog.info? 93).map (·.size) = some us.toArray.size := by
        rw [show us.toArray.size = 20 by simpa using hul]
        kernel_rfl
      have HINF := Lib.hid hinf
      have HUL := Lib.hid hul
      have HCL := Lib.hid hi.cells
      clear hi hinf hul HJ
      go_wp2_with (refine wpList_load_row rfl 93 (.tmp 4) rfl (W.heap.size + 1) rfl 93 us.toArray (0, 0) _ HCL.out Try.underlying93 (by kernel_rfl) HINF.out ?_)
      have hpre : PreM wr tb mb X := ⟨HNE.out, by have := HQ.out.size; omega, by have := HQ.out.size; have := HMB.out; omega, fun g => by have := (HQ.out.x _ g).1; omega, fun g => by have := (HQ.out.x _ g).1; have := HMB.out; omega, fun k hk => (HQ.out.x k hk).2⟩
      have htot2 : tot L d = n := HQ.out.tot.trans HTO.out
      refine (pass_any tb mb L K F n X d us rs wr HTR.out hpre HQ.out.rows hL hL2 hF hF2 hn hn2 (fun q => by have := good_le HQ.out.good q; omega) HQ.out.good htot2 HQ.out.wait HQ.out.wf HQ.out.len HQ.out.K).mono ?_
      rintro e w2 ⟨zs, ns, b2, Y, rfl, hb2, hr2, hy2, ht2, ho2, hh2, hf2, hl2, hg2, hto2, hw2, hws2⟩
      have hC : w2.heap[W.heap.size + 1]? = some (.cells us.toArray 93 (0, 0)) := (ho2.block _ (Array.getElem?_eq_some_iff.1 HCL.out).1 (by
        rintro (g | g)
        · have := HMB.out; omega
        · have := (HQ.out.x _ g).1; omega)).trans HCL.out
      have hzl : zs.length = 20 := hr2.len
      have hone := rows_one hr2
      have hinf2 : (Try.prog.info? 93).map (·.size) = some zs.toArray.size := by
        rw [show zs.toArray.size = 20 by simpa using hzl]
        kernel_rfl
      have HC := Lib.hid hC
      have HZ := Lib.hid hzl
      have HON := Lib.hid hone
      have HIN2 := Lib.hid hinf2
      have HB2 := Lib.hid hb2
      have HR2 := Lib.hid hr2
      have HY2 := Lib.hid hy2
      have HT2 := Lib.hid ht2
      have HO2 := Lib.hid ho2
      have HH2 := Lib.hid hh2
      have HF2 := Lib.hid hf2
      have HL2 := Lib.hid hl2
      have HG2 := Lib.hid hg2
      have HTO2 := Lib.hid hto2
      have HW2 := Lib.hid hw2
      have HWS2 := Lib.hid hws2
      have HK : Hid (gk - 1 < gk ∧ (wt L d).toNat + 1 ≤ gk) := ⟨by have := HQ.out.g; simp at this; omega, by have := HQ.out.g; simpa using this⟩
      have HNEW : Hid (∃ d us rs X K, CInv W tb mb L F n (n / F) c b2 (gk - 1) (w2.setRow (W.heap.size + 1) zs.toArray) d us rs X K) := by
        have hm2 := HMB.out
        have hq := HQ.out.size
        have hO : Only (fun k => k = W.heap.size + 1) w2 (w2.setRow (W.heap.size + 1) zs.toArray) := ⟨rfl, rfl, rfl, by simp [World.setRow], fun k hk hp => setRow_other w2 (W.heap.size + 1) k zs.toArray hp⟩
        have hrow : (w2.setRow (W.heap.size + 1) zs.toArray).heap[W.heap.size + 1]? = some (.cells zs.toArray 93 (0, 0)) := setRow_heap w2 (W.heap.size + 1) _ zs.toArray 93 (0, 0) hC
        have ox : ∀ k, k < W.heap.size + 1 → k ≠ mb → ¬ (k = mb ∨ X k) := fun k h1 h2 g => by
          rcases g with g | g
          · exact h2 g
          · have := (HQ.out.x k g).1; omega
        have o2 : ∀ k, k < W.heap.size + 1 → ¬ k = W.heap.size + 1 := fun k hk => by omega
        have hs2 := hO.size
        have hs1 := ho2.size
        have hwn := wt_nonneg L d
        have hwn2 := wt_nonneg L (passF (n / F) L d)
        refine ⟨passF (n / F) L d, zs, ns, Y, (2 * (wt L d - wt L (passF (n / F) L d))).toNat, ?_, ?_, hO.cell (ho2.cell HQ.out.d0 (ox W.heap.size (by omega) (by omega))) (o2 W.heap.size (by omega)), hO.cell (ho2.cell HQ.out.d1 (ox W.heap.size (by omega) (by omega))) (o2 W.heap.size (by omega)), hO.cell (ho2.cell HQ.out.d2 (ox W.heap.size (by omega) (by omega))) (o2 W.heap.size (by omega)), hrow, hr2.only hO (fun k hk g => ?_), fun k hk => ⟨?_, ?_⟩, by omega, hh2, hf2, fun e => ?_, ?_, hg2, hto2.trans HQ.out.tot, fun h z hz => ?_, fun h => ?_, ?_⟩
        · refine (HQ.out.frame.andThen ho2 (fun i hi => ?_)).andThen hO (fun i hi => .inr (by omega))
          rcases hi with g | g
          · exact .inl g
          · have := (HQ.out.x i g).1; exact .inr (by omega)
        · exact ⟨hO.cell ht2.c0 (o2 tb (by omega)), hO.cell ht2.c1 (o2 tb (by omega)), hO.cm ht2.m (o2 mb (by omega))⟩
        · have := (hy2 k hk).1; omega
        · have := (hy2 k hk).1; omega
        · have := (hy2 k hk).2; omega
        · have := hl2 e; omega
        · have h5 := HQ.out.K
          have h6 := HQ.out.len 0
          omega
        · exact HQ.out.yes rfl z (Comp.more _ _ (hb2.1 h) hz)
        · have hnm : ¬ moved (n / F) L d := fun g => by rw [hb2.2 g] at h; simp at h
          have e := (still_pass (n / F) L d (still_of (n / F) L d hnm)).1
          rw [e]
          exact HQ.out.yes rfl d (Comp.done d hnm)
        · have h7 := HK.out.2
          cases b2 with
          | false => simp; omega
          | true =>
            have := hws2 rfl
            simp
            omega
      clear hC hzl hone hinf2 hb2 hr2 hy2 ht2 ho2 hh2 hf2 hl2 hg2 hto2 hw2 hws2 hpre htot2 e0 e1 e2
      go_wp2_with (refine wpList_store_row rfl 93 (.tmp 4) (.tmp 13) rfl (W.heap.size + 1) zs.toArray rfl rfl 93 us.toArray HC.out HIN2.out (by simp [HZ.out, HUL.out]) HON.out ?_)
      go_roundg (gk - 1)
      case measure => exact HK.out.1
      case rel => exact ⟨b2, rfl, HNEW.out⟩
end Go.Proofs.Ythjmiimkplhffaa

/- The program's plus: a new tree with the counts of a digest and of a map. -/
set_option linter.unusedVariables false
set_option linter.unusedSimpArgs false
namespace Go.Proofs.Ythjmiimkplhffaa
open Go.RowKit Go.Maps

theorem clone_cm (b : Nat) (c : Int → Int) (W : World) (h : Cm W b c) :
    Calls Try.prog 59 #[.map (some b)] W (fun e w' => e = .returned (.map (some W.heap.size)) ∧ Cm w' W.heap.size c ∧ Below W.heap.size W w' ∧ w'.heap.size = W.heap.size + 1) := by
  obtain ⟨D, ⟨es, clock, h1, h2⟩, h3⟩ := h
  have hc := AnyW.maps_Clone Try.cloneLay b es clock W h1
  change Calls Try.prog 59 _ _ _ at hc
  refine hc.mono fun e w' ⟨he, hw⟩ => ?_
  subst hw
  exact ⟨he, ⟨D, ⟨es, clock, heap_alloc_new _ _, h2⟩, h3⟩, (Below.refl _ _).alloc (Nat.le_refl _) _, by simp⟩

/-- the new tree, before the loop -/
def NewTree (V : World) (n : Int) (c : Int → Int) (v : Value) (w : World) : Prop :=
  ∃ T M : Nat, v = .pointer (some ⟨T, 0, none⟩) ∧ Tree w T M n c ∧ T ≠ M ∧ V.heap.size ≤ T ∧ V.heap.size ≤ M ∧ T < w.heap.size ∧ Below V.heap.size V w

theorem set_new {w : World} {T : Nat} {a b x y : Value} {ty : TypeId} (h : w.heap[T]? = some (.cells #[a, b] ty (0, 0))) :
    ((w.setCell ⟨T, 0, none⟩ x).setCell ⟨T, 1, none⟩ y).heap[T]? = some (.cells #[x, y] ty (0, 0)) := by
  simp only [World.setCell, Array.getElem?_modify]
  rw [h]
  simp

theorem two_cells {w : World} {T : Nat} {a b : Value} {ty : TypeId} (h : w.heap[T]? = some (.cells #[a, b] ty (0, 0))) :
    w.cell? ⟨T, 0, none⟩ = some a ∧ w.cell? ⟨T, 1, none⟩ = some b ∧ w.frozen? ⟨T, 0, none⟩ = false ∧ w.frozen? ⟨T, 1, none⟩ = false := by
  refine ⟨?_, ?_, ?_, ?_⟩
  · simp only [World.cell?]; rw [h]; simp
  · simp only [World.cell?]; rw [h]; simp
  · simp only [World.frozen?]; rw [h]; simp
  · simp only [World.frozen?]; rw [h]; simp

theorem keep_set2 {w : World} {T : Nat} {a : Addr} {u v x : Value} (h : w.cell? a = some x) (hne : a.block ≠ T) : ((w.setCell ⟨T, 0, none⟩ u).setCell ⟨T, 1, none⟩ v).cell? a = some x :=
  ((Only.setCell w ⟨T, 0, none⟩ u).trans (Only.setCell _ ⟨T, 1, none⟩ v)).cell h hne
theorem keep_new2 {w : World} {o : Obj} {a : Addr} {u v x : Value} (h : w.cell? a = some x) : (((w.alloc o).setCell ⟨w.heap.size, 0, none⟩ u).setCell ⟨w.heap.size, 1, none⟩ v).cell? a = some x := by
  have hl := block_lt_of_cell h
  exact keep_set2 (cell_later ((Below.refl _ _).alloc (Nat.le_refl _) _) h) (by omega)

theorem three_cells {w : World} {T : Nat} {a b d : Value} {ty : TypeId} (h : w.heap[T]? = some (.cells #[a, b, d] ty (0, 0))) :
    w.cell? ⟨T, 0, none⟩ = some a ∧ w.cell? ⟨T, 1, none⟩ = some b ∧ w.cell? ⟨T, 2, none⟩ = some d ∧ w.frozen? ⟨T, 0, none⟩ = false ∧ w.frozen? ⟨T, 1, none⟩ = false ∧ w.frozen? ⟨T, 2, none⟩ = false := by
  refine ⟨?_, ?_, ?_, ?_, ?_, ?_⟩
  all_goals first | (simp only [World.cell?]; rw [h]; simp; done) | (simp only [World.frozen?]; rw [h]; simp)

theorem set_three {w : World} {T : Nat} {a b d x y z : Value} {ty : TypeId} (h : w.heap[T]? = some (.cells #[a, b, d] ty (0, 0))) :
    (((w.setCell ⟨T, 0, none⟩ x).setCell ⟨T, 1, none⟩ y).setCell ⟨T, 2, none⟩ z).heap[T]? = some (.cells #[x, y, z] ty (0, 0)) := by
  simp only [World.setCell, Array.getElem?_modify]
  rw [h]
  simp

/-- the clone first, then the block -/
theorem newTree_cd {V w4 : World} {n : Int} {c : Int → Int} (hm : Cm w4 V.heap.size c) (hb : Below V.heap.size V w4) (hs : w4.heap.size = V.heap.size + 1) :
    NewTree V n c (.pointer (some ⟨V.heap.size + 1, 0, none⟩)) (w4.alloc (.cells #[.map (some V.heap.size), .int .i64 n] 69)) := by
  have hr := heap_alloc_new w4 (.cells #[.map (some V.heap.size), .int .i64 n] 69)
  rw [hs] at hr
  have hB : Below w4.heap.size w4 (w4.alloc (.cells #[.map (some V.heap.size), .int .i64 n] 69)) := (Below.refl _ _).alloc (Nat.le_refl _) _
  have h2 := two_cells hr
  exact ⟨V.heap.size + 1, V.heap.size, rfl, ⟨h2.1, h2.2.1, hm.keep hB⟩, by omega, by omega, Nat.le_refl _, (Array.getElem?_eq_some_iff.1 hr).1, hb.trans (hB.mono (by omega))⟩
/-- the block first, then the clone -/
theorem newTree_dc {V w4 : World} {n : Int} {c : Int → Int} (hm : Cm w4 (V.heap.size + 1) c) (hb : Below (V.heap.size + 1) (V.alloc (.cells #[.map none, .int .i64 0] 69)) w4) :
    NewTree V n c (.pointer (some ⟨V.heap.size, 0, none⟩)) ((w4.setCell ⟨V.heap.size, 0, none⟩ (.map (some (V.heap.size + 1)))).setCell ⟨V.heap.size, 1, none⟩ (.int .i64 n)) := by
  have h0 : w4.heap[V.heap.size]? = some (.cells #[.map none, .int .i64 0] 69 (0, 0)) := (hb.block _ (by omega)).trans (heap_alloc_new _ _)
  have hr := set_new (x := .map (some (V.heap.size + 1))) (y := .int .i64 n) h0
  have hg : Only (fun k => k = V.heap.size) w4 ((w4.setCell ⟨V.heap.size, 0, none⟩ (.map (some (V.heap.size + 1)))).setCell ⟨V.heap.size, 1, none⟩ (.int .i64 n)) := (Only.setCell _ ⟨V.heap.size, 0, none⟩ _).trans (Only.setCell _ ⟨V.heap.size, 1, none⟩ _)
  have hb2 : Below V.heap.size V w4 := ((Below.refl _ _).alloc (Nat.le_refl _) _).trans (hb.mono (by omega))
  refine ⟨V.heap.size, V.heap.size + 1, rfl, ⟨?_, ?_, hg.cm hm (by omega)⟩, by omega, Nat.le_refl _, by omega, ?_, ?_⟩
  · simp only [World.cell?]; rw [hr]; simp
  · simp only [World.cell?]; rw [hr]; simp
  · exact (Array.getElem?_eq_some_iff.1 hr).1
  · exact (hb2.setCell (p := ⟨V.heap.size, 0, none⟩) (Nat.le_refl _) _).setCell (p := ⟨V.heap.size, 1, none⟩) (Nat.le_refl _) _

/-- the counts that have come -/
def came (c k : Int → Int) (left : Lit → Bool) : Int → Int := fun q => c q + if left (.int .i64 q) = true then 0 else k q
theorem came_start {c k : Int → Int} {D : DataW Unit} {L : Nat} (hr : Reads D k) (hg : Good L k) (hL : L ≤ 20) : came c k (has D) = c := by
  funext q
  unfold came
  by_cases h : k q = 0
  · split <;> omega
  · have h1 := hg.2 q h
    have h2 : (2 : Int) ^ (L + 1) ≤ 2 ^ 21 := pow_le_int (by omega)
    rw [if_pos ((hr.has_ q (by unfold InW; omega)).2 h)]
    omega
theorem came_end {c k : Int → Int} {left : Lit → Bool} (h : ∀ kl, left kl = false) : came c k left = fun q => c q + k q := by
  funext q
  unfold came
  rw [h]
  simp
theorem came_step {c k : Int → Int} {left : Lit → Bool} {x : Int} (h : left (.int .i64 x) = true) : (fun y => if y = x then came c k left x + k x else came c k left y) = came c k (fun z => left z && !z.sameKey (.int .i64 x)) := by
  funext y
  unfold came
  by_cases e : y = x
  · subst e
    simp [h, Lit.sameKey]
  · simp [e, Lit.sameKey]
theorem came_good {c k : Int → Int} {left : Lit → Bool} {L : Nat} (hc : Good L c) (hk : Good L k) : Good L (came c k left) := by
  refine ⟨fun q => ?_, fun q hq => ?_⟩
  · have := hc.1 q; have := hk.1 q
    unfold came; split <;> omega
  · by_cases h : c q = 0
    · refine hk.2 q (fun e => hq ?_)
      unfold came; split <;> omega
    · exact hc.2 q h

/-- in the middle of the loop over the map kb -/
structure PInv (wc wr : World) (T M kb r : Nat) (n : Int) (c k : Int → Int) (D : DataW Unit) (left : Lit → Bool) (cnt : Nat) : Prop where
  rg : wr.ranges Try.prog 3 (plainElem Try.prog 3) kb r (size D) D left cnt
  tree : Tree wr T M n (came c k left)
  fr : Only (fun b => b = M) wc wr

set_option maxRecDepth 100000 in
set_option maxHeartbeats 4000000 in
theorem plus_any (l f n m : Int) (tb mb kb L : Nat) (c k : Int → Int) (W : World) (ht : Tree W tb mb n c) (hk : Cm W kb k) (hgc : Good L c) (hgk : Good L k) (hL : L ≤ 20)
    (hn : 0 ≤ n) (hn2 : n ≤ 1099511627776) (hm : 0 ≤ m) (hm2 : m ≤ 1099511627776) (hcb : ∀ q, c q ≤ 1099511627776) (hkb : ∀ q, k q ≤ 1099511627776) :
    Calls Try.prog 43 #[.agg #[.int .i64 l, .int .i64 f, .pointer (some ⟨tb, 0, none⟩)], .map (some kb), .int .i64 m] W
      (fun e w' => ∃ T M : Nat, e = .returned (.agg #[.int .i64 l, .int .i64 f, .pointer (some ⟨T, 0, none⟩)]) ∧ Tree w' T M (n + m) (fun q => c q + k q) ∧ T ≠ M ∧ W.heap.size ≤ T ∧ W.heap.size ≤ M ∧ T < w'.heap.size ∧ Below W.heap.size W w') := by
  obtain ⟨V, hV⟩ : ∃ V, V = (W.alloc (.cells #[.int .i64 l, .int .i64 f, .pointer (some ⟨tb, 0, none⟩)] 28)).alloc (.cells #[.int .i64 0, .int .i64 0, .pointer none] 28) := ⟨_, rfl⟩
  have hb : Below W.heap.size W V := by
    rw [hV]
    exact ((Below.refl _ _).alloc (Nat.le_refl _) _).alloc (by simp) _
  have hsz : V.heap.size = W.heap.size + 2 := by rw [hV]; simp
  have hd0 : V.heap[W.heap.size]? = some (.cells #[.int .i64 l, .int .i64 f, .pointer (some ⟨tb, 0, none⟩)] 28 (0, 0)) := by
    rw [hV, Below.heap_alloc _ _ _ (by simp)]
    exact heap_alloc_new _ _
  have hd1 : V.heap[W.heap.size + 1]? = some (.cells #[.int .i64 0, .int .i64 0, .pointer none] 28 (0, 0)) := by
    rw [hV]
    have := heap_alloc_new (W.alloc (.cells #[.int .i64 l, .int .i64 f, .pointer (some ⟨tb, 0, none⟩)] 28)) (.cells #[.int .i64 0, .int .i64 0, .pointer none] 28)
    simpa using this
  have c0 : V.cell? ⟨tb, 0, none⟩ = some (.map (some mb)) := cell_later hb ht.c0
  have c1 : V.cell? ⟨tb, 1, none⟩ = some (.int .i64 n) := cell_later hb ht.c1
  have c2 : V.cell? ⟨W.heap.size, 0, none⟩ = some (.int .i64 l) := by simp only [World.cell?]; rw [hd0]; simp
  have c3 : V.cell? ⟨W.heap.size, 1, none⟩ = some (.int .i64 f) := by simp only [World.cell?]; rw [hd0]; simp
  have c4 : V.cell? ⟨W.heap.size, 2, none⟩ = some (.pointer (some ⟨tb, 0, none⟩)) := by simp only [World.cell?]; rw [hd0]; simp
  have HM := Lib.hid (ht.m.keep hb)
  have HK := Lib.hid (hk.keep hb)
  have HB := Lib.hid hb
  have HSZ := Lib.hid hsz
  have HD0 := Lib.hid hd0
  have HD1 := Lib.hid hd1
  have HGC := Lib.hid hgc
  have HGK := Lib.hid hgk
  have HCB := Lib.hid hcb
  have HKB := Lib.hid hkb
  have HV := Lib.hid hV
  have ltb : tb < V.heap.size := block_lt_of_cell c0
  have HWR : Hid (IntKind.i64.wrap (n + m) = n + m) := IntWalk.i64_in _ (by omega)
  have n0 : tb ≠ V.heap.size := by omega
  have n1 : W.heap.size ≠ V.heap.size := by omega
  clear ht hk hb hsz hd0 hd1 hgc hgk hcb hkb hV
  go_enter Try.func43, Try.ntmps43
  go_upto_region 1 with fail
  rw [← HV.out]
  go_cut [7] (fun v7 wx => NewTree V (n + m) c v7 wx)
  case first =>
    have hbz : Below V.heap.size V (V.alloc (.cells #[.map none, .int .i64 0] 69)).drew := ((Below.refl _ _).alloc (Nat.le_refl _) _).drew
    go_region_held3 (fun w' => w'.cell? ⟨tb, 0, none⟩ = some (.map (some mb)) ∧ w'.cell? ⟨tb, 1, none⟩ = some (.int .i64 n) ∧ w'.cell? ⟨W.heap.size, 2, none⟩ = some (.pointer (some ⟨tb, 0, none⟩))) (first | with_reducible exact ⟨keep_new2 f0, keep_new2 f1, keep_new2 f4⟩ | with_reducible exact ⟨keep_set2 f0 n0, keep_set2 f1 n0, keep_set2 f4 n1⟩ | go_keep)
      (first | (go_at_call 59; refine (clone_cm mb c V.drew HM.out).mono ?_; rintro e w4 ⟨rfl, hm4, hb4, hs4⟩; have f0 := cell_later hb4 c0; have f1 := cell_later hb4 c1; have f4 := cell_later hb4 c4) | (go_at_call 59; refine (clone_cm mb c (V.alloc (.cells #[.map none, .int .i64 0] 69)).drew (HM.out.keep hbz)).mono ?_; rintro e w4 ⟨rfl, hm4, hb4, hs4⟩; have f0 := cell_later hb4 (cell_later hbz c0); have f1 := cell_later hb4 (cell_later hbz c1); have f4 := cell_later hb4 (cell_later hbz c4); have hT := two_cells ((hb4.block V.heap.size (by simp)).trans (heap_alloc_new V (.cells #[.map none, .int .i64 0] 69))); have f5 := hT.1; have f6 := hT.2.1; have f7 := hT.2.2.1; have f8 := hT.2.2.2))
    · have HNT := Lib.hid (newTree_cd (V := V) (n := n + m) hm4 ((Below.refl V.heap.size V).drew.trans hb4) hs4)
      clear hm4 hb4 hs4 f0 f1 f4 hbz
      rw [HWR.out]
      go_wp2_with fail
      go_meet
      case rel => exact HNT.out
    · have HNT := Lib.hid (newTree_dc (V := V) (n := n + m) (by simpa using hm4) ((Below.refl (V.heap.size + 1) (V.alloc (.cells #[.map none, .int .i64 0] 69))).drew.trans (by simpa using hb4)))
      clear hm4 hb4 hs4 f0 f1 f4 f5 f6 f7 f8 hT hbz
      rw [HWR.out]
      go_wp2_with fail
      go_meet
      case rel => exact HNT.out
  case rest =>
    obtain ⟨T, M, rfl, htr, hne, hT, hM, hTl, hbl⟩ := hcut
    have HTR := Lib.hid htr
    have HNE := Lib.hid hne
    have HBL := Lib.hid hbl
    have HTL := Lib.hid hTl
    have HT := Lib.hid hT
    have HMM := Lib.hid hM
    obtain ⟨D, hown, hr⟩ := HK.out.keep hbl
    have hkl := HK.out.lt
    have HOWN := Lib.hid hown
    have HR := Lib.hid hr
    have HKL := Lib.hid hkl
    clear htr hne hbl hTl hT hM hown hr hkl c0 c1 c2 c3 c4
    go_wp2_with (first
      | (at_range; refine wpList_range_own _ rfl _ 67 rfl 3 3 (int_keyed Try.underlying3) Try.underlying67 _ kb (size D) _ rfl HOWN.out ?_; intro w0 hrg0 hg0 hs0; have HRG := Lib.hid hrg0; have HG0 := Lib.hid hg0; have HS0 := Lib.hid hs0; clear hrg0 hg0 hs0)
      | go_in)
    go_frame
    have H0 : Hid (PInv wc w0 T M kb wc.heap.size (n + m) c k D (has D) (size D)) := by
      have ho : Only (fun b => b = M) wc w0 := (Only.of_grown HG0.out).mono (fun i hi => by simp at hi)
      refine ⟨HRG.out, ?_, ho⟩
      rw [came_start HR.out HGK.out hL]
      have h1 := HTR.out
      exact ⟨HG0.out.cell h1.c0 (by simp), HG0.out.cell h1.c1 (by simp), h1.m.grown HG0.out (by simp)⟩
    go_loopw [8] (fun _ wr => ∃ (left : Lit → Bool) (cnt : Nat), Hid (PInv wc wr T M kb wc.heap.size (n + m) c k D left cnt)) (fun _ wr => wr.rangeLeft kb wc.heap.size)
    case atStart => exact ⟨_, _, H0⟩
    case round =>
      obtain ⟨left, cnt, HI⟩ := hrel
      clear H0 HRG HG0 HS0
      go_wp2_with (first
        | (at_next; refine wpList_next_ranges_ii _ rfl _ rfl 3 3 .i64 .i64 (int_keyed Try.underlying3) Try.underlying3 Try.underlying3 kb wc.heap.size (size D) _ _ _ rfl HI.out.rg ?_ ?_)
        | go_in)
      · intro _ hl0
        have hT := HI.out.tree
        rw [came_end hl0] at hT
        have HT2 := Lib.hid hT
        have c2 : wr.cell? ⟨W.heap.size, 0, none⟩ = some (.int .i64 l) := by
          refine HI.out.fr.cell (cell_later HBL.out ?_) (by show ¬ W.heap.size = M; have := HMM.out; have := HSZ.out; omega)
          simp only [World.cell?]; rw [HD0.out]; simp
        have c3 : wr.cell? ⟨W.heap.size, 1, none⟩ = some (.int .i64 f) := by
          refine HI.out.fr.cell (cell_later HBL.out ?_) (by show ¬ W.heap.size = M; have := HMM.out; have := HSZ.out; omega)
          simp only [World.cell?]; rw [HD0.out]; simp
        have hR : wr.heap[W.heap.size + 1]? = some (.cells #[.int .i64 0, .int .i64 0, .pointer none] 28 (0, 0)) := (HI.out.fr.block _ (by have := HBL.out.size; have := HSZ.out; omega) (by have := HMM.out; have := HSZ.out; omega)).trans ((HBL.out.block _ (by have := HSZ.out; omega)).trans HD1.out)
        have hr0 := three_cells hR
        have e0 := hr0.1
        have e1 := hr0.2.1
        have e2 := hr0.2.2.1
        have e3 := hr0.2.2.2.1
        have e4 := hr0.2.2.2.2.1
        have e5 := hr0.2.2.2.2.2
        have HRR := Lib.hid hR
        clear hT hl0 hr0 hR
        go_wp2
        refine bodyPost_ret (v := .agg #[.int .i64 l, .int .i64 f, .pointer (some ⟨T, 0, none⟩)]) (results_cell_row Try.results43 _ _ (W.heap.size + 1) 28 #[.int .i64 l, .int .i64 f, .pointer (some ⟨T, 0, none⟩)] (0, 0) _ rfl (set_three HRR.out) Try.underlying28 (by kernel_rfl) (by kernel_rfl)) rfl ?_
        have h1 := HT.out
        have h2 := HMM.out
        have h3 := HSZ.out
        have h4 := HTL.out
        have ho : Only (fun b => b = W.heap.size + 1) wr (((wr.setCell ⟨W.heap.size + 1, 0, none⟩ (.int .i64 l)).setCell ⟨W.heap.size + 1, 1, none⟩ (.int .i64 f)).setCell ⟨W.heap.size + 1, 2, none⟩ (.pointer (some ⟨T, 0, none⟩))) :=
          ((Only.setCell wr ⟨W.heap.size + 1, 0, none⟩ _).trans (Only.setCell _ ⟨W.heap.size + 1, 1, none⟩ _)).trans (Only.setCell _ ⟨W.heap.size + 1, 2, none⟩ _)
        refine ⟨T, M, rfl, ⟨ho.cell HT2.out.c0 (by show ¬ T = _; omega), ho.cell HT2.out.c1 (by show ¬ T = _; omega), ho.cm HT2.out.m (by omega)⟩, HNE.out, by omega, by omega, ?_, ?_⟩
        · have := ho.size; have := HI.out.fr.size; omega
        · have o1 : Only (fun b => W.heap.size ≤ b) W V := Only.of_below HB.out
          have o2 : Only (fun b => W.heap.size ≤ b) V wc := Only.of_below HBL.out
          exact (((o1.trans o2).trans (HI.out.fr.mono (fun i hi => by subst hi; omega))).trans (ho.mono (fun i hi => by subst hi; omega))).below (fun i hi => hi)
      · intro x cc w1 cnt1 hwx hwc hlx hat hrg1 hlt hg1 hs1 hen
        have hxw : InW x := by
          unfold InW
          simp [Lit.wf, IntKind.min, IntKind.max, IntKind.signed, IntKind.bits] at hwx
          omega
        obtain rfl : cc = k x := by
          have h1 := hat (.lit (.int .i64 0))
          rw [HR.out.at_ x hxw] at h1
          simpa using h1.symm
        have hk0 : k x ≠ 0 := (HR.out.has_ x hxw).1 (has_true_of_atKey hat)
        have hkx := HGK.out.1 x
        have hm0 : Hid (came c k left x = c x) := by
          show _ = _
          unfold came
          rw [if_pos hlx]
          omega
        have hcx := HGC.out.1 x
        have hcx2 := HCB.out x
        have hkx2 := HKB.out x
        have hTr : Tree w1 T M (n + m) (came c k left) := ⟨hg1.cell HI.out.tree.c0 (by have := HT.out; have := HBL.out.size; simp; have := HTL.out; omega), hg1.cell HI.out.tree.c1 (by have := HTL.out; simp; omega), HI.out.tree.m.grown hg1 (by have := HTR.out.m.lt; simp; omega)⟩
        have f0 := hTr.c0
        have f1 : (Instr.lookup 67 (.map (some M)) (.int .i64 x) false).run Try.prog w1 = .ok (.int .i64 (c x)) w1 := by
          have := Cm.look hTr.m x hxw
          rwa [hm0.out] at this
        obtain ⟨u, hu⟩ : ∃ u, u = c x := ⟨_, rfl⟩
        obtain ⟨v, hv⟩ : ∃ v, v = k x := ⟨_, rfl⟩
        rw [← hu] at f1 hcx hcx2
        rw [← hv] at hk0 hkx hkx2 hen
        have HSTEP := Lib.hid (came_step (c := c) (k := k) hlx)
        have HTR1 := Lib.hid hTr
        have HRG1 := Lib.hid hrg1
        have HG1 := Lib.hid hg1
        have HXW := Lib.hid hxw
        have HLT := Lib.hid hlt
        have HU := Lib.hid hu
        have HVV := Lib.hid hv
        clear hTr hrg1 hg1 hs1 hlt hat hlx hwx hwc hxw hu hv
        rw [← HVV.out]
        go_wp2_with (at_mapUpdate; refine wpList_put rfl (.tmp 32) (.tmp 33) (.tmp 36) rfl M _ L HTR1.out.m (came_good HGC.out HGK.out) hL rfl x (u + v) HXW.out (by unfold InW; omega) (by omega) rfl rfl ?_; intro w2 hm2 hg2; have HM2 := Lib.hid hm2; have HG2 := Lib.hid hg2; clear hm2 hg2)
        go_frame
        go_roundw
        case rel =>
          refine ⟨_, cnt1, HRG1.out.kept HG2.out (by have := HTR.out.m.lt; have := HNE.out; have := HMM.out; have := HKL.out; simp; omega) (by have := HTR.out.m.lt; simp; omega), ?_, ?_⟩
          · rw [← HSTEP.out]
            refine ⟨HG2.out.cell HTR1.out.c0 (by have := HNE.out; simp; omega), HG2.out.cell HTR1.out.c1 (by have := HNE.out; simp; omega), ?_⟩
            rw [hm0.out, ← HU.out, ← HVV.out]
            exact HM2.out
          · exact ((HI.out.fr.andThen (Only.of_grown HG1.out) (fun i hi => .inr (by simp at hi; omega))).andThen (Only.of_grown HG2.out) (fun i hi => .inl (by simp at hi; omega)))
        case measure =>
          rw [(HRG1.out.kept HG2.out (by have := HTR.out.m.lt; have := HNE.out; have := HMM.out; have := HKL.out; simp; omega) (by have := HTR.out.m.lt; simp; omega)).left_eq, HI.out.rg.left_eq]
          exact HLT.out
end Go.Proofs.Ythjmiimkplhffaa
