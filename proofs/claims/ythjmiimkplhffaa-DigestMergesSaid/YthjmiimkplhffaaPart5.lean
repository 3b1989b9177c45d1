/- Part 5 of the contracts: DParents, DSum, DPut. -/
import Derived.Test.YthjmiimkplhffaaPart4

/- The program's parents: the parents of all nodes but the root. (The walk of the region that draws its order: by gen_parents.py.) -/
set_option linter.unusedVariables false
set_option linter.unusedSimpArgs false
namespace Go.Proofs.Ythjmiimkplhffaa
open Go.RowKit Go.Maps Go.Shelf

/-- no defer statement among these operations -/
def plainOps (l : List Oper) : Bool := l.all fun o => match o.op with | .defer _ => false | _ => true
theorem plainOps_spec {l : List Oper} (h : plainOps l = true) {i : Nat} {o : Oper} (ho : l.toArray[i]? = some o) : ∀ c, o.op ≠ .defer c := by
  intro c hc
  have hm : o ∈ l := by
    rw [List.getElem?_toArray] at ho
    exact List.mem_of_getElem? ho
  have := List.all_eq_true.1 h o hm
  rw [hc] at this
  exact absurd this (by simp)
theorem wpOpsIn_round {F : Fence} {n : Nat} {P : Program} {ops : List Oper} {Q : Exit → Act → World → Prop} (hro : F.round = none) (l : Nat) (hd : plainOps ops = true) :
    ∀ (L : List Nat) (a : Act) (w : World), wpOpsIn F n P ops.toArray Q L a w → wpOpsIn (F.inRound l) n P ops.toArray Q L a w
  | [], a, w, h => h
  | i :: L, a, w, h => by
    have ih := wpOpsIn_round (n := n) (P := P) (Q := Q) hro l hd L
    simp only [wpOpsIn] at h ⊢
    cases ho : ops.toArray[i]? with
    | none => simp only [ho] at h ⊢; exact ih _ _ h
    | some o =>
      simp only [ho] at h ⊢
      by_cases hw : Region.wanted o (yielded ops.toArray a.tmps) = true
      · simp only [hw, if_true, Oper.wpIn] at h ⊢
        refine ⟨h.1, ?_⟩
        have h2 := h.2
        rw [hro, Oper.semAt_none] at h2
        rw [Fence.inRound_round, Oper.semAt_some l _ _ (plainOps_spec hd ho)]
        generalize (execOp a.eval o).run P w = r at *
        cases r with
        | ok x w' =>
          cases x <;> simp only [Oper.uponIn] at h2 ⊢ <;>
            first
              | exact ih _ _ h2
              | exact ⟨h2.1, CallsIn.mono h2.2 (fun e w'' he => by cases e <;> first | exact ih _ _ he | exact he)⟩
              | exact ⟨h2.1, RowsIn.mono h2.2 (fun _ _ he => ih _ _ he)⟩
              | exact ⟨h2.1, RoundIn.mono h2.2 (fun e w'' he => by cases e <;> first | exact ih _ _ he | exact he)⟩
        | halt x w' => cases x <;> simp only [Oper.uponIn] at h2 ⊢ <;> exact h2
      · simp only [hw] at h ⊢
        exact ⟨h.1, ih _ _ h.2⟩
/-- a region that draws its order, in a round: as outside of it -/
theorem region_round {n : Nat} {P : Program} {id : Nat} {Q : Exit → Act → World → Prop} {a : Act} {w : World} {ops : List Oper} {l : Nat} (hm : P.follows .mixedOrders = true) (hd : plainOps ops = true)
    (h : wpAnyIn Fence.wide n P .any ops.toArray Q ops.toArray.size (Array.replicate ops.toArray.size false) a w.drew) : (Code.region id ops.toArray true).wpIn (Fence.wide.inRound l) n P Q a w := by
  refine wpIn_region_draw fun t => wpOpsIn_round rfl l hd _ _ _ ?_
  simp only [Region.schedule, hm, Bool.true_or, if_true]
  exact wpAnyIn_sound ops.toArray.size t _ a _ h

/-- 'append(s, xs...)' to an own row, at a step of such a region -/
theorem stepIn_app {n : Nat} {P : Program} {w : World} {ops : Array Oper} {o : Oper} {a : Act} {K : Act → World → Prop} {Q : Exit → Act → World → Prop} {E : Prop}
    (hg : o.guard = none) (s x : Operand) (t : TypeId) (hop : o.op = Op.call { callee := Callee.builtin Builtin.append, args := #[s, x], argTypes := #[t, t] })
    (base : Nat) (e : TypeId) (i : TypeInfo) (z : Value) (size bytes : Nat) (h1 : P.underlying t = some (.slice e)) (h2 : P.info? e = some i) (h3 : i.zero = some z) (h4 : i.size = size) (h5 : i.bytes = bytes) (h6 : z.cells.size = size) (h7 : 0 < size)
    (v : Value) (k : Nat) (xs : List Value) (hs : a.eval s = v) (hown : w.ownsRow base e size v k xs) (ad : Addr) (m c : Nat) (news : List Value) (hx : a.eval x = .slice (some ad) m c) (hn : news.length = m * size)
    (hc : ∀ j u, news[j]? = some u → w.cell? (ad.add j) = some u) (h1c : ∀ u ∈ news, u.oneCell' = true) (hm : 0 < m) (b1 : k + m ≤ maxLen) (b2 : (k + m) * bytes ≤ 140737488355328) (b3 : base ≤ w.heap.size)
    (hK : ∀ g cap w', w'.ownsRow base e size (.slice (some ⟨g, 0, none⟩) (k + m) cap) (k + m) (xs ++ news) → w.grownBy w' v.ownBlock → (v.ownBlock = some g ∨ g = w.heap.size) → K (a.put o.dst (.slice (some ⟨g, 0, none⟩) (k + m) cap)) w') :
    if Region.wanted o (yielded ops a.tmps) = true then Oper.wpIn Fence.wide n P o a w K Q else E := by
  rw [if_pos (by simp [Region.wanted, hg])]
  obtain ⟨g, cap, w', hrun, r1, r2, r3, _⟩ := run_append_lies (P := P) w t o.type base e i z size bytes h1 h2 h3 h4 h5 h6 h7 v k xs hown ad m c news hn hc h1c hm b1 b2 b3 w.heap.size rfl
  unfold Oper.wpIn
  refine ⟨?_, ?_⟩
  · simp [Oper.about, hop, resolve, Target.leads, Sem.run_pure]
  · rw [show Fence.wide.round = none from rfl, Oper.semAt_none]
    simp [execOp, hop, resolve, invoke, builtin, hs, hx, hrun, Result.andThen]
    exact hK g cap w' r1 r2 r3

attribute [local go_sem] Oper.semAt_some

/-- a node whose number is a word -/
abbrev WN := { x : Int × Int // InW x.1 }

/-- the parents of all nodes but the root -/
def par (pre : List WN) : List Int := (pre.filter (fun x => decide (1 < x.1.1))).map (fun x => x.1.1 / 2)
theorem par_snoc (pre : List WN) (x : WN) : par (pre ++ [x]) = par pre ++ (if 1 < x.1.1 then [x.1.1 / 2] else []) := by
  unfold par
  by_cases h : 1 < x.1.1 <;> simp [List.filter_append, h]
theorem par_len (pre : List WN) : (par pre).length ≤ pre.length := by
  unfold par; rw [List.length_map]; exact List.length_filter_le _ _
/-- the slice of parents in the box -/
def RowP (n₀ Bs : Nat) (pre : List WN) (W : World) : Prop := ∃ v, Boxed W Bs 79 v ∧ W.ownsRow n₀ 3 1 v (par pre).length ((par pre).map encZ) ∧ True
theorem wn_list (c : Int → Int) : ∀ (zs : List Int), (∀ z ∈ zs, InW z) → ∃ ys : List WN, ys.map (fun x => x.1) = zs.map (fun q => (q, c q))
  | [], _ => ⟨[], rfl⟩
  | z :: zs, h => by
    obtain ⟨ys, hy⟩ := wn_list c zs (fun x hx => h x (List.mem_cons_of_mem _ hx))
    exact ⟨⟨(z, c z), h z List.mem_cons_self⟩ :: ys, by rw [List.map_cons, hy]; rfl⟩
theorem one_new (W : World) (x : Int) : ∀ (j : Nat) (u : Value), ([.int .i64 x] : List Value)[j]? = some u → (W.alloc (.cells #[.int .i64 x] 3)).cell? ((⟨W.heap.size, 0, none⟩ : Addr).add j) = some u := by
  intro j u hj
  match j, hj with
  | 0, hj => simp at hj; subst hj; simp [Addr.add]
theorem par_ids {ys : List WN} {L : Nat} {c : Int → Int} (h : ys.map (fun x => x.1) = (idsL L c).map (fun q => (q, c q))) (y : Int) : y ∈ par ys ↔ ∃ q ∈ idsL L c, 1 < q ∧ q / 2 = y := by
  unfold par
  rw [List.mem_map]
  constructor
  · rintro ⟨x, hx, rfl⟩
    rw [List.mem_filter] at hx
    have h1 : x.1 ∈ (idsL L c).map (fun q => (q, c q)) := by rw [← h]; exact List.mem_map.2 ⟨x, hx.1, rfl⟩
    obtain ⟨q, hq, e⟩ := List.mem_map.1 h1
    have h2 : x.1.1 = q := by rw [← e]
    exact ⟨q, hq, by have := hx.2; simp at this; omega, by rw [h2]⟩
  · rintro ⟨q, hq, h1, rfl⟩
    have h2 : (q, c q) ∈ ys.map (fun x => x.1) := by rw [h]; exact List.mem_map.2 ⟨q, hq, rfl⟩
    obtain ⟨x, hx, e⟩ := List.mem_map.1 h2
    refine ⟨x, List.mem_filter.2 ⟨hx, ?_⟩, ?_⟩
    · rw [e]; simpa using h1
    · rw [e]
theorem infoI : (Try.prog.info? 3).map (fun i => (i.zero, i.size, i.bytes)) = some (some (.int .i64 0), 1, 8) := by kernel_rfl

theorem compact_mem (zs : List Int) (x : Int) : x ∈ Lib.compact zs ↔ x ∈ zs := by
  unfold Lib.compact Lib.compactUpTo
  rw [List.mem_map]
  have hget : ∀ j, j < zs.length → zs.toArray[j]! = zs[j]?.getD 0 := fun j hj => by simp [hj]
  constructor
  · rintro ⟨j, hj, rfl⟩
    have hj2 : j < zs.length := by simpa using (List.mem_filter.1 hj).1
    rw [hget j hj2, List.getElem?_eq_getElem hj2]
    exact List.getElem_mem hj2
  · intro hx
    obtain ⟨j, hj, rfl⟩ := List.getElem_of_mem hx
    have key : ∀ j, (hj : j < zs.length) → ∃ i, i ∈ (List.range zs.length).filter (Lib.keeps zs.toArray) ∧ zs.toArray[i]! = zs[j] := by
      intro j
      induction j with
      | zero =>
        intro hj
        exact ⟨0, List.mem_filter.2 ⟨by simpa using hj, by simp [Lib.keeps]⟩, by rw [hget 0 hj, List.getElem?_eq_getElem hj]; rfl⟩
      | succ j ih =>
        intro hj
        have e1 : zs.toArray[j + 1]! = zs[j + 1] := by rw [hget _ hj, List.getElem?_eq_getElem hj]; rfl
        have e0 : zs.toArray[j]! = zs[j] := by rw [hget _ (by omega), List.getElem?_eq_getElem (by omega : j < zs.length)]; rfl
        by_cases h : zs[j + 1] = zs[j]
        · rw [h]; exact ih (by omega)
        · refine ⟨j + 1, List.mem_filter.2 ⟨by simpa using hj, ?_⟩, e1⟩
          unfold Lib.keeps
          rw [decide_eq_true_eq]
          right
          rw [Nat.add_sub_cancel, e1, e0]
          exact h
    obtain ⟨i, h1, h2⟩ := key j hj
    exact ⟨i, h1, h2⟩
theorem compact_len (zs : List Int) : (Lib.compact zs).length ≤ zs.length := by
  unfold Lib.compact Lib.compactUpTo
  rw [List.length_map]
  exact Nat.le_trans (List.length_filter_le _ _) (by simp)
theorem Il.part {w : World} {ao : Option Addr} {n : Nat} {xs ys : List Int} (h : Il w ao n (xs ++ ys)) : Il w ao xs.length xs := by
  obtain ⟨h1, b, off, h2, h3⟩ := h
  have hl : xs.length ≤ n := by rw [← h1]; simp
  refine ⟨rfl, b, off, fun h => h2 (by omega), fun i hi => ?_⟩
  rw [h3 i (by omega), List.getElem?_append_left hi]

/-- behind parents -/
def OutP (W : World) (L : Nat) (c : Int → Int) (e : Ending) (w' : World) : Prop :=
  ∃ (ps : List Int) (ao : Option Addr) (cap : Nat), e = .returned (.slice ao ps.length cap) ∧ ps.length ≤ 4194304 ∧ Il w' ao ps.length ps ∧ (∀ a, ao = some a → a.block < w'.heap.size) ∧ (∀ x, x ∈ ps ↔ ∃ q ∈ idsL L c, 1 < q ∧ q / 2 = x) ∧ Below W.heap.size W w'

set_option maxRecDepth 100000 in
set_option maxHeartbeats 8000000 in
theorem parents_any (tb mb L : Nat) (n : Int) (c : Int → Int) (W : World) (ht : Tree W tb mb n c) (hg : Good L c) (hL : L ≤ 20) :
    Calls Try.prog 45 #[.pointer (some ⟨tb, 0, none⟩)] W (OutP W L c) := by
  refine (callsIn_wide (n := 12)).1 ?_
  obtain ⟨W1, hW1⟩ : ∃ V, V = ((W.alloc (.cells #[.slice none 0 0] 79)).alloc (.cells #[.pointer (some ⟨tb, 0, none⟩)] 26)).alloc (.cells #[.func (.func 52) #[] #[]] 74) := ⟨_, rfl⟩
  have hb1 : Below W.heap.size W W1 := by
    rw [hW1]
    exact (((Below.refl _ _).alloc (Nat.le_refl _) _).alloc (by simp) _).alloc (by simp <;> omega) _
  have hsz : W1.heap.size = W.heap.size + 3 := by rw [hW1]; simp
  have hbp : Boxed W1 W.heap.size 79 (.slice none 0 0) := by rw [hW1]; exact ((Boxed.new W _ _).alloc _).alloc _
  have hbt : Boxed W1 (W.heap.size + 1) 26 (.pointer (some ⟨tb, 0, none⟩)) := by
    rw [hW1]
    have h := Boxed.new (W.alloc (.cells #[.slice none 0 0] 79)) 26 (.pointer (some ⟨tb, 0, none⟩))
    rw [World.size_alloc] at h
    exact h.alloc _
  have hbc : Boxed W1 (W.heap.size + 1 + 1) 74 (.func (.func 52) #[] #[]) := by
    rw [hW1]
    have h := Boxed.new ((W.alloc (.cells #[.slice none 0 0] 79)).alloc (.cells #[.pointer (some ⟨tb, 0, none⟩)] 26)) 74 (.func (.func 52) #[] #[])
    rw [World.size_alloc, World.size_alloc] at h
    exact h
  have lt := block_lt_of_cell ht.c0
  have lm := ht.m.lt
  have lt' : tb < W.heap.size := lt
  have hpre : ItPre (W.heap.size + 3) (fun k => k = W.heap.size) W.heap.size (W.heap.size + 1) (W.heap.size + 1 + 1) tb mb (.func (.func 52) #[] #[]) n c W1 :=
    ⟨by omega, hbt.cell, hbc.cell, ⟨cell_later hb1 ht.c0, cell_later hb1 ht.c1, ht.m.keep hb1⟩, ⟨by omega, by omega, by omega, by omega⟩, fun k hk => by subst hk; exact ⟨by omega, by omega, by omega, by omega⟩, fun v k h1 h2 => by rw [hbp.cell] at h1; obtain rfl := Option.some.inj h1; simp [Value.ownBlock] at h2⟩
  obtain ⟨ys, hys⟩ := wn_list c (idsL L c) (ids_word hg hL)
  have hst := nodes_stops (fun x : WN => x.1) ys sortsUp 5 (W.heap.size + 3) (fun k => k = W.heap.size) W.heap.size (W.heap.size + 1) (W.heap.size + 1 + 1) tb mb L n c (idsL L c) W1 hpre ⟨_, _, _, rfl⟩ hg hL (Nat.le_trans (ids_len L c) (by have := sz_le hL; omega)) (fun D ss W h1 h2 h3 => up_ids hg hL mb D ss W h1 h2 h3) (ids_word hg hL) hys
  have hyl : ys.length ≤ 2097152 := by have := congrArg List.length hys; have := Nat.le_trans (ids_len L c) (sz_le hL); simp at *; omega
  have HYS := Lib.hid hys
  have HST := Lib.hid hst
  have HB1 := Lib.hid hb1
  have HBP := Lib.hid hbp
  have HSZ := Lib.hid hsz
  have HG := Lib.hid hg
  have HW1 := Lib.hid hW1
  clear hst hb1 hbp hbt hbc hpre ht hg hsz hys
  obtain ⟨i0, hi, hz0, hz1, hz2⟩ := info_parts infoI
  refine callsIn_of_wp_marks Try.func45 rfl trivial ?_ rfl
  simp only [Try.ntmps45, List.size_toArray, List.length_cons, List.length_nil, Nat.reduceAdd, Nat.reduceSub, Array.replicate_succ, Array.replicate_zero, List.push_toArray, List.append_toArray, List.nil_append, List.cons_append]
  gi_wp2_with (refine ⟨trivial, ?_⟩; gi_at_call 36; refine (nodes_any _ tb _ _ rfl ⟨_, _, _, rfl⟩).mono ?_; rintro e w2 ⟨rfl, rfl⟩)
  rw [← HW1.out]
  clear HW1 hW1
  refine wpIn_rangeFunc_ownH rfl (by omega) (gf := 53) (lb := #[.pointer (some ⟨W.heap.size + 1, 0, none⟩), .pointer (some ⟨W.heap.size + 1 + 1, 0, none⟩)]) rfl trivial (enters_of Try.func53 (by kernel_rfl) rfl)
    HST.out (fun h k => KpT.trans h k) (KpT.putObj (by have := HSZ.out; omega) (by have := HSZ.out; omega)) (Below.refl _ _) (fun _ => rfl)
    (fun pre X => RowP W.heap.size W.heap.size pre X ∧ Below W.heap.size W X) (fun _ _ _ => False)
    (OwnFrom.and (Own.from (holdsRow_own W.heap.size W.heap.size _ _ 1 (fun pre => (par pre).length) (fun pre => (par pre).map encZ) (fun _ _ => True)) _) (ownFrom_below (Nat.le_refl _) (by have := HSZ.out; omega)))
    (fun _ _ _ _ _ hs _ _ => hs)
    ⟨⟨_, HBP.out, ⟨rfl, .inl ⟨rfl, rfl⟩⟩, trivial⟩, HB1.out⟩
    (fun x a' X => ∃ Bx, W.heap.size < Bx ∧ X.heap[Bx]? = some (.cells #[.int .i64 x.1.1, .int .i64 x.1.2] 64 (0, 0)) ∧ a' = { tmps := #[.pointer (some ⟨tb, 0, none⟩), undef, .slice none 0 0, .pointer (some ⟨W.heap.size, 0, none⟩), .pointer (some ⟨Bx, 0, none⟩), .pointer (some ⟨tb, 0, none⟩), .func (.func 53) #[] #[.pointer (some ⟨W.heap.size + 1, 0, none⟩), .pointer (some ⟨W.heap.size + 1 + 1, 0, none⟩)], .agg #[.int .i64 x.1.1, .int .i64 x.1.2], undef, undef, undef, undef, undef, undef, undef, undef, undef, undef, undef], defers := [] })
    (fun x a' _ X Y row hs hg hr => by
      obtain ⟨Bx, h1, h2, h3⟩ := hs
      exact ⟨Bx, h1, (hg.block Bx (Array.getElem?_eq_some_iff.1 h2).1 (fun e => by obtain ⟨_, o, ho, hc⟩ := hr Bx e.symm; rw [h2] at ho; obtain rfl := Option.some.inj ho; simp [Obj.isCells] at hc)).trans h2, h3⟩)
    ?assign ?body ?done ?stop
  case assign =>
    rintro l pre x X K ⟨⟨v, hv, hrow, _⟩, hB⟩ hK
    gi_wp2
    exact hK _ _ ((KeepsOthers.alloc _ _).from _) (kpt_alloc X _ hv.lt) ⟨⟨v, hv.alloc _, hrow.alloc _, trivial⟩, hB.alloc hB.size _⟩ ⟨X.heap.size, hv.lt, cells_new X _ _, rfl⟩
  case body =>
    rintro l pre ⟨x, hx⟩ a' X hl ⟨r, hr⟩ ⟨⟨v, hv, hrow, _⟩, hB⟩ ⟨Bx, hBx, hbx, rfl⟩ hlen
    unfold InW at hx
    have cv := hv.cell
    have fv := hv.frozen
    have cx := two_boxed hbx
    have cx0 := cx.1
    have hsz := hB.size
    have hpl := par_len pre
    have HROW := Lib.hid hrow
    have HV := Lib.hid hv
    have HBB := Lib.hid hB
    have HPS := Lib.hid (par_snoc pre ⟨x, hx⟩)
    clear hrow hv hB hbx cx
    by_cases h1 : 1 < x.1
    · have hx2 : x.1 ≤ 9223372036854775807 := hx.2
      have HROWA : Hid ((X.alloc (.cells #[.int .i64 (x.1 / 2)] 3)).drew.ownsRow W.heap.size 3 1 v (par pre).length ((par pre).map encZ)) := HROW.out.alloc _
      have fin : ∀ (g' cap' : Nat) (w1 : World), w1.ownsRow W.heap.size 3 1 (.slice (some ⟨g', 0, none⟩) ((par pre).length + 1) cap') ((par pre).length + 1) ((par pre).map encZ ++ [.int .i64 (x.1 / 2)]) → (X.alloc (.cells #[.int .i64 (x.1 / 2)] 3)).drew.grownBy w1 v.ownBlock → (v.ownBlock = some g' ∨ g' = (X.alloc (.cells #[.int .i64 (x.1 / 2)] 3)).drew.heap.size) →
          (Boxed w1 W.heap.size 79 v) ∧ (KeepsFrom W1.heap.size X (w1.setCell ⟨W.heap.size, 0, none⟩ (.slice (some ⟨g', 0, none⟩) ((par pre).length + 1) cap')) ∧ KpT (W.heap.size + 3) (fun k => k = W.heap.size) W.heap.size X (w1.setCell ⟨W.heap.size, 0, none⟩ (.slice (some ⟨g', 0, none⟩) ((par pre).length + 1) cap')) ∧ (RowP W.heap.size W.heap.size (pre ++ [⟨x, hx⟩]) (w1.setCell ⟨W.heap.size, 0, none⟩ (.slice (some ⟨g', 0, none⟩) ((par pre).length + 1) cap')) ∧ Below W.heap.size W (w1.setCell ⟨W.heap.size, 0, none⟩ (.slice (some ⟨g', 0, none⟩) ((par pre).length + 1) cap')))) := by
        intro g' cap' w1 hown' hgrow hat
        have hgrow2 : (X.alloc (.cells #[.int .i64 (x.1 / 2)] 3)).grownBy w1 v.ownBlock := ⟨hgrow.os, hgrow.tape, hgrow.output, hgrow.size, hgrow.block⟩
        obtain ⟨hv1, hv2, hr2, hk2, hb2⟩ := HV.out.appended (by decide) HROW.out hsz (Nat.le_refl _) hown' hgrow2
        refine ⟨hv1, hk2.from _, KpT.of ?_ ?_, ⟨⟨_, hv2, ?_, trivial⟩, HBB.out.trans hb2⟩⟩
        · have o1 : Only (fun k => k = W.heap.size ∨ ∃ v, X.cell? ⟨W.heap.size, 0, none⟩ = some v ∧ v.ownBlock = some k) X (X.alloc (.cells #[.int .i64 (x.1 / 2)] 3)) := Only.of_below ((Below.refl _ _).alloc (Nat.le_refl _) _)
          exact (o1.trans ((Only.of_grown hgrow2).mono (fun i hi => .inr ⟨v, cv, hi⟩))).trans ((Only.setCell w1 ⟨W.heap.size, 0, none⟩ _).mono (fun i hi => .inl hi))
        · intro v' k h1 h2
          rw [hv2.cell] at h1
          obtain rfl := Option.some.inj h1
          obtain rfl : g' = k := by simpa [Value.ownBlock] using h2
          rcases hat with e | e
          · exact .inl ⟨v, cv, e⟩
          · right; rw [e]; simp
        · have e : par (pre ++ [⟨x, hx⟩]) = par pre ++ [x.1 / 2] := by rw [HPS.out, if_pos h1]
          rw [e, List.length_append, List.map_append]
          exact hr2
      have cva := (HV.out.alloc (.cells #[.int .i64 (x.1 / 2)] 3)).cell
      have HFIN := Lib.hid fin
      clear fin
      gi_wp2
      refine region_round (by kernel_rfl) (by kernel_rfl) ?_
      refine wpAnyIn_ready (rs := [0, 1]) (by kernel_rfl) (by simp) ?_
      refine AllReadyIn.cons rfl (fun K hK => ?_) (AllReadyIn.cons rfl (fun K hK => ?_) AllReadyIn.nil)
      ·
        go_simp
        refine hK _ _ ?_
        clear hK K
        refine wpAnyIn_ready (rs := [1]) (by kernel_rfl) (by simp) ?_
        refine AllReadyIn.cons rfl (fun K hK => ?_) AllReadyIn.nil
        go_simp
        refine hK _ _ ?_
        clear hK K
        refine wpAnyIn_ready (rs := [2]) (by kernel_rfl) (by simp) ?_
        refine AllReadyIn.cons rfl (fun K hK => ?_) AllReadyIn.nil
        go_simp
        refine hK _ _ ?_
        clear hK K
        refine wpAnyIn_ready (rs := [3]) (by kernel_rfl) (by simp) ?_
        refine AllReadyIn.cons rfl (fun K hK => ?_) AllReadyIn.nil
        go_simp
        refine ⟨trivial, ?_⟩
        refine (callsIn_wide.2 (parent_any x.1 _ (by omega) hx2)).mono ?_
        rintro e w4 ⟨rfl, rfl⟩
        refine hK _ _ ?_
        clear hK K
        refine wpAnyIn_ready (rs := [4]) (by kernel_rfl) (by simp) ?_
        refine AllReadyIn.cons rfl (fun K hK => ?_) AllReadyIn.nil
        go_simp
        refine hK _ _ ?_
        clear hK K
        refine wpAnyIn_ready (rs := [5]) (by kernel_rfl) (by simp) ?_
        refine AllReadyIn.cons rfl (fun K hK => ?_) AllReadyIn.nil
        refine stepIn_app rfl (.tmp 11) (.tmp 15) 79 rfl W.heap.size 3 i0 (.int .i64 0) 1 8 Try.underlying79 hi hz0 hz1 hz2 rfl (by decide) v (par pre).length ((par pre).map encZ) rfl (by exact HROWA.out) ⟨X.heap.size, 0, none⟩ 1 1 [.int .i64 (x.1 / 2)] rfl rfl (by exact one_new X (x.1 / 2)) (by simp [Value.oneCell']) (by omega) (by unfold maxLen; omega) (by omega) (by simp; omega) ?_
        intro g' cap' w1 hown' hgrow hat
        obtain ⟨hv1, HF⟩ := HFIN.out g' cap' w1 hown' hgrow hat
        have HFF := Lib.hid HF
        have hc1 := hv1.cell
        have hf1 := hv1.frozen
        clear HF hown' hgrow hat hv1
        refine hK _ _ ?_
        clear hK K
        refine wpAnyIn_ready (rs := [6]) (by kernel_rfl) (by simp) ?_
        refine AllReadyIn.cons rfl (fun K hK => ?_) AllReadyIn.nil
        go_simp
        refine hK _ _ ?_
        clear hK K
        refine wpAnyIn_done (by kernel_rfl) ?_ _
        exact HFF.out
      ·
        go_simp
        refine hK _ _ ?_
        clear hK K
        refine wpAnyIn_ready (rs := [0, 2]) (by kernel_rfl) (by simp) ?_
        refine AllReadyIn.cons rfl (fun K hK => ?_) (AllReadyIn.cons rfl (fun K hK => ?_) AllReadyIn.nil)
        ·
          go_simp
          refine hK _ _ ?_
          clear hK K
          refine wpAnyIn_ready (rs := [2]) (by kernel_rfl) (by simp) ?_
          refine AllReadyIn.cons rfl (fun K hK => ?_) AllReadyIn.nil
          go_simp
          refine hK _ _ ?_
          clear hK K
          refine wpAnyIn_ready (rs := [3]) (by kernel_rfl) (by simp) ?_
          refine AllReadyIn.cons rfl (fun K hK => ?_) AllReadyIn.nil
          go_simp
          refine ⟨trivial, ?_⟩
          refine (callsIn_wide.2 (parent_any x.1 _ (by omega) hx2)).mono ?_
          rintro e w4 ⟨rfl, rfl⟩
          refine hK _ _ ?_
          clear hK K
          refine wpAnyIn_ready (rs := [4]) (by kernel_rfl) (by simp) ?_
          refine AllReadyIn.cons rfl (fun K hK => ?_) AllReadyIn.nil
          go_simp
          refine hK _ _ ?_
          clear hK K
          refine wpAnyIn_ready (rs := [5]) (by kernel_rfl) (by simp) ?_
          refine AllReadyIn.cons rfl (fun K hK => ?_) AllReadyIn.nil
          refine stepIn_app rfl (.tmp 11) (.tmp 15) 79 rfl W.heap.size 3 i0 (.int .i64 0) 1 8 Try.underlying79 hi hz0 hz1 hz2 rfl (by decide) v (par pre).length ((par pre).map encZ) rfl (by exact HROWA.out) ⟨X.heap.size, 0, none⟩ 1 1 [.int .i64 (x.1 / 2)] rfl rfl (by exact one_new X (x.1 / 2)) (by simp [Value.oneCell']) (by omega) (by unfold maxLen; omega) (by omega) (by simp; omega) ?_
          intro g' cap' w1 hown' hgrow hat
          obtain ⟨hv1, HF⟩ := HFIN.out g' cap' w1 hown' hgrow hat
          have HFF := Lib.hid HF
          have hc1 := hv1.cell
          have hf1 := hv1.frozen
          clear HF hown' hgrow hat hv1
          refine hK _ _ ?_
          clear hK K
          refine wpAnyIn_ready (rs := [6]) (by kernel_rfl) (by simp) ?_
          refine AllReadyIn.cons rfl (fun K hK => ?_) AllReadyIn.nil
          go_simp
          refine hK _ _ ?_
          clear hK K
          refine wpAnyIn_done (by kernel_rfl) ?_ _
          exact HFF.out
        ·
          go_simp
          refine hK _ _ ?_
          clear hK K
          refine wpAnyIn_ready (rs := [0, 3]) (by kernel_rfl) (by simp) ?_
          refine AllReadyIn.cons rfl (fun K hK => ?_) (AllReadyIn.cons rfl (fun K hK => ?_) AllReadyIn.nil)
          ·
            go_simp
            refine hK _ _ ?_
            clear hK K
            refine wpAnyIn_ready (rs := [3]) (by kernel_rfl) (by simp) ?_
            refine AllReadyIn.cons rfl (fun K hK => ?_) AllReadyIn.nil
            go_simp
            refine ⟨trivial, ?_⟩
            refine (callsIn_wide.2 (parent_any x.1 _ (by omega) hx2)).mono ?_
            rintro e w4 ⟨rfl, rfl⟩
            refine hK _ _ ?_
            clear hK K
            refine wpAnyIn_ready (rs := [4]) (by kernel_rfl) (by simp) ?_
            refine AllReadyIn.cons rfl (fun K hK => ?_) AllReadyIn.nil
            go_simp
            refine hK _ _ ?_
            clear hK K
            refine wpAnyIn_ready (rs := [5]) (by kernel_rfl) (by simp) ?_
            refine AllReadyIn.cons rfl (fun K hK => ?_) AllReadyIn.nil
            refine stepIn_app rfl (.tmp 11) (.tmp 15) 79 rfl W.heap.size 3 i0 (.int .i64 0) 1 8 Try.underlying79 hi hz0 hz1 hz2 rfl (by decide) v (par pre).length ((par pre).map encZ) rfl (by exact HROWA.out) ⟨X.heap.size, 0, none⟩ 1 1 [.int .i64 (x.1 / 2)] rfl rfl (by exact one_new X (x.1 / 2)) (by simp [Value.oneCell']) (by omega) (by unfold maxLen; omega) (by omega) (by simp; omega) ?_
            intro g' cap' w1 hown' hgrow hat
            obtain ⟨hv1, HF⟩ := HFIN.out g' cap' w1 hown' hgrow hat
            have HFF := Lib.hid HF
            have hc1 := hv1.cell
            have hf1 := hv1.frozen
            clear HF hown' hgrow hat hv1
            refine hK _ _ ?_
            clear hK K
            refine wpAnyIn_ready (rs := [6]) (by kernel_rfl) (by simp) ?_
            refine AllReadyIn.cons rfl (fun K hK => ?_) AllReadyIn.nil
            go_simp
            refine hK _ _ ?_
            clear hK K
            refine wpAnyIn_done (by kernel_rfl) ?_ _
            exact HFF.out
          ·
            go_simp
            refine ⟨trivial, ?_⟩
            refine (callsIn_wide.2 (parent_any x.1 _ (by omega) hx2)).mono ?_
            rintro e w4 ⟨rfl, rfl⟩
            refine hK _ _ ?_
            clear hK K
            refine wpAnyIn_ready (rs := [0, 4]) (by kernel_rfl) (by simp) ?_
            refine AllReadyIn.cons rfl (fun K hK => ?_) (AllReadyIn.cons rfl (fun K hK => ?_) AllReadyIn.nil)
            ·
              go_simp
              refine hK _ _ ?_
              clear hK K
              refine wpAnyIn_ready (rs := [4]) (by kernel_rfl) (by simp) ?_
              refine AllReadyIn.cons rfl (fun K hK => ?_) AllReadyIn.nil
              go_simp
              refine hK _ _ ?_
              clear hK K
              refine wpAnyIn_ready (rs := [5]) (by kernel_rfl) (by simp) ?_
              refine AllReadyIn.cons rfl (fun K hK => ?_) AllReadyIn.nil
              refine stepIn_app rfl (.tmp 11) (.tmp 15) 79 rfl W.heap.size 3 i0 (.int .i64 0) 1 8 Try.underlying79 hi hz0 hz1 hz2 rfl (by decide) v (par pre).length ((par pre).map encZ) rfl (by exact HROWA.out) ⟨X.heap.size, 0, none⟩ 1 1 [.int .i64 (x.1 / 2)] rfl rfl (by exact one_new X (x.1 / 2)) (by simp [Value.oneCell']) (by omega) (by unfold maxLen; omega) (by omega) (by simp; omega) ?_
              intro g' cap' w1 hown' hgrow hat
              obtain ⟨hv1, HF⟩ := HFIN.out g' cap' w1 hown' hgrow hat
              have HFF := Lib.hid HF
              have hc1 := hv1.cell
              have hf1 := hv1.frozen
              clear HF hown' hgrow hat hv1
              refine hK _ _ ?_
              clear hK K
              refine wpAnyIn_ready (rs := [6]) (by kernel_rfl) (by simp) ?_
              refine AllReadyIn.cons rfl (fun K hK => ?_) AllReadyIn.nil
              go_simp
              refine hK _ _ ?_
              clear hK K
              refine wpAnyIn_done (by kernel_rfl) ?_ _
              exact HFF.out
            ·
              go_simp
              refine hK _ _ ?_
              clear hK K
              refine wpAnyIn_ready (rs := [0]) (by kernel_rfl) (by simp) ?_
              refine AllReadyIn.cons rfl (fun K hK => ?_) AllReadyIn.nil
              go_simp
              refine hK _ _ ?_
              clear hK K
              refine wpAnyIn_ready (rs := [5]) (by kernel_rfl) (by simp) ?_
              refine AllReadyIn.cons rfl (fun K hK => ?_) AllReadyIn.nil
              refine stepIn_app rfl (.tmp 11) (.tmp 15) 79 rfl W.heap.size 3 i0 (.int .i64 0) 1 8 Try.underlying79 hi hz0 hz1 hz2 rfl (by decide) v (par pre).length ((par pre).map encZ) rfl (by exact HROWA.out) ⟨X.heap.size, 0, none⟩ 1 1 [.int .i64 (x.1 / 2)] rfl rfl (by exact one_new X (x.1 / 2)) (by simp [Value.oneCell']) (by omega) (by unfold maxLen; omega) (by omega) (by simp; omega) ?_
              intro g' cap' w1 hown' hgrow hat
              obtain ⟨hv1, HF⟩ := HFIN.out g' cap' w1 hown' hgrow hat
              have HFF := Lib.hid HF
              have hc1 := hv1.cell
              have hf1 := hv1.frozen
              clear HF hown' hgrow hat hv1
              refine hK _ _ ?_
              clear hK K
              refine wpAnyIn_ready (rs := [6]) (by kernel_rfl) (by simp) ?_
              refine AllReadyIn.cons rfl (fun K hK => ?_) AllReadyIn.nil
              go_simp
              refine hK _ _ ?_
              clear hK K
              refine wpAnyIn_done (by kernel_rfl) ?_ _
              exact HFF.out
    · have h1 : ¬ 1 < x.1 := h1
      gi_wp2
      refine ⟨(KeepsOthers.refl _).from _, KpT.refl _, ⟨⟨v, HV.out, ?_, trivial⟩, HBB.out⟩⟩
      rw [HPS.out, if_neg (by show ¬ 1 < x.1; omega), List.append_nil]
      exact HROW.out
  case done =>
    rintro D xs X hD rfl ⟨⟨v, hv, hrow, _⟩, hB⟩ hK
    have cv := hv.cell
    have hpm := par_ids HYS.out
    have hpl := par_len xs
    have hB2 : Below W.heap.size W (X.putObj D (.deferred none)) := hB.trans (belowK_b (w := W) (Nat.le_refl _) X D _ _ (by have := HSZ.out; omega) hK rfl rfl)
    rcases hrow.2 with ⟨rfl, hz⟩ | ⟨g, cap, cur, rfl, hbase, hgb, r1, r2, r3, r4⟩
    · gi_wp2_with (refine ⟨trivial, ?_⟩; gi_at_call 62; refine (callsIn_wide.2 (Try.slices_Compact_int_empty none 0 X)).mono ?_; rintro e w4 ⟨rfl, rfl⟩)
      refine ⟨by simp, .inl ⟨_, _, rfl, run_takeDeferred hK, ?_⟩⟩
      refine ⟨_, results_tmp rfl _ _ _, [], none, 0, rfl, by simp, Il.nil _ _, (fun a h => by cases h), (fun y => ?_), hB2⟩
      have h0 : par xs = [] := List.eq_nil_of_length_eq_zero hz
      rw [← hpm y, h0]
    · have hne : 0 < (par xs).length ∨ (par xs).length = 0 := by omega
      have hH : Sort.Holds encZ X g 0 (par xs).toArray := holds_of_block_i hgb (by simpa using r4)
      have hcp := Try.slices_Compact_int g 0 cap (par xs) X hH (by omega) (by omega)
      gi_wp2_with (refine ⟨trivial, ?_⟩; gi_at_call 62; refine (callsIn_wide.2 hcp).mono ?_; rintro e w4 ⟨rfl, q, rfl⟩)
      have hcl := compact_len (par xs)
      have hl : (Lib.compact (par xs) ++ List.replicate ((par xs).length - (Lib.compact (par xs)).length) 0).length = (par xs).length := by simp; omega
      have hgr := grownBy_sorted_i (w := X) (g := g) (n := q) (os := #[]) (Lib.compact (par xs) ++ List.replicate ((par xs).length - (Lib.compact (par xs)).length) 0).toArray
      have hrw := ownsRow_sorted_i (w := X) (n := q) (os := #[]) hl hbase hgb r1 r2 r3
      rw [Sort.grow_empty] at hgr hrw
      obtain ⟨Z, hZ⟩ : ∃ Z, Z = Sort.putRow encZ (Sort.ahead X q) g 0 (Lib.compact (par xs) ++ List.replicate ((par xs).length - (Lib.compact (par xs)).length) 0).toArray := ⟨_, rfl⟩
      rw [← hZ] at hgr hrw ⊢
      have hDg : D ≠ g := fun e => by subst e; rw [hgb] at hK; cases hK
      have hK2 : Z.heap[D]? = some (.deferred (some [])) := (hgr.block D (Array.getElem?_eq_some_iff.1 hK).1 (by simpa using hDg)).trans hK
      have hB3 : Below W.heap.size W Z := hB.grown hgr hB.size (fun k e => by cases e; exact hbase)
      have hB4 : Below W.heap.size W (Z.putObj D (.deferred none)) := hB3.trans (belowK_b (w := W) (Nat.le_refl _) Z D _ _ (by have := HSZ.out; omega) hK2 rfl rfl)
      have hrw2 := ownsRow_putObj hrw (.deferred none) hK2 rfl
      have hown : OwnI (Z.putObj D (.deferred none)) W.heap.size 3 (.slice (some ⟨g, 0, none⟩) (par xs).length cap) (par xs).length (Lib.compact (par xs) ++ List.replicate ((par xs).length - (Lib.compact (par xs)).length) 0) := hrw2
      obtain ⟨ao2, cap2, he, _, _, hil⟩ := hown.il
      obtain ⟨rfl, rfl⟩ : ao2 = some ⟨g, 0, none⟩ ∧ cap2 = cap := by simpa using he.symm
      refine ⟨by simp, .inl ⟨_, _, rfl, run_takeDeferred hK2, ?_⟩⟩
      refine ⟨_, results_tmp rfl _ _ _, Lib.compact (par xs), some ⟨g, 0, none⟩, cap2, rfl, by omega, hil.part, fun a h => ?_, fun y => ?_, hB4⟩
      · obtain rfl := Option.some.inj h
        exact hown.blt rfl
      · rw [compact_mem]; exact hpm y
  case stop =>
    rintro D c pre W _ _ h _
    exact h.elim
end Go.Proofs.Ythjmiimkplhffaa

/- Plain mathematics: counts that are added, and the nodes to which counts may climb then. -/
set_option linter.unusedVariables false
namespace Go.Proofs.Ythjmiimkplhffaa
open Go.RowKit Go.Maps

theorem S_id : ∀ n : Nat, 2 * S (fun i : Nat => (i : Int)) n ≤ n * n
  | 0 => by unfold S; simp
  | n + 1 => by
    have ih := S_id n
    unfold S
    have e : ((n + 1 : Nat) : Int) * ((n + 1 : Nat) : Int) = n * n + 2 * n + 1 := by
      rw [show ((n + 1 : Nat) : Int) = (n : Int) + 1 by omega, Int.add_mul, Int.mul_add]; omega
    rw [e]
    omega
theorem wt_le {L : Nat} (hL : L ≤ 20) (c : Int → Int) : wt L c ≤ 3000000000000 := by
  have h1 : wt L c ≤ S (fun i : Nat => (i : Int)) (SZ L) := S_le _ (fun i _ => by split <;> omega)
  have h2 := S_id (SZ L)
  have h3 := sz_le hL
  have h4 : ((SZ L : Nat) : Int) * ((SZ L : Nat) : Int) ≤ 2097152 * 2097152 := Int.mul_le_mul (by omega) (by omega) (by omega) (by omega)
  omega

theorem good_sum {L : Nat} {c k : Int → Int} (hc : Good L c) (hk : Good L k) : Good L (fun q => c q + k q) := by
  refine ⟨fun q => ?_, fun q h => ?_⟩
  · have := hc.1 q; have := hk.1 q; show 0 ≤ c q + k q; omega
  · by_cases g : c q = 0
    · exact hk.2 q (fun e => h (by show c q + k q = 0; omega))
    · exact hc.2 q g
theorem tot_sum (L : Nat) (c k : Int → Int) : tot L (fun q => c q + k q) = tot L c + tot L k := S_add _ _ _

/-- one count -/
def leafF (l m : Int) : Int → Int := fun q => if q = l then m else 0
theorem good_leaf {L : Nat} {l m : Int} (h0 : 0 ≤ m) (h1 : 1 ≤ l) (h2 : l < 2 ^ (L + 1)) : Good L (leafF l m) := by
  refine ⟨fun q => ?_, fun q h => ?_⟩
  · unfold leafF; split <;> omega
  · unfold leafF at h
    split at h
    · subst_vars; exact ⟨h1, h2⟩
    · exact absurd rfl h
theorem tot_leaf {L : Nat} {l m : Int} (h1 : 1 ≤ l) (h2 : l < 2 ^ (L + 1)) : tot L (leafF l m) = m := by
  obtain ⟨n, rfl⟩ := Int.eq_ofNat_of_zero_le (by omega : 0 ≤ l)
  have hz : n < SZ L := by have := SZ_cast L; omega
  have e : (fun i : Nat => leafF (n : Int) m i) = upd (fun _ => 0) n m := by
    funext i
    unfold leafF upd
    by_cases g : i = n
    · subst g; rw [if_pos rfl, if_pos rfl]
    · rw [if_neg (by omega), if_neg g]
  unfold tot
  rw [e, S_upd _ _ _ _ hz, S_zero]
  omega
theorem le_leaf {l m b : Int} (h0 : 0 ≤ m) (h : m ≤ b) (q : Int) : leafF l m q ≤ b := by unfold leafF; split <;> omega

theorem at_ex : ∀ (L : Nat) (x : Int), 1 ≤ x → x < 2 ^ L → ∃ d, d < L ∧ At d x
  | 0, x, h1, h2 => by simp at h2; omega
  | L + 1, x, h1, h2 => by
    by_cases g : x < 2 ^ L
    · obtain ⟨d, a, b⟩ := at_ex L x h1 g
      exact ⟨d, by omega, b⟩
    · exact ⟨L, by omega, by omega, h2⟩

/-- nothing but the parent of the new leaf can climb -/
theorem can_new {t : Int} {L : Nat} {c : Int → Int} {l m : Int} (hs : Still t L c) (hl : 2 ^ L ≤ l) : ∀ e, e < L → ∀ p, At e p → can t (fun q => c q + leafF l m q) p → p ∈ [l / 2] := by
  intro e he p hp hc
  by_cases g : p = l / 2
  · rw [g]; exact List.mem_cons_self
  · exfalso
    have hpl := at_le (e := L) hp (by omega)
    have h1 : leafF l m p = 0 := by unfold leafF; rw [if_neg (by omega)]
    have h2 : leafF l m (2 * p) = 0 := by unfold leafF; rw [if_neg (by omega)]
    have h3 : leafF l m (2 * p + 1) = 0 := by unfold leafF; rw [if_neg (by omega)]
    refine hs e he p hp ?_
    unfold can at hc ⊢
    simp only [h1, h2, h3] at hc
    simpa using hc
theorem par_in {L : Nat} {c : Int → Int} (hg : Good L c) {ps : List Int} (h : ∀ x, x ∈ ps ↔ ∃ q ∈ idsL L c, 1 < q ∧ q / 2 = x) : ∀ x ∈ ps, ∃ d, d < L ∧ At d x := by
  intro x hx
  obtain ⟨q, hq, h1, h2⟩ := (h x).1 hx
  have h3 := hg.2 q ((mem_ids hg q).1 hq)
  have e : (2 : Int) ^ (L + 1) = 2 * 2 ^ L := by rw [Int.pow_succ]; omega
  exact at_ex L x (by omega) (by omega)
theorem can_par {t : Int} {L : Nat} {c : Int → Int} (hg : Good L c) {ps : List Int} (h : ∀ x, x ∈ ps ↔ ∃ q ∈ idsL L c, 1 < q ∧ q / 2 = x) : ∀ e, e < L → ∀ p, At e p → can t c p → p ∈ ps := by
  intro e he p hp hc
  have h1 := hp.pos
  rw [h]
  by_cases g : c (2 * p) = 0
  · refine ⟨2 * p + 1, (mem_ids hg _).2 (fun k => hc.1 ?_), by omega, by omega⟩
    omega
  · exact ⟨2 * p, (mem_ids hg _).2 g, by omega, by omega⟩
end Go.Proofs.Ythjmiimkplhffaa

/- The program's Add. (Written by gen_put.py from put.head.) -/
set_option linter.unusedVariables false
set_option linter.unusedSimpArgs false
namespace Go.Proofs.Ythjmiimkplhffaa
open Go.RowKit Go.Maps

theorem Tree.keep {w w' : World} {tb mb : Nat} {n : Int} {c : Int → Int} (h : Tree w tb mb n c) (hb : Below w.heap.size w w') : Tree w' tb mb n c := ⟨cell_later hb h.c0, cell_later hb h.c1, h.m.keep hb⟩

/-- in the middle of a method of a digest that returns one and an error -/
structure AF (W w : World) (tb mb L : Nat) (F n : Int) (c : Int → Int) : Prop where
  d0 : w.cell? ⟨W.heap.size, 0, none⟩ = some (.int .i64 (L : Int))
  d1 : w.cell? ⟨W.heap.size, 1, none⟩ = some (.int .i64 F)
  d2 : w.cell? ⟨W.heap.size, 2, none⟩ = some (.pointer (some ⟨tb, 0, none⟩))
  row : w.heap[W.heap.size + 1]? = some (.cells #[.int .i64 0, .int .i64 0, .pointer none] 28 (0, 0))
  tree : Tree w tb mb n c
  b : Below W.heap.size W w
theorem AF.keep {W w w' : World} {tb mb L : Nat} {F n : Int} {c : Int → Int} (h : AF W w tb mb L F n c) (hb : Below w.heap.size w w') : AF W w' tb mb L F n c :=
  ⟨cell_later hb h.d0, cell_later hb h.d1, cell_later hb h.d2, (hb.block _ (Array.getElem?_eq_some_iff.1 h.row).1).trans h.row, h.tree.keep hb, h.b.trans (hb.mono h.b.size)⟩
theorem AF.start {W : World} {tb mb L : Nat} {F n : Int} {c : Int → Int} (h : Tree W tb mb n c) :
    AF W ((W.alloc (.cells #[.int .i64 (L : Int), .int .i64 F, .pointer (some ⟨tb, 0, none⟩)] 28)).alloc (.cells #[.int .i64 0, .int .i64 0, .pointer none] 28)) tb mb L F n c := by
  have hb : Below W.heap.size W ((W.alloc (.cells #[.int .i64 (L : Int), .int .i64 F, .pointer (some ⟨tb, 0, none⟩)] 28)).alloc (.cells #[.int .i64 0, .int .i64 0, .pointer none] 28)) := ((Below.refl _ _).alloc (Nat.le_refl _) _).alloc (by simp) _
  have hd0 : ((W.alloc (.cells #[.int .i64 (L : Int), .int .i64 F, .pointer (some ⟨tb, 0, none⟩)] 28)).alloc (.cells #[.int .i64 0, .int .i64 0, .pointer none] 28)).heap[W.heap.size]? = some (.cells #[.int .i64 (L : Int), .int .i64 F, .pointer (some ⟨tb, 0, none⟩)] 28 (0, 0)) := by
    rw [Below.heap_alloc _ _ _ (by simp)]
    exact heap_alloc_new _ _
  have hd1 := heap_alloc_new (W.alloc (.cells #[.int .i64 (L : Int), .int .i64 F, .pointer (some ⟨tb, 0, none⟩)] 28)) (.cells #[.int .i64 0, .int .i64 0, .pointer none] 28)
  rw [World.size_alloc] at hd1
  have h3 := three_cells hd0
  exact ⟨h3.1, h3.2.1, h3.2.2.1, hd1, h.keep hb, hb⟩
/-- the result is set -/
theorem set_below {W w : World} {x y z : Value} (hb : Below W.heap.size W w) : Below W.heap.size W (((w.setCell ⟨W.heap.size + 1, 0, none⟩ x).setCell ⟨W.heap.size + 1, 1, none⟩ y).setCell ⟨W.heap.size + 1, 2, none⟩ z) :=
  ((hb.setCell (p := ⟨W.heap.size + 1, 0, none⟩) (by simp) _).setCell (p := ⟨W.heap.size + 1, 1, none⟩) (by simp) _).setCell (p := ⟨W.heap.size + 1, 2, none⟩) (by simp) _
theorem grown_new {w w3 : World} {o : Obj} (hg : (w.alloc o).grownBy w3 (some w.heap.size)) : Below w.heap.size w w3 :=
  ((Only.of_below (P := fun i => w.heap.size ≤ i) ((Below.refl w.heap.size w).alloc (Nat.le_refl _) o)).trans ((Only.of_grown hg).mono (fun i hi => by simp at hi; omega))).below (fun i hi => hi)

/-- an entry of a map literal -/
theorem wpList_ins {w : World} {ops : Array Oper} {rest : List Oper} {o : Oper} {a : Act} {Q : Exit → Act → World → Prop} (hgd : o.guard = none) (m x v : Operand) (hop : o.op = Op.insert 67 m x v)
    (b : Nat) (h : Cm w b (fun _ => 0)) (hm : a.eval m = .map (some b)) (q z : Int) (hq : InW q) (hz : InW z) (hz0 : z ≠ 0) (hx : a.eval x = .int .i64 q) (hv : a.eval v = .int .i64 z)
    (hK : ∀ w', Cm w' b (leafF q z) → w.grownBy w' (some b) → wpList Try.prog ops Q rest (a.put o.dst undef) w') :
    wpList Try.prog ops Q (o :: rest) a w := by
  obtain ⟨D, hown, hr⟩ := h
  have hs := own_size hown hr (good_zero 0)
  have hs2 : size D < maxLen := by unfold SZ at hs; unfold maxLen; omega
  refine wpList_plain hgd fun K' hK' => ?_
  obtain ⟨w', hrun, r1, r2⟩ := hown.update (int_keyed Try.underlying3) Try.underlying67 hs2 (keyOf_int_mk Try.underlying3 hq.wf) (plainElem_int Try.underlying3 hz.wf)
  unfold Oper.wp
  simp [execOp, hop, hm, hx, hv, hrun, Result.andThen]
  exact hK' _ _ (hK w' ⟨_, own_tight r1, Reads.put hown.isMap hr hq hz0⟩ r2)

def AddOk (L : Nat) (v m : Int) : Prop := 0 ≤ v ∧ v < 2 ^ L ∧ 1 ≤ m
def AddPost (L : Nat) (F : Int) (c : Int → Int) (v m : Int) (W : World) (e : Ending) (w' : World) : Prop :=
  (¬ AddOk L v m ∧ e = .returned (.tuple #[zeroD, .int .i64 2]) ∧ Below W.heap.size W w') ∨
  (AddOk L v m ∧ 1099511627776 - tot L c < m ∧ e = .returned (.tuple #[zeroD, .int .i64 5]) ∧ Below W.heap.size W w') ∨
  (AddOk L v m ∧ m ≤ 1099511627776 - tot L c ∧ ∃ T d, e = .returned (.tuple #[dv L F T, .int .i64 0]) ∧ Comp ((tot L c + m) / F) L (fun q => c q + leafF (2 ^ L + v) m q) d ∧ DigM w' T L F d ∧ tot L d = tot L c + m ∧ Below W.heap.size W w')

theorem addU_no (v m : Int) (W : World) : Calls Try.prog 25 #[zeroD, .int .i64 v, .int .i64 m] W (fun e w' => e = .returned (.tuple #[zeroD, .int .i64 1]) ∧ Below W.heap.size W w') := by
  have hb : Below W.heap.size W ((W.alloc (.cells #[.int .i64 0, .int .i64 0, .pointer none] 28)).alloc (.cells #[.int .i64 0, .int .i64 0, .pointer none] 28)) := ((Below.refl _ _).alloc (Nat.le_refl _) _).alloc (by simp) _
  have hd1 := heap_alloc_new (W.alloc (.cells #[.int .i64 0, .int .i64 0, .pointer none] 28)) (.cells #[.int .i64 0, .int .i64 0, .pointer none] 28)
  rw [World.size_alloc] at hd1
  have HB := Lib.hid hb
  have HD := Lib.hid hd1
  clear hb hd1
  unfold zeroD
  go_enter Try.func25, Try.ntmps25
  go_wp2_with (go_at_call 35; refine (usable_no _).mono ?_; rintro e w1 ⟨rfl, hb1⟩; have HB1 := Lib.hid (HB.out.trans (hb1.mono HB.out.size)); have hR := (hb1.block _ (Array.getElem?_eq_some_iff.1 HD.out).1).trans HD.out; have hr9 := three_cells hR; have r0 := hr9.1; have r1 := hr9.2.1; have r2 := hr9.2.2.1; have r3 := hr9.2.2.2.1; have r4 := hr9.2.2.2.2.1; have r5 := hr9.2.2.2.2.2; have HR := Lib.hid hR; clear hr9 hR hb1)
  refine bodyPost_ret (v := .tuple #[zeroD, .int .i64 1]) (results_cell_tmp Try.results25 _ _ (W.heap.size + 1) 28 #[.int .i64 0, .int .i64 0, .pointer none] (0, 0) _ rfl (set_three HR.out) Try.underlying28 (by kernel_rfl) (by kernel_rfl)) rfl ?_
  exact ⟨rfl, set_below HB1.out⟩

set_option maxRecDepth 100000 in
set_option maxHeartbeats 4000000 in
theorem add_bad (tb L : Nat) (F : Int) (c : Int → Int) (v m : Int) (W : World) (h : DigM W tb L F c) (hno : ¬ AddOk L v m) :
    Calls Try.prog 25 #[.agg #[.int .i64 (L : Int), .int .i64 F, .pointer (some ⟨tb, 0, none⟩)], .int .i64 v, .int .i64 m] W (fun e w' => e = .returned (.tuple #[zeroD, .int .i64 2]) ∧ Below W.heap.size W w') := by
  obtain ⟨mb, ht, h2, h3, ⟨hl1, hl2, hf1, hf2⟩, h5, h6, h7⟩ := h
  obtain ⟨V, hV⟩ : ∃ V, V = (W.alloc (.cells #[.int .i64 (L : Int), .int .i64 F, .pointer (some ⟨tb, 0, none⟩)] 28)).alloc (.cells #[.int .i64 0, .int .i64 0, .pointer none] 28) := ⟨_, rfl⟩
  have HAF : Hid (AF W V tb mb L F (tot L c) c) := Lib.hid (by rw [hV]; exact AF.start ht)
  obtain ⟨P, hP⟩ : ∃ P : Int, P = 2 ^ L := ⟨_, rfl⟩
  have HP := Lib.hid hP
  have hl1 : (1 : Int) ≤ (L : Int) := by omega
  have HV := Lib.hid hV
  unfold AddOk at hno
  rw [← hP] at hno
  clear ht h2 h3 h5 h6 h7 hV hP
  have e0 := HAF.out.d0; have e1 := HAF.out.d1; have e2 := HAF.out.d2; have t1 := HAF.out.tree.c1; have hr9 := three_cells HAF.out.row; have r0 := hr9.1; have r1 := hr9.2.1; have r2 := hr9.2.2.1; have r3 := hr9.2.2.2.1; have r4 := hr9.2.2.2.2.1; have r5 := hr9.2.2.2.2.2; clear hr9
  by_cases g1 : v < 0
  · go_enter Try.func25, Try.ntmps25
    go_upto_region 1 with fail
    rw [← HV.out]
    go_wp2_with (first | (go_at_call 35; refine (usable_yes _ _ _ _ hl1).mono ?_; rintro e w1 ⟨rfl, hb1⟩; clear e0 e1 e2 t1 r0 r1 r2 r3 r4 r5; replace HAF := Lib.hid (HAF.out.keep hb1); have e0 := HAF.out.d0; have e1 := HAF.out.d1; have e2 := HAF.out.d2; have t1 := HAF.out.tree.c1; have hr9 := three_cells HAF.out.row; have r0 := hr9.1; have r1 := hr9.2.1; have r2 := hr9.2.2.1; have r3 := hr9.2.2.2.1; have r4 := hr9.2.2.2.2.1; have r5 := hr9.2.2.2.2.2; clear hr9; clear hb1) | (go_at_call 41; refine (values_any (L : Int) F _ (by omega) (by omega)).mono ?_; rintro e w2 ⟨rfl, hb2⟩; clear e0 e1 e2 t1 r0 r1 r2 r3 r4 r5; rw [Int.toNat_natCast, ← HP.out]; replace HAF := Lib.hid (HAF.out.keep hb2); have e0 := HAF.out.d0; have e1 := HAF.out.d1; have e2 := HAF.out.d2; have t1 := HAF.out.tree.c1; have hr9 := three_cells HAF.out.row; have r0 := hr9.1; have r1 := hr9.2.1; have r2 := hr9.2.2.1; have r3 := hr9.2.2.2.1; have r4 := hr9.2.2.2.2.1; have r5 := hr9.2.2.2.2.2; clear hr9; clear hb2))
    refine bodyPost_ret (v := .tuple #[zeroD, .int .i64 2]) (results_cell_tmp Try.results25 _ _ (W.heap.size + 1) 28 #[.int .i64 0, .int .i64 0, .pointer none] (0, 0) _ rfl (set_three HAF.out.row) Try.underlying28 (by kernel_rfl) (by kernel_rfl)) rfl ?_
    exact ⟨rfl, set_below HAF.out.b⟩
  · by_cases g2 : P ≤ v
    · go_enter Try.func25, Try.ntmps25
      go_upto_region 1 with fail
      rw [← HV.out]
      go_wp2_with (first | (go_at_call 35; refine (usable_yes _ _ _ _ hl1).mono ?_; rintro e w1 ⟨rfl, hb1⟩; clear e0 e1 e2 t1 r0 r1 r2 r3 r4 r5; replace HAF := Lib.hid (HAF.out.keep hb1); have e0 := HAF.out.d0; have e1 := HAF.out.d1; have e2 := HAF.out.d2; have t1 := HAF.out.tree.c1; have hr9 := three_cells HAF.out.row; have r0 := hr9.1; have r1 := hr9.2.1; have r2 := hr9.2.2.1; have r3 := hr9.2.2.2.1; have r4 := hr9.2.2.2.2.1; have r5 := hr9.2.2.2.2.2; clear hr9; clear hb1) | (go_at_call 41; refine (values_any (L : Int) F _ (by omega) (by omega)).mono ?_; rintro e w2 ⟨rfl, hb2⟩; clear e0 e1 e2 t1 r0 r1 r2 r3 r4 r5; rw [Int.toNat_natCast, ← HP.out]; replace HAF := Lib.hid (HAF.out.keep hb2); have e0 := HAF.out.d0; have e1 := HAF.out.d1; have e2 := HAF.out.d2; have t1 := HAF.out.tree.c1; have hr9 := three_cells HAF.out.row; have r0 := hr9.1; have r1 := hr9.2.1; have r2 := hr9.2.2.1; have r3 := hr9.2.2.2.1; have r4 := hr9.2.2.2.2.1; have r5 := hr9.2.2.2.2.2; clear hr9; clear hb2))
      refine bodyPost_ret (v := .tuple #[zeroD, .int .i64 2]) (results_cell_tmp Try.results25 _ _ (W.heap.size + 1) 28 #[.int .i64 0, .int .i64 0, .pointer none] (0, 0) _ rfl (set_three HAF.out.row) Try.underlying28 (by kernel_rfl) (by kernel_rfl)) rfl ?_
      exact ⟨rfl, set_below HAF.out.b⟩
    · have g3 : m < 1 := by omega
      have g4 : v < P := by omega
      clear hno
      go_enter Try.func25, Try.ntmps25
      go_upto_region 1 with fail
      rw [← HV.out]
      go_wp2_with (first | (go_at_call 35; refine (usable_yes _ _ _ _ hl1).mono ?_; rintro e w1 ⟨rfl, hb1⟩; clear e0 e1 e2 t1 r0 r1 r2 r3 r4 r5; replace HAF := Lib.hid (HAF.out.keep hb1); have e0 := HAF.out.d0; have e1 := HAF.out.d1; have e2 := HAF.out.d2; have t1 := HAF.out.tree.c1; have hr9 := three_cells HAF.out.row; have r0 := hr9.1; have r1 := hr9.2.1; have r2 := hr9.2.2.1; have r3 := hr9.2.2.2.1; have r4 := hr9.2.2.2.2.1; have r5 := hr9.2.2.2.2.2; clear hr9; clear hb1) | (go_at_call 41; refine (values_any (L : Int) F _ (by omega) (by omega)).mono ?_; rintro e w2 ⟨rfl, hb2⟩; clear e0 e1 e2 t1 r0 r1 r2 r3 r4 r5; rw [Int.toNat_natCast, ← HP.out]; replace HAF := Lib.hid (HAF.out.keep hb2); have e0 := HAF.out.d0; have e1 := HAF.out.d1; have e2 := HAF.out.d2; have t1 := HAF.out.tree.c1; have hr9 := three_cells HAF.out.row; have r0 := hr9.1; have r1 := hr9.2.1; have r2 := hr9.2.2.1; have r3 := hr9.2.2.2.1; have r4 := hr9.2.2.2.2.1; have r5 := hr9.2.2.2.2.2; clear hr9; clear hb2))
      refine bodyPost_ret (v := .tuple #[zeroD, .int .i64 2]) (results_cell_tmp Try.results25 _ _ (W.heap.size + 1) 28 #[.int .i64 0, .int .i64 0, .pointer none] (0, 0) _ rfl (set_three HAF.out.row) Try.underlying28 (by kernel_rfl) (by kernel_rfl)) rfl ?_
      exact ⟨rfl, set_below HAF.out.b⟩

set_option maxRecDepth 100000 in
set_option maxHeartbeats 4000000 in
theorem add_full (tb L : Nat) (F : Int) (c : Int → Int) (v m : Int) (W : World) (h : DigM W tb L F c) (hno : AddOk L v m) (hm : 1099511627776 - tot L c < m) :
    Calls Try.prog 25 #[.agg #[.int .i64 (L : Int), .int .i64 F, .pointer (some ⟨tb, 0, none⟩)], .int .i64 v, .int .i64 m] W (fun e w' => e = .returned (.tuple #[zeroD, .int .i64 5]) ∧ Below W.heap.size W w') := by
  obtain ⟨mb, ht, h2, h3, ⟨hl1, hl2, hf1, hf2⟩, h5, h6, h7⟩ := h
  have h8 : 0 ≤ tot L c := S_nonneg _ (fun i _ => h5.1 i)
  obtain ⟨n, hn⟩ : ∃ n : Int, n = tot L c := ⟨_, rfl⟩
  rw [← hn] at hm h6 h8 ht
  obtain ⟨V, hV⟩ : ∃ V, V = (W.alloc (.cells #[.int .i64 (L : Int), .int .i64 F, .pointer (some ⟨tb, 0, none⟩)] 28)).alloc (.cells #[.int .i64 0, .int .i64 0, .pointer none] 28) := ⟨_, rfl⟩
  have HAF : Hid (AF W V tb mb L F n c) := Lib.hid (by rw [hV]; exact AF.start ht)
  obtain ⟨P, hP⟩ : ∃ P : Int, P = 2 ^ L := ⟨_, rfl⟩
  have HP := Lib.hid hP
  have hl1 : (1 : Int) ≤ (L : Int) := by omega
  have HV := Lib.hid hV
  unfold AddOk at hno
  rw [← hP] at hno
  have g1 : ¬ v < 0 := by omega
  have g2 : v < P := by omega
  have g3 : ¬ m < 1 := by omega
  have HW1 : Hid (IntKind.i64.wrap (1099511627776 - n) = 1099511627776 - n) := IntWalk.i64_in _ (by omega)
  clear ht h2 h3 h5 h7 hV hP hno hn
  have e0 := HAF.out.d0; have e1 := HAF.out.d1; have e2 := HAF.out.d2; have t1 := HAF.out.tree.c1; have hr9 := three_cells HAF.out.row; have r0 := hr9.1; have r1 := hr9.2.1; have r2 := hr9.2.2.1; have r3 := hr9.2.2.2.1; have r4 := hr9.2.2.2.2.1; have r5 := hr9.2.2.2.2.2; clear hr9
  go_enter Try.func25, Try.ntmps25
  go_upto_region 1 with fail
  rw [← HV.out]
  go_wp2_with (first | (go_at_call 35; refine (usable_yes _ _ _ _ hl1).mono ?_; rintro e w1 ⟨rfl, hb1⟩; clear e0 e1 e2 t1 r0 r1 r2 r3 r4 r5; replace HAF := Lib.hid (HAF.out.keep hb1); have e0 := HAF.out.d0; have e1 := HAF.out.d1; have e2 := HAF.out.d2; have t1 := HAF.out.tree.c1; have hr9 := three_cells HAF.out.row; have r0 := hr9.1; have r1 := hr9.2.1; have r2 := hr9.2.2.1; have r3 := hr9.2.2.2.1; have r4 := hr9.2.2.2.2.1; have r5 := hr9.2.2.2.2.2; clear hr9; clear hb1) | (go_at_call 41; refine (values_any (L : Int) F _ (by omega) (by omega)).mono ?_; rintro e w2 ⟨rfl, hb2⟩; clear e0 e1 e2 t1 r0 r1 r2 r3 r4 r5; rw [Int.toNat_natCast, ← HP.out]; replace HAF := Lib.hid (HAF.out.keep hb2); have e0 := HAF.out.d0; have e1 := HAF.out.d1; have e2 := HAF.out.d2; have t1 := HAF.out.tree.c1; have hr9 := three_cells HAF.out.row; have r0 := hr9.1; have r1 := hr9.2.1; have r2 := hr9.2.2.1; have r3 := hr9.2.2.2.1; have r4 := hr9.2.2.2.2.1; have r5 := hr9.2.2.2.2.2; clear hr9; clear hb2))
  refine bodyPost_ret (v := .tuple #[zeroD, .int .i64 5]) (results_cell_tmp Try.results25 _ _ (W.heap.size + 1) 28 #[.int .i64 0, .int .i64 0, .pointer none] (0, 0) _ rfl (set_three HAF.out.row) Try.underlying28 (by kernel_rfl) (by kernel_rfl)) rfl ?_
  exact ⟨rfl, set_below HAF.out.b⟩
end Go.Proofs.Ythjmiimkplhffaa
