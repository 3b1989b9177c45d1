/- Part 7 of the contracts: NSend, NLate, RPut, RGet, RKeys, RSaw, RHas, RTab, RAlike. -/
import Derived.Deep.RegionHeld3
import Derived.StillTail
import Derived.Deep.RegionLaw
import Derived.IntWalk
import Derived.Test.YtpghehckojdgeaaPart6

/- A net's Send. (By gen_nsend.py.) -/
set_option linter.unusedVariables false
set_option linter.unusedSimpArgs false
namespace Go.Proofs.Ytpghehckojdgeaa
open Go.RowKit Go.Shelf Go.Sort

/-- a letter is appended, at a step of a region that draws its order -/
theorem step_appM {w : World} {ops : Array Oper} {o : Oper} {a : Act} {K : Act → World → Prop} {Q : Exit → Act → World → Prop} {E : Prop} (hgd : o.guard = none) (s x : Operand)
    (ho : o.op = .call { callee := .builtin .append, args := #[s, x], argTypes := #[86, 86] }) (lo : Option Addr) (lc n : Nat) (ms : List LSlot) (z : LSlot) (H : Nat) (t : TypeId) (hH : w.heap[H]? = some (.cells (lslotC z).toArray t (0, 0))) (hs : a.eval s = .slice lo n lc) (hown : w.ownsRow 0 114 11 (.slice lo n lc) n (flatM ms))
    (hx : a.eval x = .slice (some ⟨H, 0, none⟩) 1 1) (hn : n ≤ 1000)
    (h : ∀ g' cap' w', w'.ownsRow 0 114 11 (.slice (some ⟨g', 0, none⟩) (n + 1) cap') (n + 1) (flatM (ms ++ [z])) → w.grownBy w' (Value.slice lo n lc).ownBlock → ((Value.slice lo n lc).ownBlock = some g' ∨ g' = w.heap.size) → g' < w'.heap.size → K (a.put o.dst (.slice (some ⟨g', 0, none⟩) (n + 1) cap')) w') :
    if Region.wanted o (yielded ops a.tmps) = true then Oper.wp Try.prog o a w K Q else E := by
  obtain ⟨i0, hi, hz0, hz1, hz2⟩ := info_parts infoL
  refine step_append_lies _ hgd s x 86 ho 0 114 i0 _ 11 104 Try.underlying86 hi hz0 hz1 hz2 rfl (by decide) _ n (flatM ms) hs hown ⟨H, 0, none⟩ 1 1 (lslotC z) hx (by rw [lslotC_len]) ?_ (lslotC_one z) (by omega) (by unfold maxLen; omega) (by omega) (Nat.zero_le _) _ rfl ?_
  · intro j u hj
    rw [add_off, Nat.zero_add]
    simp only [World.cell?]
    rw [hH]
    simpa using hj
  · intro g' cap' w' hr hg hl hlt
    exact h g' cap' w' (by rw [flatM_app]; simpa [flatM] using hr) hg hl hlt
theorem own_block {lo : Option Addr} {n lc j : Nat} (h : (Value.slice lo n lc).ownBlock = some j) : ∃ o s, lo = some ⟨j, o, s⟩ := by
  cases lo with
  | none => simp [Value.ownBlock] at h
  | some a =>
    obtain ⟨b, o, s⟩ := a
    simp [Value.ownBlock] at h
    subst h
    exact ⟨o, s, rfl⟩
theorem grown_frm {w w' : World} {b g : Nat} {lo : Option Addr} {n lc : Nat} (h : w.grownBy w' (Value.slice lo n lc).ownBlock) : Frm (fun j => ∃ o s, lo = some ⟨j, o, s⟩) w w' :=
  ⟨h.os, h.tape, h.output, h.size, fun k hk hn => h.block k hk (fun e => hn (own_block e.symm))⟩
theorem NetR.send {W : World} {m b g : Nat} {lo : Option Addr} {lc : Nat} {ts : List Slot} {ms : List LSlot} (h : NetR W m b g lo lc ts ms) {w5 : World} {g' cap' n : Nat} {z : LSlot} (hn : ms.length = n) (hz : Held W m z.S.T z.S.ao z.S.n) (h1 : z.frm < ts.length) (h2 : z.rcv < ts.length) (hm : n < 256)
    (hr : w5.ownsRow 0 114 11 (.slice (some ⟨g', 0, none⟩) (n + 1) cap') (n + 1) (flatM (ms ++ [z]))) (hg : W.grownBy w5 (Value.slice lo n lc).ownBlock) (hl : (Value.slice lo n lc).ownBlock = some g' ∨ g' = W.heap.size) (hlt : g' < w5.heap.size) :
    NetR (w5.setCell ⟨b, 1, none⟩ (.slice (some ⟨g', 0, none⟩) (n + 1) cap')) m b g (some ⟨g', 0, none⟩) cap' ts (ms ++ [z]) ∧ Frm (Foot b g lo) W (w5.setCell ⟨b, 1, none⟩ (.slice (some ⟨g', 0, none⟩) (n + 1) cap')) := by
  subst hn
  have hbl : b ≠ g' := fun e => by
    rcases hl with hl | hl
    · obtain ⟨o, s, e2⟩ := own_block hl
      exact h.lb o s (by rw [e2, e])
    · have := h.lt_b; omega
  have hgg : g ≠ g' := fun e => by
    rcases hl with hl | hl
    · obtain ⟨o, s, e2⟩ := own_block hl
      exact h.lg o s (by rw [e2, e])
    · have := h.lt_g; omega
  have f1 := grown_frm (b := b) (g := g) hg
  have f2 := frm_set w5 b 1 (.slice (some ⟨g', 0, none⟩) (ms.length + 1) cap')
  have fa : Frm (Foot b g lo) W (w5.setCell ⟨b, 1, none⟩ (.slice (some ⟨g', 0, none⟩) (ms.length + 1) cap')) := (f1.wide (G' := Foot b g lo) (fun j e => .inr (.inr e))).trans f2 (fun j _ e => .inl e)
  have hla : (ms ++ [z]).length = ms.length + 1 := by simp
  refine ⟨⟨?_, ?_, ?_, h.bg, fun o s e => hbl (by cases e; rfl), fun o s e => hgg (by cases e; rfl), fun j o s e => ?_, fun j hj => (h.held j hj).frm fa h.noStr, fun j hj => ?_, fun j hj => ?_, h.pos, h.few, by rw [hla]; omega⟩, fa⟩
  · have := f1.row h.hd (fun ⟨o, s, e⟩ => h.lb o s e)
    simp only [World.setCell, Array.getElem?_modify]
    rw [this, hla]
    simp
  · exact f2.row (f1.row h.tb (fun ⟨o, s, e⟩ => h.lg o s e)) (fun e => h.bg e.symm)
  · rw [hla]
    exact ownsRow_frm hr f2 (fun j e => by
      simp [Value.ownBlock] at e
      subst e
      exact fun e => hbl e.symm)
  · cases e
    have hp : 0 < (ms ++ [z]).length := by rw [hla]; omega
    obtain ⟨x, q, hxq⟩ : ∃ x q, ms ++ [z] = x :: q := List.exists_cons_of_length_pos hp
    have := hr.cells (g := g') rfl 0 (.int .i64 (x.frm : Int)) (by rw [hxq]; simp [flatM, lslotC])
    rw [add_off] at this
    exact ⟨_, f2.cell this (fun e => hbl e.symm)⟩
  · rw [app_at hj]
    split
    · exact (h.mail j (by assumption)).frm fa h.noStr
    · exact hz.frm fa h.noStr
  · rw [app_at hj]
    split
    · exact h.idx j (by assumption)
    · exact ⟨h1, h2⟩

set_option maxRecDepth 100000 in
set_option maxHeartbeats 4000000 in
theorem netSend_out {W : World} {m b g : Nat} {lo : Option Addr} {lc : Nat} {ts : List Slot} {ms : List LSlot} (h : NetR W m b g lo lc ts ms) (z0 z1 : Int) (hz : ¬ ((0 ≤ z0 ∧ z0 < (ts.length : Int)) ∧ (0 ≤ z1 ∧ z1 < (ts.length : Int)))) :
    Calls Try.prog 27 #[.pointer (some ⟨b, 0, none⟩), .int .i64 z0, .int .i64 z1] W fun e w' => e = .returned (.int .i64 80) ∧ Below W.heap.size W w' := by
  obtain ⟨V, hV⟩ : ∃ V, V = W.alloc (.cells #[.int .i64 z0, .int .i64 z1] 3) := ⟨_, rfl⟩
  have HB : Hid (Below W.heap.size W V) := Lib.hid (by rw [hV]; exact box_below W _)
  have hq0 : V.cell? ⟨W.heap.size, 0, none⟩ = some (.int .i64 z0) := by
    simp only [World.cell?]
    rw [hV, heap_alloc_new]
    simp
  have hq1 : V.cell? ⟨W.heap.size, 1, none⟩ = some (.int .i64 z1) := by
    simp only [World.cell?]
    rw [hV, heap_alloc_new]
    simp
  have HN := h.keep HB.out
  have c0 := HN.cells.1
  have c1 := HN.cells.2
  have hp := h.pos
  generalize hkk : ts.length = kk at *
  have HKK := Lib.hid hkk
  clear hkk
  generalize hnn : ms.length = n at *
  have HNN := Lib.hid hnn
  clear hnn
  have hk : (1 : Int) ≤ (kk : Int) := by omega
  have FI := Lib.hid (find2_out b g kk _ z0 z1 V c0 hk hq0 hq1 hz)
  rw [hV] at FI
  have HV := Lib.hid hV
  clear hV
  clear h HN
  go_enter Try.func27, Try.ntmps27
  go_upto_region 2 with (go_at_call 66; refine FI.out.mono ?_; rintro e w1 ⟨rfl, rfl⟩)
  rw [← HV.out]
  go_wp2_with fail
  go_ret
  exact ⟨rfl, HB.out⟩

set_option maxRecDepth 100000 in
set_option maxHeartbeats 4000000 in
theorem netSend_full {W : World} {m b g : Nat} {lo : Option Addr} {lc : Nat} {ts : List Slot} {ms : List LSlot} (h : NetR W m b g lo lc ts ms) (i j : Nat) (hi : i < ts.length) (hj : j < ts.length) (hf : ms.length = 256) :
    Calls Try.prog 27 #[.pointer (some ⟨b, 0, none⟩), .int .i64 (i : Int), .int .i64 (j : Int)] W fun e w' => e = .returned (.int .i64 5) ∧ Below W.heap.size W w' := by
  obtain ⟨V, hV⟩ : ∃ V, V = W.alloc (.cells #[.int .i64 (i : Int), .int .i64 (j : Int)] 3) := ⟨_, rfl⟩
  have HB : Hid (Below W.heap.size W V) := Lib.hid (by rw [hV]; exact box_below W _)
  have hq0 : V.cell? ⟨W.heap.size, 0, none⟩ = some (.int .i64 (i : Int)) := by
    simp only [World.cell?]
    rw [hV, heap_alloc_new]
    simp
  have hq1 : V.cell? ⟨W.heap.size, 1, none⟩ = some (.int .i64 (j : Int)) := by
    simp only [World.cell?]
    rw [hV, heap_alloc_new]
    simp
  have HN := h.keep HB.out
  have c0 := HN.cells.1
  have c1 := HN.cells.2
  have hp := h.pos
  generalize hkk : ts.length = kk at *
  have HKK := Lib.hid hkk
  clear hkk
  generalize hnn : ms.length = n at *
  have HNN := Lib.hid hnn
  clear hnn
  have hk : (1 : Int) ≤ (kk : Int) := by omega
  have FI := Lib.hid (find2_in b g kk _ i j V c0 hk hq0 hq1 (by omega) (by omega) (by omega) (by omega))
  rw [hV] at FI
  have HV := Lib.hid hV
  clear hV
  clear h HN HNN
  subst hf
  go_enter Try.func27, Try.ntmps27
  go_upto_region 2 with (go_at_call 66; refine FI.out.mono ?_; rintro e w1 ⟨rfl, rfl⟩)
  rw [← HV.out]
  go_wp2_with fail
  go_ret
  exact ⟨rfl, HB.out⟩

set_option maxRecDepth 100000 in
set_option maxHeartbeats 16000000 in
theorem netSend_in {W : World} {m b g : Nat} {lo : Option Addr} {lc : Nat} {ts : List Slot} {ms : List LSlot} (h : NetR W m b g lo lc ts ms) (i j : Nat) (hi : i < ts.length) (hj : j < ts.length) (hf : ms.length < 256) :
    Calls Try.prog 27 #[.pointer (some ⟨b, 0, none⟩), .int .i64 (i : Int), .int .i64 (j : Int)] W fun e w' => e = .returned (.int .i64 0) ∧ ∃ g' lc', NetR w' m b g (some ⟨g', 0, none⟩) lc' ts (ms ++ [⟨i, j, ts[i]!⟩]) ∧ Frm (Foot b g lo) W w' ∧ ((∃ o s, lo = some ⟨g', o, s⟩) ∨ W.heap.size ≤ g') := by
  obtain ⟨V, hV⟩ : ∃ V, V = W.alloc (.cells #[.int .i64 (i : Int), .int .i64 (j : Int)] 3) := ⟨_, rfl⟩
  have HB : Hid (Below W.heap.size W V) := Lib.hid (by rw [hV]; exact box_below W _)
  have hq0 : V.cell? ⟨W.heap.size, 0, none⟩ = some (.int .i64 (i : Int)) := by
    simp only [World.cell?]
    rw [hV, heap_alloc_new]
    simp
  have hq1 : V.cell? ⟨W.heap.size, 1, none⟩ = some (.int .i64 (j : Int)) := by
    simp only [World.cell?]
    rw [hV, heap_alloc_new]
    simp
  have HN := h.keep HB.out
  have c0 := HN.cells.1
  have c1 := HN.cells.2
  have hp := h.pos
  have sa := HN.tabAt hi
  have HH := h.held i hi
  obtain ⟨y, hy⟩ : ∃ y, y = ts[i]! := ⟨_, rfl⟩
  rw [← hy] at sa HH ⊢
  obtain ⟨p0, p1, p2, p3, p4, p5, p6, p7, p8⟩ := sa
  have HN0 := Lib.hid HN
  have HI := Lib.hid hi
  have HJ := Lib.hid hj
  have HHV := Lib.hid (HH.keep HB.out)
  generalize hkk : ts.length = kk at *
  have HKK := Lib.hid hkk
  clear hkk
  generalize hnn : ms.length = n at *
  have HNN := Lib.hid hnn
  clear hnn
  have hk : (1 : Int) ≤ (kk : Int) := by omega
  have FI := Lib.hid (find2_in b g kk _ i j V c0 hk hq0 hq1 (by omega) (by omega) (by omega) (by omega))
  rw [hV] at FI
  have HV := Lib.hid hV
  clear hV
  have k1 : (0 : Int) ≤ (i : Int) := by omega
  have k2 : (i : Int) < (kk : Int) := by omega
  have hne : ((n : Int) == 256) = false := beq_eq_false_iff_ne.2 (by omega)
  obtain ⟨X, hX⟩ : ∃ X, X = (V.alloc (.cells #[.int .i64 (i : Int), .int .i64 (j : Int), .int .i64 (y.T.seen 0 : Int), .int .i64 (y.T.seen 1 : Int), .int .i64 (y.T.seen 2 : Int), .int .i64 (y.T.seen 3 : Int), .int .i64 (y.T.seen 4 : Int), .int .i64 (y.T.seen 5 : Int), .int .i64 (y.T.seen 6 : Int), .int .i64 (y.T.seen 7 : Int), .slice y.ao y.n y.c] 114)).drew := ⟨_, rfl⟩
  have BX : Hid (Below V.heap.size V X) := Lib.hid (by rw [hX]; exact (box_below V _).drew)
  have NX := Lib.hid (HN0.out.keep BX.out)
  have HR : Hid (X.heap[V.heap.size]? = some (.cells (lslotC ⟨i, j, y⟩).toArray 114 (0, 0))) := Lib.hid (by rw [hX]; exact heap_alloc_new V _)
  have HOWN := Lib.hid NX.out.lt
  rw [HNN.out] at HOWN
  have HXX := Lib.hid hX
  have hbs : b < V.heap.size := HN0.out.lt_b
  have hgs : g < V.heap.size := HN0.out.lt_g
  clear hX h HN HH hy hq0 hq1 hi hj
  go_enter Try.func27, Try.ntmps27
  go_upto_region 2 with (go_at_call 66; refine FI.out.mono ?_; rintro e w1 ⟨rfl, rfl⟩)
  rw [← HV.out]
  go_upto_region 6 with fail
  go_region_law ((rw [← HXX.out]; refine step_appM rfl (.tmp 26) (.tmp 37) (by rfl) lo lc n ms ⟨i, j, y⟩ V.heap.size 114 HR.out (by rfl) HOWN.out (by rfl) (by omega) ?_; intro g5 cap5 w5 hr5 hg5 hl5 hlt5; have HR5 := Lib.hid hr5; have HG5 := Lib.hid hg5; have HL5 := Lib.hid hl5; have HT5 := Lib.hid hlt5; have F5 := grown_frm (b := b) (g := g) hg5; have e1 := F5.cell NX.out.cells.2 (fun ⟨o, s, e⟩ => NX.out.lb o s e); have f1 : w5.frozen? ⟨b, 1, none⟩ = false := (World.frozen?_of_block (a := ⟨b, 1, none⟩) (F5.block b NX.out.lt_b (fun ⟨o, s, e⟩ => NX.out.lb o s e))).trans (NX.out.free 1).1; clear hr5 hg5 hl5 hlt5 F5))
  all_goals go_wp2
  all_goals go_ret
  all_goals
    have FN := NX.out.send HNN.out (HHV.out.keep BX.out) (z := ⟨i, j, y⟩) (by rw [HKK.out]; exact HI.out) (by rw [HKK.out]; exact HJ.out) (by omega) HR5.out HG5.out HL5.out HT5.out
    exact ⟨rfl, g5, cap5, FN.1, (Frm.of_below (HB.out.trans (BX.out.mono HB.out.size))).trans FN.2 (fun _ _ e => e), HL5.out.elim (fun e => .inl (own_block e)) (fun e => .inr (by rw [e]; exact Nat.le_trans HB.out.size BX.out.size))⟩
end Go.Proofs.Ytpghehckojdgeaa

/- Regions that draw their order and end with a store to a cell that they load: what the region holds is asked behind each operation but that store. -/
set_option linter.unusedVariables false
namespace Go.Proofs.Ytpghehckojdgeaa
open Go

/-- whatever order is picked; S holds behind every operation but number t -/
def wpAnyT (P : Program) (md : Region.Mode) (ops : Array Oper) (Q : Exit → Act → World → Prop) (S : World → Prop) (t : Nat) : Nat → Array Bool → Act → World → Prop
  | 0, listed, a, w => Region.ready md ops listed = [] ∧ Q .normal a w
  | fuel + 1, listed, a, w => (Region.ready md ops listed = [] → Q .normal a w) ∧ ∀ i ∈ Region.ready md ops listed, wpOp P ops Q i (fun a' w' => (i ≠ t → S w') ∧ wpAnyT P md ops Q S t fuel (listed.setIfInBounds i true) a' w') a w
theorem wpAny_of_T {P : Program} {md : Region.Mode} {ops : Array Oper} {Q : Exit → Act → World → Prop} {S : World → Prop} {t : Nat} : ∀ (fuel : Nat) (listed : Array Bool) (a : Act) (w : World), wpAnyT P md ops Q S t fuel listed a w → wpAny P md ops Q fuel listed a w
  | 0, _, _, _, h => h
  | fuel + 1, _, _, _, h => ⟨h.1, fun i hi => wpOp_mono (fun _ _ k => wpAny_of_T fuel _ _ _ k.2) (h.2 i hi)⟩

/-- an operation that yields v wherever S holds, and for which number t waits, may be taken first -/
theorem wpAnyT_first {P : Program} {md : Region.Mode} {ops : Array Oper} {Q : Exit → Act → World → Prop} {S : World → Prop} {t i : Nat} {oi : Oper} {v : Value} (hi : ops[i]? = some oi) (hsel : ∀ (j : Nat) (o : Oper) cs b, ops[j]? = some o → o.op ≠ .select cs b)
    (hQ : ∀ c a w, Q (.panic c) (a.put oi.dst v) w → Q (.panic c) a w) (ht : Region.waitsFor md ops t i = true) :
    ∀ (fuel : Nat) (listed : Array Bool) (a : Act) (w : World), (∀ j oj, ops[j]? = some oj → j ≠ i → listed.getD j true = false → (∀ e ∈ oj.after, Region.binds md e = true → e.on ≠ i) → oi.apart ops oj = true) →
      i ∈ Region.ready md ops listed → YieldsIf P ops S oi v a → S w → wpAnyT P md ops Q S t fuel (listed.setIfInBounds i true) (a.put oi.dst v) w → wpAnyT P md ops Q S t (fuel + 1) listed a w := by
  obtain ⟨ot, hot, et, het, hbt, hont⟩ := Region.waitsFor_spec ht
  intro fuel
  induction fuel with
  | zero =>
    intro listed a w hap hr hy hS h
    refine ⟨fun k => absurd hr (by rw [k]; simp), fun j hj => ?_⟩
    have e : j = i := Classical.byContradiction fun k => by
      have := ready_mono hj k
      rw [h.1] at this
      simp at this
    subst e
    exact hy.wpOp hi hS ⟨fun _ => hS, h⟩
  | succ fuel ih =>
    intro listed a w hap hr hy hS h
    refine ⟨fun k => absurd hr (by rw [k]; simp), fun j hj => ?_⟩
    by_cases e : j = i
    · subst e
      exact hy.wpOp hi hS ⟨fun _ => hS, h⟩
    · obtain ⟨hun, oj, hoj, hafter⟩ := mem_ready.1 hj
      have hiun : listed.getD i false = false := getD_both (mem_ready.1 hr).1
      have hno : ∀ e ∈ oj.after, Region.binds md e = true → e.on ≠ i := fun e he hb k => by
        have := hafter e he hb
        rw [k, hiun] at this
        cases this
      have hjt : j ≠ t := fun k => by
        subst k
        have e2 : ot = oj := Option.some.inj (hot.symm.trans hoj)
        subst e2
        exact hno et het hbt hont
      refine wpOp_mono (fun a' w' k => ⟨fun _ => k.2.1 hjt, ih _ a' w' (fun m om hm hmi hmu hmn => hap m om hm hmi ?_ hmn) (ready_mono hr (Ne.symm e)) k.1 (k.2.1 hjt) (by rw [Array.setIfInBounds_comm _ _ e]; exact k.2.2)⟩)
        (wpOp_putIf hoj (hap j oj hoj e hun hno) (fun cs b => hsel i oi cs b hi) (fun cs b => hsel j oj cs b hoj) hQ hy (h.2 j (ready_mono hj e)))
      by_cases q : j = m
      · subst q; exact hun
      · rwa [getD_set_ne true q] at hmu
theorem wpAnyT_take {P : Program} {md : Region.Mode} {ops : Array Oper} {Q : Exit → Act → World → Prop} {S : World → Prop} {t i : Nat} {oi : Oper} {v : Value} {fuel : Nat} {listed : Array Bool} {a : Act} {w : World} (hi : ops[i]? = some oi)
    (hs : Region.noSelect ops = true) (hf : Region.free md ops listed i = true) (hr : (Region.ready md ops listed).contains i = true) (ht : Region.waitsFor md ops t i = true) (hQ : ∀ c a w, Q (.panic c) (a.put oi.dst v) w → Q (.panic c) a w)
    (hy : YieldsIf P ops S oi v a) (hS : S w) (h : wpAnyT P md ops Q S t fuel (listed.setIfInBounds i true) (a.put oi.dst v) w) : wpAnyT P md ops Q S t (fuel + 1) listed a w :=
  wpAnyT_first hi (Region.noSelect_spec hs) hQ ht fuel listed a w (Region.free_spec hi hf) (by simpa using hr) hy hS h
/-- the one operation that may come up -/
theorem wpAnyT_step {P : Program} {md : Region.Mode} {ops : Array Oper} {Q : Exit → Act → World → Prop} {S : World → Prop} {t : Nat} (i : Nat) {o : Oper} {fuel : Nat} {listed : Array Bool} {a : Act} {w : World} (ho : ops[i]? = some o) (hr : Region.ready md ops listed = [i]) (hne : i ≠ t)
    (h : ∀ K : Act → World → Prop, Shut (∀ a w, S w → (S w → wpAnyT P md ops Q S t fuel (listed.setIfInBounds i true) a w) → K a w) → if Region.wanted o (yielded ops a.tmps) = true then Oper.wp P o a w K Q else K (a.put o.dst undef) w) : wpAnyT P md ops Q S t (fuel + 1) listed a w :=
  ⟨fun k => absurd k (by rw [hr]; simp), fun j hj => by
    rw [hr] at hj
    obtain rfl := List.mem_singleton.1 hj
    exact wpOp_step ho (fun K hK => h K (fun a w hS hW => hK a w ⟨fun _ => hS, hW hS⟩))⟩
/-- the last one -/
theorem wpAnyT_last {P : Program} {md : Region.Mode} {ops : Array Oper} {Q : Exit → Act → World → Prop} {S : World → Prop} {t : Nat} {o : Oper} {fuel : Nat} {listed : Array Bool} {a : Act} {w : World} (ho : ops[t]? = some o) (hr : Region.ready md ops listed = [t]) (hend : Region.ready md ops (listed.setIfInBounds t true) = [])
    (h : ∀ K : Act → World → Prop, Shut (∀ a w, Q .normal a w → K a w) → if Region.wanted o (yielded ops a.tmps) = true then Oper.wp P o a w K Q else K (a.put o.dst undef) w) : wpAnyT P md ops Q S t (fuel + 1) listed a w :=
  ⟨fun k => absurd k (by rw [hr]; simp), fun j hj => by
    rw [hr] at hj
    obtain rfl := List.mem_singleton.1 hj
    exact wpOp_step ho (fun K hK => h K (fun a w hq => hK a w ⟨fun k => absurd rfl k, by cases fuel with | zero => exact ⟨hend, hq⟩ | succ f => exact ⟨fun _ => hq, fun i hi => by rw [hend] at hi; simp at hi⟩⟩))⟩
theorem wp_region_late {P : Program} {ops : Array Oper} {Q : Exit → Act → World → Prop} {S : World → Prop} (t : Nat) {id : Nat} {a : Act} {w : World} (hm : P.follows .mixedOrders = true) (hS : S w.drew) (h : S w.drew → wpAnyT P .any ops Q S t ops.size (Array.replicate ops.size false) a w.drew) : (Code.region id ops true).wp P Q a w :=
  wp_region_any hm (wpAny_of_T _ _ _ _ (h hS))
end Go.Proofs.Ytpghehckojdgeaa

/- The document's put. (By gen_rput.py.) -/
set_option linter.unusedVariables false
set_option linter.unusedSimpArgs false
namespace Go.Proofs.Ytpghehckojdgeaa
open Go.RowKit Go.Shelf Go.Sort

/-- entries are appended, at a step of a region that draws its order -/
theorem step_appE {w : World} {ops : Array Oper} {o : Oper} {a : Act} {K : Act → World → Prop} {Q : Exit → Act → World → Prop} {E : Prop} (hgd : o.guard = none) (s x : Operand)
    (ho : o.op = .call { callee := .builtin .append, args := #[s, x], argTypes := #[32, 32] }) (base : Nat) (v : Value) (n : Nat) (xs : List Ent) (hs : a.eval s = v) (hown : OwnE w base v n xs)
    (ad : Addr) (m c : Nat) (ys : List Ent) (hx : a.eval x = .slice (some ad) m c) (hcell : ∀ j u, (flatE ys)[j]? = some u → w.cell? (ad.add j) = some u) (hm : ys.length = m) (h0 : 0 < m) (hn : n + m ≤ 1000000) (hbase : base ≤ w.heap.size)
    (h : ∀ g' cap w', OwnE w' base (.slice (some ⟨g', 0, none⟩) (n + m) cap) (n + m) (xs ++ ys) → Below base w w' → w.heap.size ≤ w'.heap.size → K (a.put o.dst (.slice (some ⟨g', 0, none⟩) (n + m) cap)) w') :
    if Region.wanted o (yielded ops a.tmps) = true then Oper.wp Try.prog o a w K Q else E := by
  obtain ⟨i0, hi, hz0, hz1, hz2⟩ := info_parts infoE
  refine step_append_lies _ hgd s x 32 ho base 82 i0 _ 4 48 Try.underlying32 hi hz0 hz1 hz2 rfl (by decide) v n (flatE xs) hs hown.2 ad m c (flatE ys) hx (by rw [flatE_len, hm]) hcell (flatE_one ys) h0 (by unfold maxLen; omega) (by omega) hbase _ rfl ?_
  intro g' cap w' hr hg _ _
  exact h g' cap w' ⟨by rw [List.length_append, hown.1, hm], by rw [flatE_app]; exact hr⟩ ((Below.refl base w).grown hg hbase (fun j hj => (World.ownsRow.lt hown.2 j hj).1)) hg.size
theorem OwnE.keep {w w' : World} {base n : Nat} {v : Value} {xs : List Ent} (h : OwnE w base v n xs) (hb : Below w.heap.size w w') : OwnE w' base v n xs := by
  refine ⟨h.1, h.2.1, ?_⟩
  rcases h.2.2 with h2 | ⟨g, cap, cur, h3, h4, h5, h6⟩
  · exact .inl h2
  · exact .inr ⟨g, cap, cur, h3, h4, (hb.block g (Array.getElem?_eq_some_iff.1 h5).1).trans h5, h6⟩
theorem RowE.drop {w : World} {g i : Nat} {xs : List Ent} (h : RowE w g xs) (hi : i ≤ xs.length) : ∀ j u, (flatE (xs.drop i))[j]? = some u → w.cell? ((⟨g, i * 4, none⟩ : Addr).add j) = some u := by
  intro j u hj
  have := h.cells (i * 4 + j) u (by
    have e : flatE xs = flatE (xs.take i) ++ flatE (xs.drop i) := by rw [← flatE_app, List.take_append_drop]
    have l1 : (flatE (xs.take i)).length = i * 4 := by rw [flatE_len, List.length_take, Nat.min_eq_left hi]
    rw [e, List.getElem?_append_right (by omega), l1, Nat.add_sub_cancel_left]
    exact hj)
  rw [add_off, Nat.zero_add] at this
  rw [add_off]
  exact this
/-- entries are appended, whatever slice holds them, at a step of a region that draws its order -/
theorem step_appG {w : World} {ops : Array Oper} {o : Oper} {a : Act} {K : Act → World → Prop} {Q : Exit → Act → World → Prop} {E : Prop} (hgd : o.guard = none) (s x : Operand)
    (ho : o.op = .call { callee := .builtin .append, args := #[s, x], argTypes := #[32, 32] }) (base : Nat) (v : Value) (n : Nat) (xs : List Ent) (hs : a.eval s = v) (hown : OwnE w base v n xs)
    (ad : Option Addr) (m c : Nat) (ys : List Ent) (hx : a.eval x = .slice ad m c) (hnone : ad = none → m = 0) (hcell : ∀ ad', ad = some ad' → ∀ j u, (flatE ys)[j]? = some u → w.cell? (ad'.add j) = some u) (hm : ys.length = m) (hn : n + m ≤ 1000000) (hbase : base ≤ w.heap.size)
    (h : ∀ v' w', OwnE w' base v' (n + m) (xs ++ ys) → Below base w w' → w.heap.size ≤ w'.heap.size → K (a.put o.dst v') w') :
    if Region.wanted o (yielded ops a.tmps) = true then Oper.wp Try.prog o a w K Q else E := by
  obtain ⟨i0, hi, hz0, hz1, hz2⟩ := info_parts infoE
  have hw : Region.wanted o (yielded ops a.tmps) = true := by simp [Region.wanted, hgd]
  rw [if_pos hw]
  cases ad with
  | none =>
    obtain rfl := hnone rfl
    have e0 : ys = [] := List.eq_nil_of_length_eq_zero hm
    subst e0
    have hrun := run_append_none (P := Try.prog) (w := w) base 32 o.type 82 i0 4 Try.underlying32 hi v n (flatE xs) hown.2 c
    unfold Oper.wp
    simp [execOp, ho, resolve, invoke, builtin, hs, hx, hrun, Result.andThen]
    exact h v w (by simpa using hown) (Below.refl _ _) (Nat.le_refl _)
  | some ad =>
    obtain ⟨v', w', hrun, hrow, hg, _, _⟩ := run_append_own_at (P := Try.prog) w base 32 o.type 82 i0 _ 4 48 Try.underlying32 hi hz0 hz1 hz2 rfl (by decide) v n (flatE xs) hown.2 ad m c (flatE ys) (by rw [flatE_len, hm]) (hcell ad rfl) (flatE_one ys) (by unfold maxLen; omega) (by omega) hbase
    unfold Oper.wp
    simp [execOp, ho, resolve, invoke, builtin, hs, hx, hrun, Result.andThen]
    exact h v' w' ⟨by rw [List.length_append, hown.1, hm], by rw [flatE_app]; exact hrow⟩ ((Below.refl base w).grown hg hbase (fun j hj => (World.ownsRow.lt hown.2 j hj).1)) hg.size
theorem OwnE.out {w : World} {base n : Nat} {v : Value} {xs : List Ent} (h : OwnE w base v n xs) (h0 : 0 < n) : ∃ g cap, v = .slice (some ⟨g, 0, none⟩) n cap ∧ El w (some ⟨g, 0, none⟩) n xs ∧ n ≤ cap ∧ cap ≤ maxLen := by
  obtain ⟨g, cap, rfl, _, _⟩ := World.ownsRow.form h.2 h0
  obtain ⟨h1, _, _, h2, h3⟩ := h.row
  exact ⟨g, cap, rfl, ⟨h.1, .inr ⟨g, rfl, h1⟩⟩, h2, h3⟩
theorem El.rowS {w : World} {g n : Nat} {xs : List Ent} (h : El w (some ⟨g, 0, none⟩) n xs) : RowE w g xs := by
  rcases h.2 with ⟨h, _⟩ | ⟨g', e, hr⟩
  · cases h
  · cases e; exact hr
theorem rowE_new (w : World) (y : Ent) (t : TypeId) : RowE (w.alloc (.cells #[.string y.key, .string y.val, .int .i64 (y.site : Int), .int .i64 (y.count : Int)] t)) w.heap.size [y] := by
  refine ⟨by simp, fun i hi => ?_⟩
  have : i = 0 := by simpa using hi
  subst this
  obtain ⟨a, b, c, d⟩ := four_cells (heap_alloc_new w (.cells #[.string y.key, .string y.val, .int .i64 (y.site : Int), .int .i64 (y.count : Int)] t))
  exact ⟨a, b, c, d⟩
theorem insE_at {xs : List Ent} {x : Ent} {i : Nat} (hi : i ≤ xs.length) (h1 : ∀ j, j < i → ltE xs[j]! x = true) (h2 : i < xs.length → ltE xs[i]! x = false) : insE xs x = xs.take i ++ [x] ++ xs.drop i := by
  have key : ∀ (l : List Ent) (i : Nat), i ≤ l.length → (∀ j, j < i → ltE l[j]! x = true) → (i < l.length → ltE l[i]! x = false) → l.takeWhile (fun a => ltE a x) = l.take i ∧ l.dropWhile (fun a => ltE a x) = l.drop i := by
    intro l
    induction l with
    | nil => intro i hi _ _; simp
    | cons y l ih =>
      intro i hi h1 h2
      cases i with
      | zero =>
        have := h2 (by simp)
        simp at this
        simp [this]
      | succ i =>
        have hy := h1 0 (by omega)
        simp at hy
        obtain ⟨e1, e2⟩ := ih i (by simpa using hi) (fun j hj => by simpa using h1 (j + 1) (by omega)) (fun hl => by simpa using h2 (by simpa using hl))
        rw [List.takeWhile_cons, if_pos hy, List.dropWhile_cons, if_pos hy, e1, e2]
        exact ⟨rfl, rfl⟩
  obtain ⟨e1, e2⟩ := key xs i hi h1 h2
  unfold insE
  rw [e1, e2]
  simp

set_option maxRecDepth 100000 in
set_option maxHeartbeats 16000000 in
theorem refput_any (ao : Option Addr) (n c : Nat) (xs : List Ent) (x : Ent) (W : World) (h : El W ao n xs) (hn : n ≤ 400000) (hc : n ≤ c) (hcm : c ≤ 9223372036854775807) :
    Calls Try.prog 35 #[.slice ao n c, .agg #[.string x.key, .string x.val, .int .i64 (x.site : Int), .int .i64 (x.count : Int)]] W fun e w' => ∃ ao' c', e = .returned (.slice ao' (n + 1) c') ∧ El w' ao' (n + 1) (insE xs x) ∧ n + 1 ≤ c' ∧ c' ≤ maxLen ∧ Below W.heap.size W w' := by
  obtain ⟨V, hV⟩ : ∃ V, V = W.alloc (.cells #[.string x.key, .string x.val, .int .i64 (x.site : Int), .int .i64 (x.count : Int)] 82) := ⟨_, rfl⟩
  have HB : Hid (Below W.heap.size W V) := Lib.hid (by rw [hV]; exact box_below W _)
  have HX : Hid (V.heap[W.heap.size]? = some (.cells #[.string x.key, .string x.val, .int .i64 (x.site : Int), .int .i64 (x.count : Int)] 82 (0, 0))) := Lib.hid (by rw [hV]; exact heap_alloc_new _ _)
  have HE := Lib.hid (h.keep HB.out)
  have HN := Lib.hid h.1
  have pn : (n : Int) ≤ 400000 := by omega
  have HV := Lib.hid hV
  clear hV h
  go_enter Try.func35, Try.ntmps35
  go_upto_region 1 with fail
  rw [← HV.out]
  go_wp2
  go_loopg [5, 6] n (fun gg s5 s6 wr => ∃ i : Nat, s6 = .int .i64 (i : Int) ∧ i ≤ n ∧ n - i ≤ gg ∧ Hid (OwnE wr V.heap.size s5 i (xs.take i)) ∧ Hid (∀ j, j < i → ltE xs[j]! x = true) ∧ Hid (Below V.heap.size V wr))
  case atStart => exact ⟨0, rfl, Nat.zero_le _, by omega, Lib.hid (OwnE.nil _ _), Lib.hid (fun j hj => absurd hj (Nat.not_lt_zero _)), Lib.hid (Below.refl _ _)⟩
  case round =>
    obtain ⟨i, rfl, hi, hgg, HO, HL, HBr⟩ := hrel
    have i0 : (0 : Int) ≤ (i : Int) := by omega
    obtain ⟨x0, x1, x2, x3⟩ := four_cells (row_keep HBr.out HX.out)
    by_cases hlt : i < n
    · have t1 : (i : Int) < (n : Int) := by omega
      have t2 : decide ((i : Int) < (n : Int)) = true := by simpa using t1
      obtain ⟨g, hg, hcell⟩ : ∃ g, ao = some ⟨g, 0, none⟩ ∧ At4 wr g (i * 4) xs[i]! := by
        have he := HE.out.keep HBr.out
        rcases he.2 with ⟨_, h0⟩ | ⟨g, hg, hr⟩
        · omega
        · exact ⟨g, hg, hr.2 i (by rw [HN.out]; exact hlt)⟩
      have HTK : Hid (xs.take (i + 1) = xs.take i ++ [xs[i]!]) := Lib.hid (take_succ! (by rw [HN.out]; exact hlt))
      obtain ⟨y, hy⟩ : ∃ y, y = xs[i]! := ⟨_, rfl⟩
      rw [← hy] at hcell HTK
      have HY := Lib.hid hy
      clear hy
      subst hg
      obtain ⟨c0, c1, c2, c3⟩ := hcell
      have LE : Hid (∀ w, Calls Try.prog 68 #[.agg #[.string y.key, .string y.val, .int .i64 (y.site : Int), .int .i64 (y.count : Int)], .agg #[.string x.key, .string x.val, .int .i64 (x.site : Int), .int .i64 (x.count : Int)]] w fun e w' => e = .returned (.bool (ltE y x)) ∧ Below w.heap.size w w') := Lib.hid fun w => less_any y x w
      cases hq : ltE y x with
      | true =>
        rw [hq] at LE
        have HQ := Lib.hid hq
        clear hq
        go_upto_region 3 with fail
        go_cut [18] (fun v wx => v = .bool true ∧ Hid (Below wr.heap.size wr wx))
        · go_region_law (((try go_simp); go_at_call 68; refine (LE.out wr.drew).mono ?_; rintro e w7 ⟨rfl, hb7⟩; have B7 := Lib.hid ((drew_below wr).trans hb7); have y0 := cell_later B7.out c0; have y1 := cell_later B7.out c1; have y2 := cell_later B7.out c2; have y3 := cell_later B7.out c3; have z0 := cell_later B7.out x0; have z1 := cell_later B7.out x1; have z2 := cell_later B7.out x2; have z3 := cell_later B7.out x3; clear hb7))
          all_goals go_wp2_with fail
          all_goals go_meet
          all_goals exact ⟨rfl, B7⟩
        · obtain ⟨rfl, B7⟩ := hcut
          have y0 := cell_later B7.out c0
          have y1 := cell_later B7.out c1
          have y2 := cell_later B7.out c2
          have y3 := cell_later B7.out c3
          clear c0 c1 c2 c3 x0 x1 x2 x3
          have HO7 := Lib.hid ((HO.out.keep B7.out).keep (box_below wc (.cells #[.string y.key, .string y.val, .int .i64 (y.site : Int), .int .i64 (y.count : Int)] 82)))
          have B8 := Lib.hid ((HBr.out.trans (B7.out.mono HBr.out.size)).trans ((box_below wc (.cells #[.string y.key, .string y.val, .int .i64 (y.site : Int), .int .i64 (y.count : Int)] 82)).mono (Nat.le_trans HBr.out.size B7.out.size)))
          have HC8 := Lib.hid (rowE_new wc y 82)
          go_wp2_with (at_builtin; refine wpList_appE rfl (.tmp 19) (.tmp 24) rfl V.heap.size _ i (xs.take i) rfl HO7.out wc.heap.size 1 1 [y] rfl HC8.out rfl (by omega) (by omega) B8.out.size ?_; intro g9 cap9 w9 hown9 hb9 hs9; have HO9 := Lib.hid hown9; have B9 := Lib.hid (B8.out.trans hb9); clear hown9 hb9 hs9)
          go_roundg (n - (i + 1))
          case measure => omega
          case rel => exact ⟨i + 1, by go_num, by omega, Nat.le_refl _, Lib.hid (by rw [HTK.out]; exact HO9.out), Lib.hid (fun j hj => by
            by_cases e : j = i
            · rw [e, ← HY.out]; exact HQ.out
            · exact HL.out j (by omega)), B9⟩
      | false =>
        rw [hq] at LE
        have HQ := Lib.hid hq
        clear hq
        go_upto_region 3 with fail
        go_cut [18] (fun v wx => v = .bool false ∧ Hid (Below wr.heap.size wr wx))
        · go_region_law (((try go_simp); go_at_call 68; refine (LE.out wr.drew).mono ?_; rintro e w7 ⟨rfl, hb7⟩; have B7 := Lib.hid ((drew_below wr).trans hb7); have y0 := cell_later B7.out c0; have y1 := cell_later B7.out c1; have y2 := cell_later B7.out c2; have y3 := cell_later B7.out c3; have z0 := cell_later B7.out x0; have z1 := cell_later B7.out x1; have z2 := cell_later B7.out x2; have z3 := cell_later B7.out x3; clear hb7))
          all_goals go_wp2_with fail
          all_goals go_meet
          all_goals exact ⟨rfl, B7⟩
        · obtain ⟨rfl, B7⟩ := hcut
          have y0 := cell_later B7.out x0
          have y1 := cell_later B7.out x1
          have y2 := cell_later B7.out x2
          have y3 := cell_later B7.out x3
          have hci : ¬ c = i := by omega
          clear c0 c1 c2 c3 x0 x1 x2 x3
          have BW := Lib.hid (HBr.out.trans (B7.out.mono HBr.out.size))
          have HOC := Lib.hid (HO.out.keep B7.out)
          obtain ⟨X, hX⟩ : ∃ X, X = (wc.alloc (.cells #[.string x.key, .string x.val, .int .i64 (x.site : Int), .int .i64 (x.count : Int)] 82)).drew := ⟨_, rfl⟩
          have BX : Hid (Below wc.heap.size wc X) := Lib.hid (by rw [hX]; exact (box_below wc _).drew)
          have HR := Lib.hid (show RowE X wc.heap.size [x] by rw [hX]; exact rowE_new wc x 82)
          have HOX := Lib.hid (HOC.out.keep BX.out)
          have BWX := Lib.hid (BW.out.trans (BX.out.mono BW.out.size))
          have HXX := Lib.hid hX
          clear hX
          go_upto_region 6 with fail
          go_region_law (first | (rw [← HXX.out]; refine step_appE rfl (.tmp 28) (.tmp 30) (by rfl) V.heap.size _ i (xs.take i) (by rfl) HOX.out ⟨wc.heap.size, 0, none⟩ 1 1 [x] (by rfl) HR.out.cells rfl (by omega) (by omega) BWX.out.size ?_; intro g5 cap5 w5 ho5 hb5 hs5; have HO5 := Lib.hid ho5; have B5 := Lib.hid (BWX.out.trans hb5); clear ho5 hb5 hs5) | (refine step_appG rfl (.tmp 31) (.tmp 34) (by rfl) V.heap.size _ (i + 1) (xs.take i ++ [x]) (by rfl) HO5.out (some ⟨g, i * 4, none⟩) (n - i) (c - i) (xs.drop i) (by go_simp) (fun e => by cases e) (fun ad e => by cases e; exact (HE.out.keep B5.out).rowS.drop (by rw [HN.out]; omega)) (by simp [HN.out]) (by omega) B5.out.size ?_; intro v6 w6 ho6 hb6 hs6; have HO6 := Lib.hid ho6; have B6 := Lib.hid (B5.out.trans hb6); clear ho6 hb6 hs6))
          all_goals go_wp2_with fail
          all_goals go_ret
          obtain ⟨g7, c7, e7, hel7, h17, h27⟩ := HO6.out.out (by omega)
          have hlen : i + 1 + (n - i) = n + 1 := by omega
          rw [hlen] at e7 hel7 h17
          rw [← insE_at (by rw [HN.out]; omega) HL.out (fun _ => by rw [← HY.out]; exact HQ.out)] at hel7
          exact ⟨_, _, by rw [e7]; rfl, hel7, h17, h27, HB.out.trans (B6.out.mono HB.out.size)⟩
    · have t1 : ¬ ((i : Int) < (n : Int)) := by omega
      have t2 : decide ((i : Int) < (n : Int)) = false := by simpa using t1
      go_upto_region 3 with fail
      go_cut [18] (fun v wx => v = .bool false ∧ Hid (Below wr.heap.size wr wx))
      · go_region
        all_goals go_wp2_with fail
        all_goals go_meet
        all_goals exact ⟨rfl, Lib.hid (drew_below wr)⟩
      obtain ⟨rfl, B7⟩ := hcut
      have y0 := cell_later B7.out x0
      have y1 := cell_later B7.out x1
      have y2 := cell_later B7.out x2
      have y3 := cell_later B7.out x3
      clear x0 x1 x2 x3
      clear t1 t2
      obtain rfl : i = n := by omega
      have BW := Lib.hid (HBr.out.trans (B7.out.mono HBr.out.size))
      have HOC := Lib.hid (HO.out.keep B7.out)
      obtain ⟨X, hX⟩ : ∃ X, X = (wc.alloc (.cells #[.string x.key, .string x.val, .int .i64 (x.site : Int), .int .i64 (x.count : Int)] 82)).drew := ⟨_, rfl⟩
      have BX : Hid (Below wc.heap.size wc X) := Lib.hid (by rw [hX]; exact (box_below wc _).drew)
      have HR := Lib.hid (show RowE X wc.heap.size [x] by rw [hX]; exact rowE_new wc x 82)
      have HOX := Lib.hid (HOC.out.keep BX.out)
      have BWX := Lib.hid (BW.out.trans (BX.out.mono BW.out.size))
      have HXX := Lib.hid hX
      clear hX
      go_upto_region 6 with fail
      go_region_law (first | (rw [← HXX.out]; refine step_appE rfl (.tmp 28) (.tmp 30) (by rfl) V.heap.size _ i (xs.take i) (by rfl) HOX.out ⟨wc.heap.size, 0, none⟩ 1 1 [x] (by rfl) HR.out.cells rfl (by omega) (by omega) BWX.out.size ?_; intro g5 cap5 w5 ho5 hb5 hs5; have HO5 := Lib.hid ho5; have B5 := Lib.hid (BWX.out.trans hb5); clear ho5 hb5 hs5) | (refine step_appG rfl (.tmp 31) (.tmp 34) (by rfl) V.heap.size _ (i + 1) (xs.take i ++ [x]) (by rfl) HO5.out (if c = i then ao else Option.map (fun x => x.add (i * 4)) ao) 0 (c - i) (xs.drop i) (by rfl) (fun _ => rfl) (fun ad e j u hu => by rw [List.drop_of_length_le (by rw [HN.out]; omega)] at hu; simp [flatE] at hu) (by simp [HN.out]) (by omega) B5.out.size ?_; intro v6 w6 ho6 hb6 hs6; have HO6 := Lib.hid ho6; have B6 := Lib.hid (B5.out.trans hb6); clear ho6 hb6 hs6))
      all_goals go_wp2_with fail
      all_goals go_ret
      all_goals (
        obtain ⟨g7, c7, e7, hel7, h17, h27⟩ := HO6.out.out (by omega)
        simp only [Nat.add_zero] at e7 hel7 h17
        rw [← insE_at (by rw [HN.out]; omega) HL.out (fun hl => absurd hl (by rw [HN.out]; omega))] at hel7
        exact ⟨_, _, by rw [e7]; rfl, hel7, h17, h27, HB.out.trans (B6.out.mono HB.out.size)⟩)
end Go.Proofs.Ytpghehckojdgeaa

/- The document's Get. (By gen_rget.py.) -/
set_option linter.unusedVariables false
set_option linter.unusedSimpArgs false
namespace Go.Proofs.Ytpghehckojdgeaa
open Go.RowKit Go.Shelf Go.Sort

set_option maxRecDepth 100000 in
set_option maxHeartbeats 4000000 in
theorem refget_any (s : Nat → Nat) (ao : Option Addr) (n c : Nat) (xs : List Ent) (k : ByteArray) (W : World) (h : El W ao n xs) (hn : n ≤ 900000) :
    Calls Try.prog 13 #[tabV s (.slice ao n c), .string k] W (OutS W (getL xs k)) := by
  obtain ⟨V, hV⟩ : ∃ V, V = W.alloc (.cells #[.int .i64 (s 0 : Int), .int .i64 (s 1 : Int), .int .i64 (s 2 : Int), .int .i64 (s 3 : Int), .int .i64 (s 4 : Int), .int .i64 (s 5 : Int), .int .i64 (s 6 : Int), .int .i64 (s 7 : Int), .slice ao n c] 36) := ⟨_, rfl⟩
  have HB : Hid (Below W.heap.size W V) := Lib.hid (by rw [hV]; exact box_below W _)
  have r8 : V.cell? ⟨W.heap.size, 8, none⟩ = some (.slice ao n c) := (nine_cells (s := s) (sl := .slice ao n c) (ty := 36) (by rw [hV]; exact heap_alloc_new _ _)).2.2.2.2.2.2.2.2
  have HE := Lib.hid (h.keep HB.out)
  have HN := Lib.hid h.1
  have HV := Lib.hid hV
  have pn : (n : Int) ≤ 900000 := by omega
  clear hV h
  unfold tabV
  go_enter Try.func13, Try.ntmps13
  go_upto_region 1 with fail
  rw [← HV.out]
  go_wp2
  go_loopg [5, 6] n (fun gg s5 s6 wr => ∃ (j : Nat) (l : Nat), s6 = .int .i64 (j : Int) ∧ j ≤ n ∧ n - j ≤ gg ∧ l = (getL (xs.take j) k).length ∧ Hid (OwnS wr V.heap.size s5 l (getL (xs.take j) k)) ∧ Hid (Below V.heap.size V wr))
  case atStart => exact ⟨0, 0, rfl, Nat.zero_le _, by omega, rfl, Lib.hid (OwnS.nil _ _), Lib.hid (Below.refl _ _)⟩
  case round =>
    obtain ⟨j, l, rfl, hj, hgg, hl, HO, HBr⟩ := hrel
    have j0 : (0 : Int) ≤ (j : Int) := by omega
    have hl9 : l ≤ 900000 := by
      have h1 := getL_len (xs.take j) k
      have h2 := List.length_take_le j xs
      rw [hl]; omega
    have HL := Lib.hid hl
    clear hl
    have q8 := cell_later HBr.out r8
    by_cases hlt : j < n
    · have hltz : (j : Int) < (n : Int) := by omega
      obtain ⟨g, hg, hc⟩ : ∃ g, ao = some ⟨g, 0, none⟩ ∧ At4 wr g (j * 4) xs[j]! := by
        have he := HE.out.keep HBr.out
        rcases he.2 with ⟨_, h0⟩ | ⟨g, hg, hr⟩
        · omega
        · exact ⟨g, hg, hr.2 j (by rw [HN.out]; exact hlt)⟩
      have HSN : Hid (getL (xs.take (j + 1)) k = getL (xs.take j) k ++ (if isKeyB k xs[j]! then [xs[j]!.val] else [])) := Lib.hid (by rw [take_succ! (by rw [HN.out]; exact hlt), getL_snoc])
      obtain ⟨y, hy⟩ : ∃ y, y = xs[j]! := ⟨_, rfl⟩
      rw [← hy] at hc HSN
      clear hy
      obtain ⟨c0, c1, c2, c3⟩ := hc
      subst hg
      by_cases hk : y.key = k
      · have qk := str_eq hk
        have e : isKeyB k y = true := by unfold isKeyB; simp [hk]
        rw [e] at HSN
        clear hk e
        go_wp2_with (at_builtin; refine wpList_appS rfl _ _ rfl wr 9 V.heap.size _ l (getL (xs.take j) k) y.val wr.heap.size rfl rfl rfl HO.out rfl (by omega) HBr.out.size ?_; intro v2 w2 hown2 hb2; have HO2 := Lib.hid hown2; have HB2 := Lib.hid (HBr.out.trans hb2); clear hown2 hb2)
        go_roundg (n - (j + 1))
        case measure => omega
        case rel =>
          refine ⟨j + 1, l + 1, by go_num, by omega, Nat.le_refl _, ?_, ?_, HB2⟩
          · rw [HSN.out, HL.out]; simp
          · rw [HSN.out]; exact Lib.hid (by simpa using HO2.out)
      · have qk := str_ne hk
        have e : isKeyB k y = false := by unfold isKeyB; simp [hk]
        rw [e] at HSN
        clear hk e
        go_wp2
        go_roundg (n - (j + 1))
        case measure => omega
        case rel =>
          refine ⟨j + 1, l, by go_num, by omega, Nat.le_refl _, ?_, ?_, HBr⟩
          · rw [HSN.out, HL.out]; simp
          · rw [HSN.out]; exact Lib.hid (by simpa using HO.out)
    · obtain rfl : j = n := by omega
      have hltz : ¬ (j : Int) < (j : Int) := by omega
      go_wp2
      go_ret
      obtain ⟨a1, k1, hv, hs⟩ := HO.out.sl
      rw [List.take_of_length_le (by rw [HN.out]; exact Nat.le_refl _)] at hs HL
      have hL := HL.out
      subst hL
      exact ⟨a1, k1, by rw [← hv]; rfl, hs, HB.out.trans (HBr.out.mono HB.out.size)⟩
end Go.Proofs.Ytpghehckojdgeaa

/- The document's Keys. (By gen_rget.py.) -/
set_option linter.unusedVariables false
set_option linter.unusedSimpArgs false
namespace Go.Proofs.Ytpghehckojdgeaa
open Go.RowKit Go.Shelf Go.Sort

theorem lastK_take (xs : List Ent) (z : ByteArray) (p : Nat) (hp : p < xs.length) : lastK z (xs.take (p + 1)) = xs[p]!.key := by
  rw [take_succ! hp]; exact (keysF_snoc _ _ _).2
set_option maxRecDepth 100000 in
set_option maxHeartbeats 4000000 in
theorem refkeys_any (s : Nat → Nat) (ao : Option Addr) (n c : Nat) (xs : List Ent) (W : World) (h : El W ao n xs) (hn : n ≤ 900000) (hne : ∀ e ∈ xs, 1 ≤ e.key.size) :
    Calls Try.prog 57 #[tabV s (.slice ao n c)] W fun e w' => e = .returned (.int .i64 (keysF ⟨#[]⟩ xs : Int)) ∧ Below W.heap.size W w' := by
  obtain ⟨V, hV⟩ : ∃ V, V = W.alloc (.cells #[.int .i64 (s 0 : Int), .int .i64 (s 1 : Int), .int .i64 (s 2 : Int), .int .i64 (s 3 : Int), .int .i64 (s 4 : Int), .int .i64 (s 5 : Int), .int .i64 (s 6 : Int), .int .i64 (s 7 : Int), .slice ao n c] 36) := ⟨_, rfl⟩
  have HB : Hid (Below W.heap.size W V) := Lib.hid (by rw [hV]; exact box_below W _)
  have r8 : V.cell? ⟨W.heap.size, 8, none⟩ = some (.slice ao n c) := (nine_cells (s := s) (sl := .slice ao n c) (ty := 36) (by rw [hV]; exact heap_alloc_new _ _)).2.2.2.2.2.2.2.2
  have HE := Lib.hid (h.keep HB.out)
  have HN := Lib.hid h.1
  have HV := Lib.hid hV
  have pn : (n : Int) ≤ 900000 := by omega
  clear hV h
  have HNE := Lib.hid hne
  clear hne
  unfold tabV
  go_enter Try.func57, Try.ntmps57
  go_upto_region 1 with fail
  rw [← HV.out]
  go_wp2
  go_loopg [3, 4] n (fun gg s3 s4 wr => ∃ (j m : Nat), s4 = .int .i64 (j : Int) ∧ j ≤ n ∧ n - j ≤ gg ∧ s3 = .int .i64 (m : Int) ∧ m ≤ j ∧ Hid (m = keysF ⟨#[]⟩ (xs.take j)) ∧ Hid (Below V.heap.size V wr))
  case atStart => exact ⟨0, 0, rfl, Nat.zero_le _, by omega, rfl, Nat.le_refl _, Lib.hid rfl, Lib.hid (Below.refl _ _)⟩
  case round =>
    obtain ⟨j, m, rfl, hj, hgg, rfl, hmj, HI, HBr⟩ := hrel
    have q8 := cell_later HBr.out r8
    by_cases hlt : j < n
    · have hltz : (j : Int) < (n : Int) := by omega
      obtain ⟨g, hg, hc⟩ : ∃ g, ao = some ⟨g, 0, none⟩ ∧ At4 wr g (j * 4) xs[j]! := by
        have he := HE.out.keep HBr.out
        rcases he.2 with ⟨_, h0⟩ | ⟨g, hg, hr⟩
        · omega
        · exact ⟨g, hg, hr.2 j (by rw [HN.out]; exact hlt)⟩
      have HSN := Lib.hid (keysF_snoc xs[j]! (xs.take j) ⟨#[]⟩)
      have HTK : Hid (xs.take (j + 1) = xs.take j ++ [xs[j]!]) := Lib.hid (take_succ! (by rw [HN.out]; exact hlt))
      have hyk : 1 ≤ xs[j]!.key.size := HNE.out _ (by rw [getElem!_pos xs j (by rw [HN.out]; exact hlt)]; exact List.getElem_mem _)
      subst hg
      cases j with
      | zero =>
        have z0 : ((0 : Int) == 0) = true := rfl
        have k1 : kN (lastK ⟨#[]⟩ (xs.take 0)) xs[0]! = 1 := by
          unfold kN isKeyB
          rw [decide_eq_false (fun e => by rw [e] at hyk; simp [lastK, ByteArray.size] at hyk)]; rfl
        have HK1 := Lib.hid k1
        have HM0 : Hid (m = 0) := Lib.hid (by omega)
        clear k1 hyk hc
        go_upto_region 6 with fail
        go_region
        all_goals go_wp2_with fail
        all_goals go_roundg (n - 1)
        all_goals first
          | exact ⟨1, m + 1, by go_num, by omega, Nat.le_refl _, by go_num, by omega, Lib.hid (by rw [HTK.out, HSN.out.1, HK1.out, ← HI.out]), Lib.hid (HBr.out.trans ((drew_below wr).mono HBr.out.size))⟩
          | omega
      | succ p =>
        obtain ⟨c0, c1, c2, c3⟩ := hc
        have hp : p < n := by omega
        have hcp : At4 wr g (p * 4) xs[p]! := by
          have he := (HE.out.keep HBr.out)
          exact he.rowS.2 p (by rw [HN.out]; exact hp)
        obtain ⟨d0, d1, d2, d3⟩ := hcp
        have hlk := lastK_take xs ⟨#[]⟩ p (by rw [HN.out]; exact hp)
        have HLK := Lib.hid hlk
        clear hlk hyk
        obtain ⟨y, hy⟩ : ∃ y, y = xs[p + 1]! := ⟨_, rfl⟩
        obtain ⟨z, hz⟩ : ∃ z, z = xs[p]! := ⟨_, rfl⟩
        rw [← hy] at c0 c1 c2 c3 HSN HTK
        rw [← hz] at d0 d1 d2 d3 HLK
        clear hy hz c1 c2 c3 d1 d2 d3
        obtain ⟨q, hq⟩ : ∃ q, q = p + 1 := ⟨_, rfl⟩
        have hq1 : 1 ≤ q := by omega
        have hqn : q < n := by omega
        have qz : ((q : Int) == 0) = false := beq_eq_false_iff_ne.2 (by omega)
        have g1 : IntKind.i64.wrap ((q : Int) - 1) = (p : Int) := by rw [IntWalk.i64_in _ (by omega)]; omega
        have p0 : (0 : Int) ≤ (p : Int) := by omega
        have p1 : (p : Int) < (n : Int) := by omega
        have q0 : (0 : Int) ≤ (q : Int) := by omega
        have q1 : (q : Int) < (n : Int) := by omega
        rw [← hq] at c0 HI HLK HTK HSN hgg hmj hj
        have HQ := Lib.hid hq
        clear hq hltz
        rw [← HQ.out]
        by_cases hk : y.key = z.key
        · have qk := str_eq hk
          have HK0 : Hid (kN (lastK ⟨#[]⟩ (xs.take q)) y = 0) := Lib.hid (by rw [HLK.out]; unfold kN isKeyB; rw [decide_eq_true hk]; rfl)
          clear hk
          go_upto_region 5 with fail
          go_quiet (fail)
          go_wp2
          go_roundg (n - (q + 1))
          case measure => omega
          case rel => exact ⟨q + 1, m, by go_num, by omega, Nat.le_refl _, rfl, by omega, Lib.hid (by rw [HTK.out, HSN.out.1, HK0.out, ← HI.out]; rfl), Lib.hid (below_drewN HBr.out _)⟩
        · have qk := str_ne hk
          have HK0 : Hid (kN (lastK ⟨#[]⟩ (xs.take q)) y = 1) := Lib.hid (by rw [HLK.out]; unfold kN isKeyB; rw [decide_eq_false hk]; rfl)
          clear hk
          go_upto_region 5 with fail
          go_quiet (fail)
          go_wp2
          go_roundg (n - (q + 1))
          case measure => omega
          case rel => exact ⟨q + 1, m + 1, by go_num, by omega, Nat.le_refl _, by go_num, by omega, Lib.hid (by rw [HTK.out, HSN.out.1, HK0.out, ← HI.out]), Lib.hid (below_drewN HBr.out _)⟩
    · obtain rfl : j = n := by omega
      have hltz : ¬ (j : Int) < (j : Int) := by omega
      go_wp2
      go_ret
      have hi := HI.out
      rw [List.take_of_length_le (by rw [HN.out]; exact Nat.le_refl _)] at hi
      exact ⟨by rw [← hi]; rfl, HB.out.trans (HBr.out.mono HB.out.size)⟩
end Go.Proofs.Ytpghehckojdgeaa

/- The document's Saw. (By gen_rget.py.) -/
set_option linter.unusedVariables false
set_option linter.unusedSimpArgs false
namespace Go.Proofs.Ytpghehckojdgeaa
open Go.RowKit Go.Shelf Go.Sort

set_option maxRecDepth 100000 in
set_option maxHeartbeats 4000000 in
theorem refsaw_any (s : Nat → Nat) (sl : Value) (hsl : sl.oneCell' = true) (e : Ent) (W : World) :
    Calls Try.prog 34 #[tabV s sl, .agg #[.int .i64 (e.site : Int), .int .i64 (e.count : Int)]] W fun r w' => r = .returned (.bool (saw s e)) ∧ Below W.heap.size W w' := by
  obtain ⟨_, _, i, c, hi⟩ := e
  obtain ⟨V, hV⟩ : ∃ V, V = (W.alloc (.cells #[.int .i64 (s 0 : Int), .int .i64 (s 1 : Int), .int .i64 (s 2 : Int), .int .i64 (s 3 : Int), .int .i64 (s 4 : Int), .int .i64 (s 5 : Int), .int .i64 (s 6 : Int), .int .i64 (s 7 : Int), sl] 36)).alloc (.cells #[.int .i64 (i : Int), .int .i64 (c : Int)] 80) := ⟨_, rfl⟩
  have HB : Hid (Below W.heap.size W V) := Lib.hid (by rw [hV]; exact below2 W _ _)
  have h1 := nine_at (w := V) (T := W.heap.size) (s := s) (sl := sl) (ty := 36) (by rw [hV]; exact block1 W _ _) i hi
  obtain ⟨d0, d1⟩ := two_cells (w := V) (T := W.heap.size + 1) (a := .int .i64 (i : Int)) (b := .int .i64 (c : Int)) (ty := 80) (by rw [hV]; exact block2 W _ _)
  have HV := Lib.hid hV
  have i0 : (0 : Int) ≤ (i : Int) := by omega
  have i8 : (i : Int) < 8 := by omega
  clear hV
  unfold tabV
  show Calls _ _ _ _ (fun r w' => r = .returned (.bool (decide (c ≤ s i))) ∧ Below W.heap.size W w')
  generalize hx : s i = x at h1 ⊢
  have HX := Lib.hid hx
  clear hx
  by_cases hc : c ≤ x
  · have hq : decide ((c : Int) ≤ (x : Int)) = true := by simpa using hc
    have hn' : decide (c ≤ x) = true := by simpa using hc
    rw [hn']
    clear hn'
    go_enter Try.func34, Try.ntmps34
    go_upto_region 1 with fail
    rw [← HV.out]
    go_quiet (fail)
    go_wp2
    go_ret
    exact ⟨rfl, below_drewN HB.out _⟩
  · have hq : decide ((c : Int) ≤ (x : Int)) = false := by simpa using hc
    have hn' : decide (c ≤ x) = false := by simpa using hc
    rw [hn']
    clear hn'
    go_enter Try.func34, Try.ntmps34
    go_upto_region 1 with fail
    rw [← HV.out]
    go_quiet (fail)
    go_wp2
    go_ret
    exact ⟨rfl, below_drewN HB.out _⟩
end Go.Proofs.Ytpghehckojdgeaa

/- The document's Has. (By gen_rget.py.) -/
set_option linter.unusedVariables false
set_option linter.unusedSimpArgs false
namespace Go.Proofs.Ytpghehckojdgeaa
open Go.RowKit Go.Shelf Go.Sort

theorem sameE_eq {x y : Ent} (h : sameE x y = true) : x = y := by unfold sameE at h; simpa using h
theorem sameE_self (x : Ent) : sameE x x = true := by unfold sameE; simp
theorem hasE_mem {xs : List Ent} {x : Ent} (h : x ∈ xs) : hasE xs x = true := by unfold hasE; simpa using h
theorem hasE_not {xs : List Ent} {x : Ent} (h : ∀ i, i < xs.length → sameE xs[i]! x = false) : hasE xs x = false := by
  unfold hasE
  simp only [decide_eq_false_iff_not]
  intro hx
  obtain ⟨i, hi, e⟩ := List.getElem_of_mem hx
  have k := h i hi
  rw [getElem!_pos xs i hi, e, sameE_self] at k
  cases k
set_option maxRecDepth 100000 in
set_option maxHeartbeats 8000000 in
theorem refhas_any (s : Nat → Nat) (ao : Option Addr) (n c : Nat) (xs : List Ent) (x : Ent) (W : World) (h : El W ao n xs) (hn : n ≤ 900000) :
    Calls Try.prog 33 #[tabV s (.slice ao n c), .agg #[.string x.key, .string x.val, .int .i64 (x.site : Int), .int .i64 (x.count : Int)]] W fun e w' => e = .returned (.bool (hasE xs x)) ∧ Below W.heap.size W w' := by
  obtain ⟨V, hV⟩ : ∃ V, V = (W.alloc (.cells #[.int .i64 (s 0 : Int), .int .i64 (s 1 : Int), .int .i64 (s 2 : Int), .int .i64 (s 3 : Int), .int .i64 (s 4 : Int), .int .i64 (s 5 : Int), .int .i64 (s 6 : Int), .int .i64 (s 7 : Int), .slice ao n c] 36)).alloc (.cells #[.string x.key, .string x.val, .int .i64 (x.site : Int), .int .i64 (x.count : Int)] 82) := ⟨_, rfl⟩
  have HB : Hid (Below W.heap.size W V) := Lib.hid (by rw [hV]; exact below2 W _ _)
  have r8 : V.cell? ⟨W.heap.size, 8, none⟩ = some (.slice ao n c) := (nine_cells (s := s) (sl := .slice ao n c) (ty := 36) (by rw [hV]; exact block1 W _ _)).2.2.2.2.2.2.2.2
  obtain ⟨x0, x1, x2, x3⟩ := four_cells (w := V) (T := W.heap.size + 1) (ty := 82) (by rw [hV]; exact block2 W _ _)
  have HE := Lib.hid (h.keep HB.out)
  have HN := Lib.hid h.1
  have HV := Lib.hid hV
  have pn : (n : Int) ≤ 900000 := by omega
  clear hV h
  unfold tabV
  go_enter Try.func33, Try.ntmps33
  go_upto_region 1 with fail
  rw [← HV.out]
  go_wp2
  go_loopg [5] n (fun gg s5 wr => ∃ i : Nat, s5 = .int .i64 (i : Int) ∧ i ≤ n ∧ n - i ≤ gg ∧ Hid (∀ j, j < i → sameE xs[j]! x = false) ∧ Hid (Below V.heap.size V wr))
  case atStart => exact ⟨0, rfl, Nat.zero_le _, by omega, Lib.hid (fun j hj => absurd hj (Nat.not_lt_zero _)), Lib.hid (Below.refl _ _)⟩
  case round =>
    obtain ⟨j, rfl, hj, hgg, HL, HBr⟩ := hrel
    have j0 : (0 : Int) ≤ (j : Int) := by omega
    have q8 := cell_later HBr.out r8
    by_cases hlt : j < n
    · have hltz : (j : Int) < (n : Int) := by omega
      obtain ⟨g, hg, hc⟩ : ∃ g, ao = some ⟨g, 0, none⟩ ∧ At4 wr g (j * 4) xs[j]! := by
        have he := HE.out.keep HBr.out
        rcases he.2 with ⟨_, h0⟩ | ⟨g, hg, hr⟩
        · omega
        · exact ⟨g, hg, hr.2 j (by rw [HN.out]; exact hlt)⟩
      have y0 := cell_later HBr.out x0
      have y1 := cell_later HBr.out x1
      have y2 := cell_later HBr.out x2
      have y3 := cell_later HBr.out x3
      have HM : Hid (xs[j]! ∈ xs) := Lib.hid (by rw [getElem!_pos xs j (by rw [HN.out]; exact hlt)]; exact List.getElem_mem _)
      obtain ⟨y, hy⟩ : ∃ y, y = xs[j]! := ⟨_, rfl⟩
      rw [← hy] at hc HM
      have HY := Lib.hid hy
      clear hy
      obtain ⟨c0, c1, c2, c3⟩ := hc
      subst hg
      have hq := fun w => run_eql_ent y x w
      have hg := fun op a b w => guard_ent op a b #[.string y.key, .string y.val, .int .i64 (y.site : Int), .int .i64 (y.count : Int)] #[.string x.key, .string x.val, .int .i64 (x.site : Int), .int .i64 (x.count : Int)] w
      cases hs : sameE y x with
      | true =>
        rw [hs] at hq
        have HS := Lib.hid hs
        clear hs
        go_upto_region 4 with fail
        go_quiet (fail)
        go_wp2
        go_ret
        have e : hasE xs x = true := hasE_mem (sameE_eq HS.out ▸ HM.out)
        exact ⟨by rw [e]; rfl, HB.out.trans ((below_drewN HBr.out _).mono HB.out.size)⟩
      | false =>
        rw [hs] at hq
        have HS := Lib.hid hs
        clear hs
        go_upto_region 4 with fail
        go_quiet (fail)
        go_wp2
        go_roundg (n - (j + 1))
        case measure => omega
        case rel => exact ⟨j + 1, by go_num, by omega, Nat.le_refl _, Lib.hid (fun i hi => by
            by_cases e : i = j
            · rw [e, ← HY.out]; exact HS.out
            · exact HL.out i (by omega)), Lib.hid (below_drewN HBr.out _)⟩
    · obtain rfl : j = n := by omega
      have hltz : ¬ (j : Int) < (j : Int) := by omega
      go_wp2
      go_ret
      have e : hasE xs x = false := hasE_not fun i hi => HL.out i (by rw [← HN.out]; exact hi)
      exact ⟨by rw [e]; rfl, HB.out.trans (HBr.out.mono HB.out.size)⟩
end Go.Proofs.Ytpghehckojdgeaa

/- Blocks of the document's tables. No function of the program is walked here. (By gen_rref.py.) -/
set_option linter.unusedVariables false
set_option linter.unusedSimpArgs false
namespace Go.Proofs.Ytpghehckojdgeaa
open Go.RowKit Go.Shelf Go.Sort

/-- the document's table in block B -/
def RTab (w : World) (B : Nat) (s : Nat → Nat) (sl : Value) : Prop := w.heap[B]? = some (.cells #[.int .i64 (s 0 : Int), .int .i64 (s 1 : Int), .int .i64 (s 2 : Int), .int .i64 (s 3 : Int), .int .i64 (s 4 : Int), .int .i64 (s 5 : Int), .int .i64 (s 6 : Int), .int .i64 (s 7 : Int), sl] 36 (0, 0))
theorem RTab.keep {w w' : World} {B : Nat} {s : Nat → Nat} {sl : Value} (h : RTab w B s sl) (hb : Below w.heap.size w w') : RTab w' B s sl := row_keep hb h
theorem RTab.later {w w' : World} {B D : Nat} {s : Nat → Nat} {sl : Value} (h : RTab w B s sl) (hb : Below D w w') (hD : B < D) : RTab w' B s sl := row_later hb hD h
theorem RTab.put {w : World} {T i v : Nat} {s : Nat → Nat} {sl : Value} (h : RTab w T s sl) (hi : i < 8) : RTab (w.setCell ⟨T, i, none⟩ (.int .i64 (v : Int))) T (upd s i v) sl := by
  unfold RTab at *
  have : i = 0 ∨ i = 1 ∨ i = 2 ∨ i = 3 ∨ i = 4 ∨ i = 5 ∨ i = 6 ∨ i = 7 := by omega
  simp only [World.setCell, Array.getElem?_modify]
  rw [h]
  rcases this with rfl | rfl | rfl | rfl | rfl | rfl | rfl | rfl <;> simp [upd]
theorem RTab.slice {w : World} {T : Nat} {s : Nat → Nat} {sl sl' : Value} (h : RTab w T s sl) : RTab (w.setCell ⟨T, 8, none⟩ sl') T s sl' := by
  unfold RTab at *
  simp only [World.setCell, Array.getElem?_modify]
  rw [h]
  simp
theorem RTab.congr {w : World} {T : Nat} {s t : Nat → Nat} {sl : Value} (h : RTab w T s sl) (e : ∀ j, j < 8 → s j = t j) : RTab w T t sl := by
  unfold RTab at *
  rw [h, e 0 (by omega), e 1 (by omega), e 2 (by omega), e 3 (by omega), e 4 (by omega), e 5 (by omega), e 6 (by omega), e 7 (by omega)]
theorem RTab.all {w : World} {T : Nat} {s t : Nat → Nat} {sl sl' : Value} (h : RTab w T s sl) : RTab (((((((((w.setCell ⟨T, 0, none⟩ (.int .i64 (t 0 : Int))).setCell ⟨T, 1, none⟩ (.int .i64 (t 1 : Int))).setCell ⟨T, 2, none⟩ (.int .i64 (t 2 : Int))).setCell ⟨T, 3, none⟩ (.int .i64 (t 3 : Int))).setCell ⟨T, 4, none⟩ (.int .i64 (t 4 : Int))).setCell ⟨T, 5, none⟩ (.int .i64 (t 5 : Int))).setCell ⟨T, 6, none⟩ (.int .i64 (t 6 : Int))).setCell ⟨T, 7, none⟩ (.int .i64 (t 7 : Int))).setCell ⟨T, 8, none⟩ sl') T t sl' := set_nine h
theorem OwnE.el {w : World} {base n : Nat} {v : Value} {xs : List Ent} (h : OwnE w base v n xs) : ∃ ao cap, v = .slice ao n cap ∧ El w ao n xs ∧ n ≤ cap ∧ cap ≤ maxLen := by
  by_cases h0 : 0 < n
  · obtain ⟨g, cap, hv, hel, h1, h2⟩ := h.out h0
    exact ⟨_, cap, hv, hel, h1, h2⟩
  · obtain rfl : n = 0 := by omega
    rcases h.2.2 with ⟨rfl, _⟩ | ⟨g, cap, cur, rfl, hb, hg, hnc, hcm, hcs, ht⟩
    · exact ⟨none, 0, rfl, ⟨h.1, .inl ⟨rfl, rfl⟩⟩, Nat.le_refl _, Nat.zero_le _⟩
    · have e := List.eq_nil_of_length_eq_zero h.1
      subst e
      exact ⟨_, cap, rfl, ⟨rfl, .inr ⟨g, rfl, (Array.getElem?_eq_some_iff.1 hg).1, fun i hi => absurd hi (Nat.not_lt_zero _)⟩⟩, hnc, hcm⟩
/-- a table of the document is returned -/
def OutR (W : World) (T : Tab) (e : Ending) (w' : World) : Prop := ∃ ao n cap, e = .returned (tabV T.seen (.slice ao n cap)) ∧ El w' ao n T.L ∧ n ≤ cap ∧ cap ≤ maxLen ∧ Below W.heap.size W w'
end Go.Proofs.Ytpghehckojdgeaa

/- The document's Alike and Same. (By gen_rref.py.) -/
set_option linter.unusedVariables false
set_option linter.unusedSimpArgs false
namespace Go.Proofs.Ytpghehckojdgeaa
open Go.RowKit Go.Shelf Go.Sort

theorem eqL_not {xs ys : List Ent} {i : Nat} (hi : i < xs.length) (hi' : i < ys.length) (h : sameE xs[i]! ys[i]! = false) : eqL xs ys = false := by
  unfold eqL
  simp only [decide_eq_false_iff_not]
  intro e
  subst e
  rw [sameE_self] at h
  cases h
theorem eqL_len {xs ys : List Ent} (h : xs.length ≠ ys.length) : eqL xs ys = false := by
  unfold eqL
  simp only [decide_eq_false_iff_not]
  intro e
  exact h (by rw [e])
theorem eqL_all {xs ys : List Ent} (hl : xs.length = ys.length) (h : ∀ i, i < xs.length → sameE xs[i]! ys[i]! = true) : eqL xs ys = true := by
  unfold eqL
  simp only [decide_eq_true_eq]
  refine List.ext_getElem hl fun i h1 h2 => ?_
  have := sameE_eq (h i h1)
  rwa [getElem!_pos xs i h1, getElem!_pos ys i h2] at this
set_option maxRecDepth 100000 in
set_option maxHeartbeats 8000000 in
theorem alike_any (ao ao' : Option Addr) (n c m c' : Nat) (xs ys : List Ent) (W : World) (h1 : El W ao n xs) (h2 : El W ao' m ys) (hn : n ≤ 900000) (hm : m ≤ 900000) :
    Calls Try.prog 31 #[.slice ao n c, .slice ao' m c'] W fun e w' => e = .returned (.bool (eqL xs ys)) ∧ Below W.heap.size W w' := by
  have HX := Lib.hid h1.1
  have HY := Lib.hid h2.1
  have H1 := Lib.hid h1
  have H2 := Lib.hid h2
  clear h1 h2
  by_cases hnm : n = m
  · subst hnm
    have pn : (n : Int) ≤ 900000 := by omega
    go_enter Try.func31, Try.ntmps31
    go_wp2
    go_loopg [5] n (fun gg s5 wr => ∃ i : Nat, s5 = .int .i64 (i : Int) ∧ i ≤ n ∧ n - i ≤ gg ∧ Hid (∀ j, j < i → sameE xs[j]! ys[j]! = true) ∧ Hid (Below W.heap.size W wr))
    case atStart => exact ⟨0, rfl, Nat.zero_le _, by omega, Lib.hid (fun j hj => absurd hj (Nat.not_lt_zero _)), Lib.hid (Below.refl _ _)⟩
    case round =>
      obtain ⟨i, rfl, hi, hgg, HL, HB⟩ := hrel
      have t0 : (0 : Int) ≤ (i : Int) := by omega
      by_cases hlt : i < n
      · have t1 : (i : Int) < (n : Int) := by omega
        obtain ⟨g, hg, a1⟩ : ∃ g, ao = some ⟨g, 0, none⟩ ∧ At4 wr g (i * 4) xs[i]! := by
          have he := H1.out.keep HB.out
          rcases he.2 with ⟨_, h0⟩ | ⟨g, hg, hr⟩
          · omega
          · exact ⟨g, hg, hr.2 i (by rw [HX.out]; exact hlt)⟩
        obtain ⟨g', hg', a2⟩ : ∃ g, ao' = some ⟨g, 0, none⟩ ∧ At4 wr g (i * 4) ys[i]! := by
          have he := H2.out.keep HB.out
          rcases he.2 with ⟨_, h0⟩ | ⟨g, hg, hr⟩
          · omega
          · exact ⟨g, hg, hr.2 i (by rw [HY.out]; exact hlt)⟩
        have HNE : Hid (sameE xs[i]! ys[i]! = false → eqL xs ys = false) := Lib.hid (eqL_not (by rw [HX.out]; exact hlt) (by rw [HY.out]; exact hlt))
        have HXI : Hid (∀ b, sameE xs[i]! ys[i]! = b → sameE xs[i]! ys[i]! = b) := Lib.hid (fun b e => e)
        obtain ⟨x, hx⟩ : ∃ x, x = xs[i]! := ⟨_, rfl⟩
        obtain ⟨y, hy⟩ : ∃ y, y = ys[i]! := ⟨_, rfl⟩
        rw [← hx, ← hy] at HNE
        rw [← hx] at a1
        rw [← hy] at a2
        have HXE := Lib.hid hx
        have HYE := Lib.hid hy
        clear hx hy HXI
        subst hg hg'
        obtain ⟨p0, p1, p2, p3⟩ := a1
        obtain ⟨q0, q1, q2, q3⟩ := a2
        have hq := fun w => run_neq_ent x y w
        have hg2 := fun a b w => guard_ent .neq a b #[.string x.key, .string x.val, .int .i64 (x.site : Int), .int .i64 (x.count : Int)] #[.string y.key, .string y.val, .int .i64 (y.site : Int), .int .i64 (y.count : Int)] w
        cases hs : sameE x y with
        | false =>
          rw [hs] at hq
          have HS := Lib.hid hs
          clear hs
          go_upto_region 6 with fail
          go_quiet (fail)
          go_wp2
          go_ret
          exact ⟨by rw [HNE.out HS.out]; rfl, below_drewN HB.out _⟩
        | true =>
          rw [hs] at hq
          have HS := Lib.hid hs
          clear hs
          go_upto_region 6 with fail
          go_quiet (fail)
          go_wp2
          go_roundg (n - (i + 1))
          case measure => omega
          case rel => exact ⟨i + 1, by go_num, by omega, Nat.le_refl _, Lib.hid (fun j hj => by
              by_cases e : j = i
              · rw [e, ← HXE.out, ← HYE.out]; exact HS.out
              · exact HL.out j (by omega)), Lib.hid (below_drewN HB.out _)⟩
      · obtain rfl : i = n := by omega
        have t1 : ¬ (i : Int) < (i : Int) := by omega
        go_wp2
        go_ret
        exact ⟨by rw [eqL_all (HX.out.trans HY.out.symm) (fun j hj => HL.out j (by rw [← HX.out]; exact hj))]; rfl, HB.out⟩
  · have e : eqL xs ys = false := eqL_len (by rw [HX.out, HY.out]; exact hnm)
    rw [e]
    have q : ((n : Int) == (m : Int)) = false := beq_eq_false_iff_ne.2 (by omega)
    clear hnm e
    go_enter Try.func31, Try.ntmps31
    go_wp2
    go_ret
    exact ⟨rfl, Below.refl _ _⟩
set_option maxRecDepth 100000 in
set_option maxHeartbeats 8000000 in
theorem refsame_any (s t : Nat → Nat) (ao ao' : Option Addr) (n c m c' : Nat) (xs ys : List Ent) (W : World) (h1 : El W ao n xs) (h2 : El W ao' m ys) (hn : n ≤ 900000) (hm : m ≤ 900000) :
    Calls Try.prog 15 #[tabV s (.slice ao n c), tabV t (.slice ao' m c')] W fun e w' => e = .returned (.bool (sameN s t && eqL xs ys)) ∧ Below W.heap.size W w' := by
  have hq := fun w => run_eql_nums 30 (by kernel_rfl) s t w
  obtain ⟨V, hV⟩ : ∃ V, V = (W.alloc (.cells #[.int .i64 (s 0 : Int), .int .i64 (s 1 : Int), .int .i64 (s 2 : Int), .int .i64 (s 3 : Int), .int .i64 (s 4 : Int), .int .i64 (s 5 : Int), .int .i64 (s 6 : Int), .int .i64 (s 7 : Int), .slice ao n c] 36)).alloc (.cells #[.int .i64 (t 0 : Int), .int .i64 (t 1 : Int), .int .i64 (t 2 : Int), .int .i64 (t 3 : Int), .int .i64 (t 4 : Int), .int .i64 (t 5 : Int), .int .i64 (t 6 : Int), .int .i64 (t 7 : Int), .slice ao' m c'] 36) := ⟨_, rfl⟩
  have HB : Hid (Below W.heap.size W V) := Lib.hid (by rw [hV]; exact below2 W _ _)
  have hc := alike_any ao ao' n c m c' xs ys V (h1.keep HB.out) (h2.keep HB.out) hn hm
  obtain ⟨r0, r1, r2, r3, r4, r5, r6, r7, r8⟩ := cell_nine (w := V) (T := W.heap.size) (ty := 36) (by rw [hV]; exact block1 W _ _)
  obtain ⟨u0, u1, u2, u3, u4, u5, u6, u7, u8⟩ := cell_nine (w := V) (T := W.heap.size + 1) (ty := 36) (by rw [hV]; exact block2 W _ _)
  have HV := Lib.hid hV
  clear hV h1 h2
  unfold tabV
  generalize eqL xs ys = b at hc ⊢
  cases hb : sameN s t
  · rw [hb] at hq
    clear hb hc
    go_enter Try.func15, Try.ntmps15
    go_upto_region 1 with fail
    rw [← HV.out]
    go_wp2
    go_ret
    exact ⟨rfl, HB.out⟩
  · rw [hb] at hq
    have HC := Lib.hid hc
    clear hb hc
    go_enter Try.func15, Try.ntmps15
    go_upto_region 1 with fail
    rw [← HV.out]
    go_wp2_with (go_at_call 31; refine HC.out.mono ?_; rintro e w1 ⟨rfl, hb1⟩; have HB1 := Lib.hid hb1; clear hb1)
    go_ret
    exact ⟨by simp, HB.out.trans (HB1.out.mono HB.out.size)⟩
end Go.Proofs.Ytpghehckojdgeaa
