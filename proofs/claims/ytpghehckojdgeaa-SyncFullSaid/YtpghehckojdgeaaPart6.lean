/- Part 6 of the contracts: NSet, NFind, NTable, NPut, NRem, NDel, NLose. -/
import Derived.Deep.RegionLaw
import Derived.IntWalk
import Derived.Test.YtpghehckojdgeaaPart5

/- A table stored into a net; what a Put of a table returns, whatever it is given. (By gen_nset.py.) -/
set_option linter.unusedVariables false
set_option linter.unusedSimpArgs false
namespace Go.Proofs.Ytpghehckojdgeaa
open Go.RowKit Go.Shelf Go.Sort

/-- nine stores of a table -/
def set9 (w : World) (g o : Nat) (x : Slot) : World := (((((((((w.setCell ⟨g, o, none⟩ (.int .i64 (x.T.seen 0 : Int))).setCell ⟨g, o + 1, none⟩ (.int .i64 (x.T.seen 1 : Int))).setCell ⟨g, o + 2, none⟩ (.int .i64 (x.T.seen 2 : Int))).setCell ⟨g, o + 3, none⟩ (.int .i64 (x.T.seen 3 : Int))).setCell ⟨g, o + 4, none⟩ (.int .i64 (x.T.seen 4 : Int))).setCell ⟨g, o + 5, none⟩ (.int .i64 (x.T.seen 5 : Int))).setCell ⟨g, o + 6, none⟩ (.int .i64 (x.T.seen 6 : Int))).setCell ⟨g, o + 7, none⟩ (.int .i64 (x.T.seen 7 : Int))).setCell ⟨g, o + 8, none⟩ (.slice x.ao x.n x.c))
theorem flatT_set (l : List Slot) (i : Nat) (x : Slot) : flatT (l.set i x) = (((((((((flatT l).set (i * 9) (.int .i64 (x.T.seen 0 : Int))).set (i * 9 + 1) (.int .i64 (x.T.seen 1 : Int))).set (i * 9 + 2) (.int .i64 (x.T.seen 2 : Int))).set (i * 9 + 3) (.int .i64 (x.T.seen 3 : Int))).set (i * 9 + 4) (.int .i64 (x.T.seen 4 : Int))).set (i * 9 + 5) (.int .i64 (x.T.seen 5 : Int))).set (i * 9 + 6) (.int .i64 (x.T.seen 6 : Int))).set (i * 9 + 7) (.int .i64 (x.T.seen 7 : Int))).set (i * 9 + 8) (.slice x.ao x.n x.c) := by
  apply List.ext_getElem?
  intro j
  have hj : j = j / 9 * 9 + j % 9 := by omega
  have hc : j % 9 < 9 := by omega
  rw [hj]
  generalize j / 9 = q
  generalize j % 9 = c at hc
  rw [flatT_get _ _ _ hc]
  by_cases hq : q = i
  · subst hq
    have hl := flatT_len l
    by_cases hql : q < l.length
    · have h9 : c = 0 ∨ c = 1 ∨ c = 2 ∨ c = 3 ∨ c = 4 ∨ c = 5 ∨ c = 6 ∨ c = 7 ∨ c = 8 := by omega
      rw [List.getElem?_set_self hql]
      have L : ∀ a, a < 9 → q * 9 + a < (flatT l).length := fun a ha => by omega
      have L0 := L 0 (by omega)
      rw [Nat.add_zero] at L0
      rcases h9 with rfl | rfl | rfl | rfl | rfl | rfl | rfl | rfl | rfl
      all_goals (simp [List.getElem?_set, slotC, List.length_set, L0, L]; done)
    · rw [List.set_eq_of_length_le (by omega), List.getElem?_eq_none (by omega)]
      have : ∀ a, (flatT l).length ≤ q * 9 + a := fun a => by omega
      symm
      apply List.getElem?_eq_none
      simp only [List.length_set]
      exact this c
  · rw [List.getElem?_set_ne (Ne.symm hq), ← flatT_get _ _ _ hc]
    symm
    have N : ∀ a, a < 9 → i * 9 + a ≠ q * 9 + c := fun a ha => by omega
    have N0 := N 0 (by omega)
    rw [Nat.add_zero] at N0
    rw [List.getElem?_set_ne (N 8 (by omega)), List.getElem?_set_ne (N 7 (by omega)), List.getElem?_set_ne (N 6 (by omega)), List.getElem?_set_ne (N 5 (by omega)), List.getElem?_set_ne (N 4 (by omega)), List.getElem?_set_ne (N 3 (by omega)), List.getElem?_set_ne (N 2 (by omega)), List.getElem?_set_ne (N 1 (by omega)), List.getElem?_set_ne N0]
theorem setCell_row {w : World} {g o : Nat} {l : List Value} {t : TypeId} (h : w.heap[g]? = some (.cells l.toArray t (0, 0))) (v : Value) : (w.setCell ⟨g, o, none⟩ v).heap[g]? = some (.cells (l.set o v).toArray t (0, 0)) := by
  simp only [World.setCell, Array.getElem?_modify]
  rw [h]
  simp
theorem set9_row {w : World} {g i : Nat} {l : List Slot} {t : TypeId} (x : Slot) (h : w.heap[g]? = some (.cells (flatT l).toArray t (0, 0))) : (set9 w g (i * 9) x).heap[g]? = some (.cells (flatT (l.set i x)).toArray t (0, 0)) := by
  rw [flatT_set]
  unfold set9
  exact setCell_row (setCell_row (setCell_row (setCell_row (setCell_row (setCell_row (setCell_row (setCell_row (setCell_row h _) _) _) _) _) _) _) _) _
theorem set9_frm (w : World) (g o : Nat) (x : Slot) : Frm (fun j => j = g) w (set9 w g o x) := by
  have h0 : Frm (fun j => j = g) w w := ⟨rfl, rfl, rfl, Nat.le_refl _, fun _ _ _ => rfl⟩
  unfold set9
  exact ((((((((h0.setCell (p := ⟨g, o, none⟩) (.inl rfl) _).setCell (p := ⟨g, o + 1, none⟩) (.inl rfl) _).setCell (p := ⟨g, o + 2, none⟩) (.inl rfl) _).setCell (p := ⟨g, o + 3, none⟩) (.inl rfl) _).setCell (p := ⟨g, o + 4, none⟩) (.inl rfl) _).setCell (p := ⟨g, o + 5, none⟩) (.inl rfl) _).setCell (p := ⟨g, o + 6, none⟩) (.inl rfl) _).setCell (p := ⟨g, o + 7, none⟩) (.inl rfl) _).setCell (p := ⟨g, o + 8, none⟩) (.inl rfl) _
theorem noStr_g {W : World} {m b g : Nat} {lo : Option Addr} {lc : Nat} {ts : List Slot} {ms : List LSlot} (h : NetR W m b g lo lc ts ms) : NoStr W (fun j => j = g) := fun j hj e => h.noStr j hj (.inr (.inl e))
theorem NetR.put9 {W : World} {m b g : Nat} {lo : Option Addr} {lc : Nat} {ts : List Slot} {ms : List LSlot} (h : NetR W m b g lo lc ts ms) {i : Nat} (hi : i < ts.length) {x : Slot} (hx : Held W m x.T x.ao x.n) : NetR (set9 W g (i * 9) x) m b g lo lc (ts.set i x) ms := by
  have hf := set9_frm W g (i * 9) x
  have hn := noStr_g h
  refine ⟨?_, set9_row x h.tb, ⟨h.lt.1, ?_⟩, h.bg, h.lb, h.lg, fun j o s e => ?_, fun j hj => ?_, fun j hj => (h.mail j hj).frm hf hn, fun j hj => by rw [List.length_set]; exact h.idx j hj, by rw [List.length_set]; exact h.pos, by rw [List.length_set]; exact h.few, h.most⟩
  · rw [List.length_set]; exact hf.row h.hd h.bg
  · rcases h.lt.2 with h2 | ⟨g', cap', cur, h3, h4, h5, h6⟩
    · exact .inl h2
    · refine .inr ⟨g', cap', cur, h3, h4, hf.row h5 (fun e => ?_), h6⟩
      subst e
      cases h3
      exact h.lg 0 none rfl
  · obtain ⟨z, hz⟩ := h.li j o s e
    exact ⟨z, hf.cell hz (fun e' => h.lg o s (by rw [e, e']))⟩
  · rw [List.length_set] at hj
    rw [set_at hj]
    split
    · exact hx.frm hf hn
    · exact (h.held j hj).frm hf hn

theorem drew_below (w : World) : Below w.heap.size w w.drew := (Below.refl _ _).drew
/-- .. behind a draw, seen from the beginning -/
theorem NetR.store9 {W0 : World} {W : World} {m b g : Nat} {lo : Option Addr} {lc : Nat} {ts : List Slot} {ms : List LSlot} (h : NetR W m b g lo lc ts ms) {i : Nat} (hi : i < ts.length) {x : Slot} (hx : Held W m x.T x.ao x.n) (hb : Below W0.heap.size W0 W) : NetR (set9 W g (i * 9) x).drew m b g lo lc (ts.set i x) ms ∧ Frm (fun j => j = g) W0 (set9 W g (i * 9) x).drew :=
  ⟨(h.put9 hi hx).keep (drew_below _), ((Frm.of_below hb).trans (set9_frm W g (i * 9) x) (fun _ _ e => e)).then_below (drew_below _)⟩

theorem NetR.store9' {W0 : World} {W : World} {m b g : Nat} {lo : Option Addr} {lc : Nat} {ts : List Slot} {ms : List LSlot} (h : NetR W m b g lo lc ts ms) {i : Nat} (hi : i < ts.length) {x : Slot} (hx : Held W m x.T x.ao x.n) (hb : Below W0.heap.size W0 W) : NetR (set9 W g (i * 9) x) m b g lo lc (ts.set i x) ms ∧ Frm (fun j => j = g) W0 (set9 W g (i * 9) x) :=
  ⟨h.put9 hi hx, (Frm.of_below hb).trans (set9_frm W g (i * 9) x) (fun _ _ e => e)⟩

/-- what a Put of a table returns -/
noncomputable def putR (T : Tab) (z : Int) (k v : ByteArray) : Tab × Int :=
  if h : 0 ≤ z ∧ z.toNat < 8 then (if (1 ≤ k.size ∧ k.size ≤ 64) ∧ v.size ≤ 64 then (if room T.L k = true then (putT T z.toNat h.2 k v, 0) else (Tab.none, 5)) else (Tab.none, 2)) else (Tab.none, 80)
theorem putR_site {T : Tab} {z : Int} {k v : ByteArray} (h : z < 0 ∨ 8 ≤ z) : putR T z k v = (Tab.none, 80) := by unfold putR; rw [dif_neg (by omega)]
theorem putR_arg {T : Tab} {i : Nat} {k v : ByteArray} (h : i < 8) (hk : ¬ ((1 ≤ k.size ∧ k.size ≤ 64) ∧ v.size ≤ 64)) : putR T i k v = (Tab.none, 2) := by unfold putR; rw [dif_pos ⟨by omega, by simpa using h⟩, if_neg hk]
theorem putR_full {T : Tab} {i : Nat} {k v : ByteArray} (h : i < 8) (hk : (1 ≤ k.size ∧ k.size ≤ 64) ∧ v.size ≤ 64) (hr : room T.L k = false) : putR T i k v = (Tab.none, 5) := by unfold putR; rw [dif_pos ⟨by omega, by simpa using h⟩, if_pos hk, if_neg (by rw [hr]; simp)]
theorem putR_ok {T : Tab} {i : Nat} {k v : ByteArray} (h : i < 8) (hk : (1 ≤ k.size ∧ k.size ≤ 64) ∧ v.size ≤ 64) (hr : room T.L k = true) : putR T i k v = (putT T i h k v, 0) := by
  unfold putR; rw [dif_pos ⟨by omega, by simpa using h⟩, if_pos hk, if_pos hr]; rfl
theorem putAll {W : World} {m : Nat} {T : Tab} {ao : Option Addr} {n : Nat} (c : Nat) (h : Held W m T ao n) (hm : m ≤ 40000) (z : Int) (k v : ByteArray) :
    Calls Try.prog 23 #[.agg #[.int .i64 (T.seen 0 : Int), .int .i64 (T.seen 1 : Int), .int .i64 (T.seen 2 : Int), .int .i64 (T.seen 3 : Int), .int .i64 (T.seen 4 : Int), .int .i64 (T.seen 5 : Int), .int .i64 (T.seen 6 : Int), .int .i64 (T.seen 7 : Int), .slice ao n c], .int .i64 z, .string k, .string v] W fun e w' => ∃ x : Slot, e = .returned (.tuple #[.agg #[.int .i64 (x.T.seen 0 : Int), .int .i64 (x.T.seen 1 : Int), .int .i64 (x.T.seen 2 : Int), .int .i64 (x.T.seen 3 : Int), .int .i64 (x.T.seen 4 : Int), .int .i64 (x.T.seen 5 : Int), .int .i64 (x.T.seen 6 : Int), .int .i64 (x.T.seen 7 : Int), .slice x.ao x.n x.c], .int .i64 (putR T z k v).2]) ∧ Hid (x.T = (putR T z k v).1) ∧ Held w' (m + 1) x.T x.ao x.n ∧ Below W.heap.size W w' := by
  have err : ∀ er : Int, putR T z k v = (Tab.none, er) → (Calls Try.prog 23 #[.agg #[.int .i64 (T.seen 0 : Int), .int .i64 (T.seen 1 : Int), .int .i64 (T.seen 2 : Int), .int .i64 (T.seen 3 : Int), .int .i64 (T.seen 4 : Int), .int .i64 (T.seen 5 : Int), .int .i64 (T.seen 6 : Int), .int .i64 (T.seen 7 : Int), .slice ao n c], .int .i64 z, .string k, .string v] W fun e w' => e = .returned (.tuple #[zeroT, .int .i64 er]) ∧ Below W.heap.size W w') →
      Calls Try.prog 23 #[.agg #[.int .i64 (T.seen 0 : Int), .int .i64 (T.seen 1 : Int), .int .i64 (T.seen 2 : Int), .int .i64 (T.seen 3 : Int), .int .i64 (T.seen 4 : Int), .int .i64 (T.seen 5 : Int), .int .i64 (T.seen 6 : Int), .int .i64 (T.seen 7 : Int), .slice ao n c], .int .i64 z, .string k, .string v] W fun e w' => ∃ x : Slot, e = .returned (.tuple #[.agg #[.int .i64 (x.T.seen 0 : Int), .int .i64 (x.T.seen 1 : Int), .int .i64 (x.T.seen 2 : Int), .int .i64 (x.T.seen 3 : Int), .int .i64 (x.T.seen 4 : Int), .int .i64 (x.T.seen 5 : Int), .int .i64 (x.T.seen 6 : Int), .int .i64 (x.T.seen 7 : Int), .slice x.ao x.n x.c], .int .i64 (putR T z k v).2]) ∧ Hid (x.T = (putR T z k v).1) ∧ Held w' (m + 1) x.T x.ao x.n ∧ Below W.heap.size W w' := fun er hr hc =>
    hc.mono fun e w' ⟨he, hb'⟩ => ⟨⟨Tab.none, none, 0, 0⟩, by rw [hr]; exact he, by rw [hr]; exact Lib.hid rfl, (Held.none w').more (Nat.zero_le _), hb'⟩
  by_cases hs : z < 0 ∨ 8 ≤ z
  · exact err 80 (putR_site hs) (put_site T.seen ao n c z k v W hs)
  · obtain ⟨i, rfl⟩ := Int.eq_ofNat_of_zero_le (show 0 ≤ z by omega)
    have hi : i < 8 := by omega
    by_cases hk : (1 ≤ k.size ∧ k.size ≤ 64) ∧ v.size ≤ 64
    · cases hr : room T.L k
      · exact err 5 (putR_full hi hk hr) (putA_full c h hm i hi k v hk.1 hk.2 hr)
      · refine (putA c h hm i hi k v hk.1 hk.2 hr).mono ?_
        rintro e w' ⟨T4, a4, n4, c4, he, hT, hh, hb'⟩
        have e5 : putR T ((i : Nat) : Int) k v = (putT T i hi k v, 0) := putR_ok hi hk hr
        exact ⟨⟨T4, a4, n4, c4⟩, by rw [e5]; exact he, by rw [e5]; exact hT, hh, hb'⟩
    · exact err 2 (putR_arg hi hk) (put_arg T.seen ao n c i k v W (by omega) hk)
end Go.Proofs.Ytpghehckojdgeaa

/- A net's isUsable, find, findLetter, Sites. (By gen_nfind.py.) -/
set_option linter.unusedVariables false
set_option linter.unusedSimpArgs false
namespace Go.Proofs.Ytpghehckojdgeaa
open Go.RowKit Go.Shelf Go.Sort

set_option maxRecDepth 100000 in
set_option maxHeartbeats 2000000 in
theorem usable_raw (b g k : Nat) (w : World) (c0 : w.cell? ⟨b, 0, none⟩ = some (.slice (some ⟨g, 0, none⟩) k k)) (hk : (1 : Int) ≤ (k : Int)) :
    Calls Try.prog 67 #[.pointer (some ⟨b, 0, none⟩)] w fun e w' => e = .returned (.bool true) ∧ w = w' := by
  have d1 : (0 : Int) < (k : Int) := by omega
  have d2 : decide ((0 : Int) < (k : Int)) = true := by simpa using d1
  have d3 : decide (0 < k) = true := by simp; omega
  go_enter Try.func67, Try.ntmps67
  go_wp2
  go_ret
  exact ⟨rfl, rfl⟩

set_option maxRecDepth 100000 in
set_option maxHeartbeats 2000000 in
theorem find1_in (b g k q : Nat) (z0 : Int) (w : World) (c0 : w.cell? ⟨b, 0, none⟩ = some (.slice (some ⟨g, 0, none⟩) k k)) (hk : (1 : Int) ≤ (k : Int)) (q0 : w.cell? ⟨q, 0, none⟩ = some (.int .i64 z0)) (h00 : 0 ≤ z0) (h01 : z0 < (k : Int)) :
    Calls Try.prog 66 #[.pointer (some ⟨b, 0, none⟩), .slice (some ⟨q, 0, none⟩) 1 1] w fun e w' => e = .returned (.int .i64 0) ∧ w = w' := by
  have a0 : ¬ z0 < 0 := by omega
  have b0 : decide (z0 < 0) = false := by simpa using h00
  have d0 : ¬ (k : Int) ≤ z0 := by omega
  have e0 : decide ((k : Int) ≤ z0) = false := by simpa using h01
  go_enter Try.func66, Try.ntmps66
  go_wp2_with (go_at_call 67; refine (usable_raw b g k _ c0 hk).mono ?_; rintro e w1 ⟨rfl, rfl⟩)
  refine wp_loop_rounds 2 ?_
  rw [rounds_succ]
  go_wp2
  rw [rounds_succ]
  go_wp2
  go_ret
  exact ⟨rfl, rfl⟩

set_option maxRecDepth 100000 in
set_option maxHeartbeats 2000000 in
theorem find1_lo (b g k q : Nat) (z0 : Int) (w : World) (c0 : w.cell? ⟨b, 0, none⟩ = some (.slice (some ⟨g, 0, none⟩) k k)) (hk : (1 : Int) ≤ (k : Int)) (q0 : w.cell? ⟨q, 0, none⟩ = some (.int .i64 z0)) (h00 : z0 < 0) :
    Calls Try.prog 66 #[.pointer (some ⟨b, 0, none⟩), .slice (some ⟨q, 0, none⟩) 1 1] w fun e w' => e = .returned (.int .i64 80) ∧ w = w' := by
  have b0 : decide (z0 < 0) = true := by simpa using h00
  go_enter Try.func66, Try.ntmps66
  go_wp2_with (go_at_call 67; refine (usable_raw b g k _ c0 hk).mono ?_; rintro e w1 ⟨rfl, rfl⟩)
  refine wp_loop_rounds 1 ?_
  rw [rounds_succ]
  go_wp2
  go_ret
  exact ⟨rfl, rfl⟩

set_option maxRecDepth 100000 in
set_option maxHeartbeats 2000000 in
theorem find1_hi (b g k q : Nat) (z0 : Int) (w : World) (c0 : w.cell? ⟨b, 0, none⟩ = some (.slice (some ⟨g, 0, none⟩) k k)) (hk : (1 : Int) ≤ (k : Int)) (q0 : w.cell? ⟨q, 0, none⟩ = some (.int .i64 z0)) (h01 : (k : Int) ≤ z0) :
    Calls Try.prog 66 #[.pointer (some ⟨b, 0, none⟩), .slice (some ⟨q, 0, none⟩) 1 1] w fun e w' => e = .returned (.int .i64 80) ∧ w = w' := by
  have a0 : ¬ z0 < 0 := by omega
  have b0 : decide (z0 < 0) = false := by simp; omega
  have e0 : decide ((k : Int) ≤ z0) = true := by simpa using h01
  go_enter Try.func66, Try.ntmps66
  go_wp2_with (go_at_call 67; refine (usable_raw b g k _ c0 hk).mono ?_; rintro e w1 ⟨rfl, rfl⟩)
  refine wp_loop_rounds 1 ?_
  rw [rounds_succ]
  go_wp2
  go_ret
  exact ⟨rfl, rfl⟩

set_option maxRecDepth 100000 in
set_option maxHeartbeats 2000000 in
theorem find2_in (b g k q : Nat) (z0 z1 : Int) (w : World) (c0 : w.cell? ⟨b, 0, none⟩ = some (.slice (some ⟨g, 0, none⟩) k k)) (hk : (1 : Int) ≤ (k : Int)) (q0 : w.cell? ⟨q, 0, none⟩ = some (.int .i64 z0)) (q1 : w.cell? ⟨q, 1, none⟩ = some (.int .i64 z1)) (h00 : 0 ≤ z0) (h01 : z0 < (k : Int)) (h10 : 0 ≤ z1) (h11 : z1 < (k : Int)) :
    Calls Try.prog 66 #[.pointer (some ⟨b, 0, none⟩), .slice (some ⟨q, 0, none⟩) 2 2] w fun e w' => e = .returned (.int .i64 0) ∧ w = w' := by
  have a0 : ¬ z0 < 0 := by omega
  have b0 : decide (z0 < 0) = false := by simpa using h00
  have d0 : ¬ (k : Int) ≤ z0 := by omega
  have e0 : decide ((k : Int) ≤ z0) = false := by simpa using h01
  have a1 : ¬ z1 < 0 := by omega
  have b1 : decide (z1 < 0) = false := by simpa using h10
  have d1 : ¬ (k : Int) ≤ z1 := by omega
  have e1 : decide ((k : Int) ≤ z1) = false := by simpa using h11
  go_enter Try.func66, Try.ntmps66
  go_wp2_with (go_at_call 67; refine (usable_raw b g k _ c0 hk).mono ?_; rintro e w1 ⟨rfl, rfl⟩)
  refine wp_loop_rounds 3 ?_
  rw [rounds_succ]
  go_wp2
  rw [rounds_succ]
  go_wp2
  rw [rounds_succ]
  go_wp2
  go_ret
  exact ⟨rfl, rfl⟩

set_option maxRecDepth 100000 in
set_option maxHeartbeats 2000000 in
theorem find2_lo (b g k q : Nat) (z0 z1 : Int) (w : World) (c0 : w.cell? ⟨b, 0, none⟩ = some (.slice (some ⟨g, 0, none⟩) k k)) (hk : (1 : Int) ≤ (k : Int)) (q0 : w.cell? ⟨q, 0, none⟩ = some (.int .i64 z0)) (q1 : w.cell? ⟨q, 1, none⟩ = some (.int .i64 z1)) (h00 : z0 < 0) :
    Calls Try.prog 66 #[.pointer (some ⟨b, 0, none⟩), .slice (some ⟨q, 0, none⟩) 2 2] w fun e w' => e = .returned (.int .i64 80) ∧ w = w' := by
  have b0 : decide (z0 < 0) = true := by simpa using h00
  go_enter Try.func66, Try.ntmps66
  go_wp2_with (go_at_call 67; refine (usable_raw b g k _ c0 hk).mono ?_; rintro e w1 ⟨rfl, rfl⟩)
  refine wp_loop_rounds 1 ?_
  rw [rounds_succ]
  go_wp2
  go_ret
  exact ⟨rfl, rfl⟩

set_option maxRecDepth 100000 in
set_option maxHeartbeats 2000000 in
theorem find2_hi (b g k q : Nat) (z0 z1 : Int) (w : World) (c0 : w.cell? ⟨b, 0, none⟩ = some (.slice (some ⟨g, 0, none⟩) k k)) (hk : (1 : Int) ≤ (k : Int)) (q0 : w.cell? ⟨q, 0, none⟩ = some (.int .i64 z0)) (q1 : w.cell? ⟨q, 1, none⟩ = some (.int .i64 z1)) (h01 : (k : Int) ≤ z0) :
    Calls Try.prog 66 #[.pointer (some ⟨b, 0, none⟩), .slice (some ⟨q, 0, none⟩) 2 2] w fun e w' => e = .returned (.int .i64 80) ∧ w = w' := by
  have a0 : ¬ z0 < 0 := by omega
  have b0 : decide (z0 < 0) = false := by simp; omega
  have e0 : decide ((k : Int) ≤ z0) = true := by simpa using h01
  go_enter Try.func66, Try.ntmps66
  go_wp2_with (go_at_call 67; refine (usable_raw b g k _ c0 hk).mono ?_; rintro e w1 ⟨rfl, rfl⟩)
  refine wp_loop_rounds 1 ?_
  rw [rounds_succ]
  go_wp2
  go_ret
  exact ⟨rfl, rfl⟩

set_option maxRecDepth 100000 in
set_option maxHeartbeats 2000000 in
theorem find2_in_lo (b g k q : Nat) (z0 z1 : Int) (w : World) (c0 : w.cell? ⟨b, 0, none⟩ = some (.slice (some ⟨g, 0, none⟩) k k)) (hk : (1 : Int) ≤ (k : Int)) (q0 : w.cell? ⟨q, 0, none⟩ = some (.int .i64 z0)) (q1 : w.cell? ⟨q, 1, none⟩ = some (.int .i64 z1)) (h00 : 0 ≤ z0) (h01 : z0 < (k : Int)) (h10 : z1 < 0) :
    Calls Try.prog 66 #[.pointer (some ⟨b, 0, none⟩), .slice (some ⟨q, 0, none⟩) 2 2] w fun e w' => e = .returned (.int .i64 80) ∧ w = w' := by
  have a0 : ¬ z0 < 0 := by omega
  have b0 : decide (z0 < 0) = false := by simpa using h00
  have d0 : ¬ (k : Int) ≤ z0 := by omega
  have e0 : decide ((k : Int) ≤ z0) = false := by simpa using h01
  have b1 : decide (z1 < 0) = true := by simpa using h10
  go_enter Try.func66, Try.ntmps66
  go_wp2_with (go_at_call 67; refine (usable_raw b g k _ c0 hk).mono ?_; rintro e w1 ⟨rfl, rfl⟩)
  refine wp_loop_rounds 2 ?_
  rw [rounds_succ]
  go_wp2
  rw [rounds_succ]
  go_wp2
  go_ret
  exact ⟨rfl, rfl⟩

set_option maxRecDepth 100000 in
set_option maxHeartbeats 2000000 in
theorem find2_in_hi (b g k q : Nat) (z0 z1 : Int) (w : World) (c0 : w.cell? ⟨b, 0, none⟩ = some (.slice (some ⟨g, 0, none⟩) k k)) (hk : (1 : Int) ≤ (k : Int)) (q0 : w.cell? ⟨q, 0, none⟩ = some (.int .i64 z0)) (q1 : w.cell? ⟨q, 1, none⟩ = some (.int .i64 z1)) (h00 : 0 ≤ z0) (h01 : z0 < (k : Int)) (h11 : (k : Int) ≤ z1) :
    Calls Try.prog 66 #[.pointer (some ⟨b, 0, none⟩), .slice (some ⟨q, 0, none⟩) 2 2] w fun e w' => e = .returned (.int .i64 80) ∧ w = w' := by
  have a0 : ¬ z0 < 0 := by omega
  have b0 : decide (z0 < 0) = false := by simpa using h00
  have d0 : ¬ (k : Int) ≤ z0 := by omega
  have e0 : decide ((k : Int) ≤ z0) = false := by simpa using h01
  have a1 : ¬ z1 < 0 := by omega
  have b1 : decide (z1 < 0) = false := by simp; omega
  have e1 : decide ((k : Int) ≤ z1) = true := by simpa using h11
  go_enter Try.func66, Try.ntmps66
  go_wp2_with (go_at_call 67; refine (usable_raw b g k _ c0 hk).mono ?_; rintro e w1 ⟨rfl, rfl⟩)
  refine wp_loop_rounds 2 ?_
  rw [rounds_succ]
  go_wp2
  rw [rounds_succ]
  go_wp2
  go_ret
  exact ⟨rfl, rfl⟩

theorem find1_out (b g k q : Nat) (z0 : Int) (w : World) (c0 : w.cell? ⟨b, 0, none⟩ = some (.slice (some ⟨g, 0, none⟩) k k)) (hk : (1 : Int) ≤ (k : Int)) (q0 : w.cell? ⟨q, 0, none⟩ = some (.int .i64 z0)) (h : ¬ (0 ≤ z0 ∧ z0 < (k : Int))) :
    Calls Try.prog 66 #[.pointer (some ⟨b, 0, none⟩), .slice (some ⟨q, 0, none⟩) 1 1] w fun e w' => e = .returned (.int .i64 80) ∧ w = w' := by
  by_cases h0 : z0 < 0
  · exact find1_lo b g k q z0 w c0 hk q0 h0
  · exact find1_hi b g k q z0 w c0 hk q0 (by omega)
theorem find2_out (b g k q : Nat) (z0 z1 : Int) (w : World) (c0 : w.cell? ⟨b, 0, none⟩ = some (.slice (some ⟨g, 0, none⟩) k k)) (hk : (1 : Int) ≤ (k : Int)) (q0 : w.cell? ⟨q, 0, none⟩ = some (.int .i64 z0)) (q1 : w.cell? ⟨q, 1, none⟩ = some (.int .i64 z1)) (h : ¬ ((0 ≤ z0 ∧ z0 < (k : Int)) ∧ (0 ≤ z1 ∧ z1 < (k : Int)))) :
    Calls Try.prog 66 #[.pointer (some ⟨b, 0, none⟩), .slice (some ⟨q, 0, none⟩) 2 2] w fun e w' => e = .returned (.int .i64 80) ∧ w = w' := by
  by_cases h0 : z0 < 0
  · exact find2_lo b g k q z0 z1 w c0 hk q0 q1 h0
  · by_cases h1 : (k : Int) ≤ z0
    · exact find2_hi b g k q z0 z1 w c0 hk q0 q1 h1
    · by_cases h2 : z1 < 0
      · exact find2_in_lo b g k q z0 z1 w c0 hk q0 q1 (by omega) (by omega) h2
      · exact find2_in_hi b g k q z0 z1 w c0 hk q0 q1 (by omega) (by omega) (by omega)
set_option maxRecDepth 100000 in
set_option maxHeartbeats 2000000 in
theorem ltr_in (b g k n lc : Nat) (lo : Option Addr) (z0 : Int) (w : World) (c0 : w.cell? ⟨b, 0, none⟩ = some (.slice (some ⟨g, 0, none⟩) k k)) (c1 : w.cell? ⟨b, 1, none⟩ = some (.slice lo n lc)) (hk : (1 : Int) ≤ (k : Int)) (h00 : 0 ≤ z0) (h01 : z0 < (n : Int)) :
    Calls Try.prog 73 #[.pointer (some ⟨b, 0, none⟩), .int .i64 z0] w fun e w' => e = .returned (.int .i64 0) ∧ w = w' := by
  have a0 : ¬ z0 < 0 := by omega
  have b0 : decide (z0 < 0) = false := by simpa using h00
  have d0 : ¬ (n : Int) ≤ z0 := by omega
  have e0 : decide ((n : Int) ≤ z0) = false := by simpa using h01
  go_enter Try.func73, Try.ntmps73
  go_wp2_with (go_at_call 67; refine (usable_raw b g k _ c0 hk).mono ?_; rintro e w1 ⟨rfl, rfl⟩)
  go_ret
  exact ⟨rfl, rfl⟩

set_option maxRecDepth 100000 in
set_option maxHeartbeats 2000000 in
theorem ltr_lo (b g k n lc : Nat) (lo : Option Addr) (z0 : Int) (w : World) (c0 : w.cell? ⟨b, 0, none⟩ = some (.slice (some ⟨g, 0, none⟩) k k)) (c1 : w.cell? ⟨b, 1, none⟩ = some (.slice lo n lc)) (hk : (1 : Int) ≤ (k : Int)) (h00 : z0 < 0) :
    Calls Try.prog 73 #[.pointer (some ⟨b, 0, none⟩), .int .i64 z0] w fun e w' => e = .returned (.int .i64 3) ∧ w = w' := by
  have b0 : decide (z0 < 0) = true := by simpa using h00
  go_enter Try.func73, Try.ntmps73
  go_wp2_with (go_at_call 67; refine (usable_raw b g k _ c0 hk).mono ?_; rintro e w1 ⟨rfl, rfl⟩)
  go_ret
  exact ⟨rfl, rfl⟩

set_option maxRecDepth 100000 in
set_option maxHeartbeats 2000000 in
theorem ltr_hi (b g k n lc : Nat) (lo : Option Addr) (z0 : Int) (w : World) (c0 : w.cell? ⟨b, 0, none⟩ = some (.slice (some ⟨g, 0, none⟩) k k)) (c1 : w.cell? ⟨b, 1, none⟩ = some (.slice lo n lc)) (hk : (1 : Int) ≤ (k : Int)) (h01 : (n : Int) ≤ z0) :
    Calls Try.prog 73 #[.pointer (some ⟨b, 0, none⟩), .int .i64 z0] w fun e w' => e = .returned (.int .i64 3) ∧ w = w' := by
  have a0 : ¬ z0 < 0 := by omega
  have b0 : decide (z0 < 0) = false := by simp; omega
  have e0 : decide ((n : Int) ≤ z0) = true := by simpa using h01
  go_enter Try.func73, Try.ntmps73
  go_wp2_with (go_at_call 67; refine (usable_raw b g k _ c0 hk).mono ?_; rintro e w1 ⟨rfl, rfl⟩)
  go_ret
  exact ⟨rfl, rfl⟩

theorem ltr_out (b g k n lc : Nat) (lo : Option Addr) (z0 : Int) (w : World) (c0 : w.cell? ⟨b, 0, none⟩ = some (.slice (some ⟨g, 0, none⟩) k k)) (c1 : w.cell? ⟨b, 1, none⟩ = some (.slice lo n lc)) (hk : (1 : Int) ≤ (k : Int)) (h : ¬ (0 ≤ z0 ∧ z0 < (n : Int))) :
    Calls Try.prog 73 #[.pointer (some ⟨b, 0, none⟩), .int .i64 z0] w fun e w' => e = .returned (.int .i64 3) ∧ w = w' := by
  by_cases h0 : z0 < 0
  · exact ltr_lo b g k n lc lo z0 w c0 c1 hk h0
  · exact ltr_hi b g k n lc lo z0 w c0 c1 hk (by omega)
set_option maxRecDepth 100000 in
set_option maxHeartbeats 2000000 in
theorem sites_any (b g k : Nat) (w : World) (c0 : w.cell? ⟨b, 0, none⟩ = some (.slice (some ⟨g, 0, none⟩) k k)) (hk : (1 : Int) ≤ (k : Int)) :
    Calls Try.prog 36 #[.pointer (some ⟨b, 0, none⟩)] w fun e w' => e = .returned (.int .i64 (k : Int)) ∧ w = w' := by
  go_enter Try.func36, Try.ntmps36
  go_wp2_with (go_at_call 67; refine (usable_raw b g k _ c0 hk).mono ?_; rintro e w1 ⟨rfl, rfl⟩)
  go_ret
  exact ⟨rfl, rfl⟩
end Go.Proofs.Ytpghehckojdgeaa

/- A net's Table. (By gen_ntable.py.) -/
set_option linter.unusedVariables false
set_option linter.unusedSimpArgs false
namespace Go.Proofs.Ytpghehckojdgeaa
open Go.RowKit Go.Shelf Go.Sort

set_option maxRecDepth 100000 in
set_option maxHeartbeats 4000000 in
theorem netTable_out {W : World} {m b g : Nat} {lo : Option Addr} {lc : Nat} {ts : List Slot} {ms : List LSlot} (h : NetR W m b g lo lc ts ms) (z : Int) (hz : ¬ (0 ≤ z ∧ z < (ts.length : Int))) :
    Calls Try.prog 39 #[.pointer (some ⟨b, 0, none⟩), .int .i64 z] W fun e w' => e = .returned (.tuple #[zeroT, .int .i64 80]) ∧ Below W.heap.size W w' := by
  obtain ⟨V, hV⟩ : ∃ V, V = (W.alloc (.cells #[.int .i64 0, .int .i64 0, .int .i64 0, .int .i64 0, .int .i64 0, .int .i64 0, .int .i64 0, .int .i64 0, .slice none 0 0] 34)).alloc (.cells #[.int .i64 z] 3) := ⟨_, rfl⟩
  have HB : Hid (Below W.heap.size W V) := Lib.hid (by rw [hV]; exact below2 W _ _)
  have TR : Hid (V.heap[W.heap.size]? = some (.cells #[.int .i64 0, .int .i64 0, .int .i64 0, .int .i64 0, .int .i64 0, .int .i64 0, .int .i64 0, .int .i64 0, .slice none 0 0] 34 (0, 0))) := Lib.hid (by rw [hV]; exact block1 W _ _)
  have hbv : W.heap.size < V.heap.size := (Array.getElem?_eq_some_iff.1 TR.out).1
  have hq : V.cell? ⟨W.heap.size + 1, 0, none⟩ = some (.int .i64 z) := by
    simp only [World.cell?]
    rw [hV, block2]
    simp
  have HN := h.keep HB.out
  have c0 := HN.cells.1
  have hp := h.pos
  generalize ts.length = k at *
  have hk : (1 : Int) ≤ (k : Int) := by omega
  have FI := Lib.hid (find1_out b g k _ z V c0 hk hq hz)
  rw [hV] at FI
  have HV := Lib.hid hV
  clear hV h HN
  obtain ⟨q0, q1, q2, q3, q4, q5, q6, q7, q8⟩ := cell_nine TR.out
  have f0 := free_nine TR.out 0; have f1 := free_nine TR.out 1; have f2 := free_nine TR.out 2; have f3 := free_nine TR.out 3; have f4 := free_nine TR.out 4; have f5 := free_nine TR.out 5; have f6 := free_nine TR.out 6; have f7 := free_nine TR.out 7; have f8 := free_nine TR.out 8
  go_enter Try.func39, Try.ntmps39
  go_upto_region 2 with (go_at_call 66; refine FI.out.mono ?_; rintro e w1 ⟨rfl, rfl⟩)
  rw [← HV.out]
  go_wp2_with fail
  refine bodyPost_ret (v := .tuple #[zeroT, .int .i64 80]) (results_cell_tmp Try.results39 _ _ W.heap.size 34 zeroC (0, 0) _ rfl (set_nine TR.out) Try.underlying34 (by kernel_rfl) (by kernel_rfl)) rfl ?_
  exact ⟨rfl, below_set9 _ _ _ _ _ _ _ _ _ HB.out (Nat.le_refl _)⟩

set_option maxRecDepth 100000 in
set_option maxHeartbeats 4000000 in
theorem netTable_in {W : World} {m b g : Nat} {lo : Option Addr} {lc : Nat} {ts : List Slot} {ms : List LSlot} (h : NetR W m b g lo lc ts ms) (i : Nat) (hi : i < ts.length) :
    Calls Try.prog 39 #[.pointer (some ⟨b, 0, none⟩), .int .i64 (i : Int)] W fun e w' => e = .returned (.tuple #[.agg #[.int .i64 (ts[i]!.T.seen 0 : Int), .int .i64 (ts[i]!.T.seen 1 : Int), .int .i64 (ts[i]!.T.seen 2 : Int), .int .i64 (ts[i]!.T.seen 3 : Int), .int .i64 (ts[i]!.T.seen 4 : Int), .int .i64 (ts[i]!.T.seen 5 : Int), .int .i64 (ts[i]!.T.seen 6 : Int), .int .i64 (ts[i]!.T.seen 7 : Int), .slice ts[i]!.ao ts[i]!.n ts[i]!.c], .int .i64 0]) ∧ Below W.heap.size W w' := by
  obtain ⟨V, hV⟩ : ∃ V, V = (W.alloc (.cells #[.int .i64 0, .int .i64 0, .int .i64 0, .int .i64 0, .int .i64 0, .int .i64 0, .int .i64 0, .int .i64 0, .slice none 0 0] 34)).alloc (.cells #[.int .i64 (i : Int)] 3) := ⟨_, rfl⟩
  have HB : Hid (Below W.heap.size W V) := Lib.hid (by rw [hV]; exact below2 W _ _)
  have TR : Hid (V.heap[W.heap.size]? = some (.cells #[.int .i64 0, .int .i64 0, .int .i64 0, .int .i64 0, .int .i64 0, .int .i64 0, .int .i64 0, .int .i64 0, .slice none 0 0] 34 (0, 0))) := Lib.hid (by rw [hV]; exact block1 W _ _)
  have hbv : W.heap.size < V.heap.size := (Array.getElem?_eq_some_iff.1 TR.out).1
  have hq : V.cell? ⟨W.heap.size + 1, 0, none⟩ = some (.int .i64 (i : Int)) := by
    simp only [World.cell?]
    rw [hV, block2]
    simp
  have HN := h.keep HB.out
  have c0 := HN.cells.1
  have hp := h.pos
  have sa := HN.tabAt hi
  obtain ⟨x, hx⟩ : ∃ x, x = ts[i]! := ⟨_, rfl⟩
  rw [← hx] at sa ⊢
  obtain ⟨p0, p1, p2, p3, p4, p5, p6, p7, p8⟩ := sa
  clear hx
  generalize ts.length = k at *
  have hk : (1 : Int) ≤ (k : Int) := by omega
  have FI := Lib.hid (find1_in b g k _ i V c0 hk hq (by omega) (by omega))
  rw [hV] at FI
  have HV := Lib.hid hV
  clear hV h HN
  have k1 : (0 : Int) ≤ (i : Int) := by omega
  have k2 : (i : Int) < (k : Int) := by omega
  obtain ⟨q0, q1, q2, q3, q4, q5, q6, q7, q8⟩ := cell_nine TR.out
  have f0 := free_nine TR.out 0; have f1 := free_nine TR.out 1; have f2 := free_nine TR.out 2; have f3 := free_nine TR.out 3; have f4 := free_nine TR.out 4; have f5 := free_nine TR.out 5; have f6 := free_nine TR.out 6; have f7 := free_nine TR.out 7; have f8 := free_nine TR.out 8
  go_enter Try.func39, Try.ntmps39
  go_upto_region 2 with (go_at_call 66; refine FI.out.mono ?_; rintro e w1 ⟨rfl, rfl⟩)
  rw [← HV.out]
  go_wp2_with fail
  refine bodyPost_ret (v := .tuple #[.agg #[.int .i64 (x.T.seen 0 : Int), .int .i64 (x.T.seen 1 : Int), .int .i64 (x.T.seen 2 : Int), .int .i64 (x.T.seen 3 : Int), .int .i64 (x.T.seen 4 : Int), .int .i64 (x.T.seen 5 : Int), .int .i64 (x.T.seen 6 : Int), .int .i64 (x.T.seen 7 : Int), .slice x.ao x.n x.c], .int .i64 0]) (results_cell_tmp Try.results39 _ _ W.heap.size 34 #[.int .i64 (x.T.seen 0 : Int), .int .i64 (x.T.seen 1 : Int), .int .i64 (x.T.seen 2 : Int), .int .i64 (x.T.seen 3 : Int), .int .i64 (x.T.seen 4 : Int), .int .i64 (x.T.seen 5 : Int), .int .i64 (x.T.seen 6 : Int), .int .i64 (x.T.seen 7 : Int), .slice x.ao x.n x.c] (0, 0) _ rfl (set_nine TR.out) Try.underlying34 (by kernel_rfl) (by kernel_rfl)) rfl ?_
  exact ⟨rfl, below_set9 _ _ _ _ _ _ _ _ _ HB.out (Nat.le_refl _)⟩

end Go.Proofs.Ytpghehckojdgeaa

/- A net's Put. (By gen_nput.py.) -/
set_option linter.unusedVariables false
set_option linter.unusedSimpArgs false
namespace Go.Proofs.Ytpghehckojdgeaa
open Go.RowKit Go.Shelf Go.Sort

set_option maxRecDepth 100000 in
set_option maxHeartbeats 4000000 in
theorem netPut_out {W : World} {m b g : Nat} {lo : Option Addr} {lc : Nat} {ts : List Slot} {ms : List LSlot} (h : NetR W m b g lo lc ts ms) (z : Int) (k v : ByteArray) (hz : ¬ (0 ≤ z ∧ z < (ts.length : Int))) :
    Calls Try.prog 47 #[.pointer (some ⟨b, 0, none⟩), .int .i64 z, .string k, .string v] W fun e w' => e = .returned (.int .i64 80) ∧ Below W.heap.size W w' := by
  obtain ⟨V, hV⟩ : ∃ V, V = W.alloc (.cells #[.int .i64 z] 3) := ⟨_, rfl⟩
  have HB : Hid (Below W.heap.size W V) := Lib.hid (by rw [hV]; exact box_below W _)
  have hq : V.cell? ⟨W.heap.size, 0, none⟩ = some (.int .i64 z) := by
    simp only [World.cell?]
    rw [hV, heap_alloc_new]
    simp
  have HN := h.keep HB.out
  have c0 := HN.cells.1
  have hp := h.pos
  generalize hkk : ts.length = kk at *
  have HKK := Lib.hid hkk
  clear hkk
  have hk : (1 : Int) ≤ (kk : Int) := by omega
  have FI := Lib.hid (find1_out b g kk _ z V c0 hk hq hz)
  rw [hV] at FI
  have HV := Lib.hid hV
  clear hV
  clear h HN
  go_enter Try.func47, Try.ntmps47
  go_upto_region 2 with (go_at_call 66; refine FI.out.mono ?_; rintro e w1 ⟨rfl, rfl⟩)
  rw [← HV.out]
  go_wp2_with fail
  go_ret
  exact ⟨rfl, HB.out⟩

set_option maxRecDepth 100000 in
set_option maxHeartbeats 4000000 in
theorem netPut_err {W : World} {m b g : Nat} {lo : Option Addr} {lc : Nat} {ts : List Slot} {ms : List LSlot} (h : NetR W m b g lo lc ts ms) (hm : m ≤ 40000) (i : Nat) (hi : i < ts.length) (k v : ByteArray) (er : Int) (her : er = (putR ts[i]!.T i k v).2) (hne : er ≠ 0) :
    Calls Try.prog 47 #[.pointer (some ⟨b, 0, none⟩), .int .i64 (i : Int), .string k, .string v] W fun e w' => e = .returned (.int .i64 er) ∧ Below W.heap.size W w' := by
  obtain ⟨V, hV⟩ : ∃ V, V = W.alloc (.cells #[.int .i64 (i : Int)] 3) := ⟨_, rfl⟩
  have HB : Hid (Below W.heap.size W V) := Lib.hid (by rw [hV]; exact box_below W _)
  have hq : V.cell? ⟨W.heap.size, 0, none⟩ = some (.int .i64 (i : Int)) := by
    simp only [World.cell?]
    rw [hV, heap_alloc_new]
    simp
  have HN := h.keep HB.out
  have c0 := HN.cells.1
  have hp := h.pos
  have sa := HN.tabAt hi
  have HH := h.held i hi
  obtain ⟨y, hy⟩ : ∃ y, y = ts[i]! := ⟨_, rfl⟩
  rw [← hy] at sa HH
  obtain ⟨p0, p1, p2, p3, p4, p5, p6, p7, p8⟩ := sa
  rw [← hy] at her
  obtain ⟨PT, hPT⟩ : ∃ PT, PT = (putR y.T i k v).1 := ⟨_, rfl⟩
  have PA : Hid (∀ w, Below W.heap.size W w → Calls Try.prog 23 #[.agg #[.int .i64 (y.T.seen 0 : Int), .int .i64 (y.T.seen 1 : Int), .int .i64 (y.T.seen 2 : Int), .int .i64 (y.T.seen 3 : Int), .int .i64 (y.T.seen 4 : Int), .int .i64 (y.T.seen 5 : Int), .int .i64 (y.T.seen 6 : Int), .int .i64 (y.T.seen 7 : Int), .slice y.ao y.n y.c], .int .i64 (i : Int), .string k, .string v] w fun e w' => ∃ x : Slot, e = .returned (.tuple #[.agg #[.int .i64 (x.T.seen 0 : Int), .int .i64 (x.T.seen 1 : Int), .int .i64 (x.T.seen 2 : Int), .int .i64 (x.T.seen 3 : Int), .int .i64 (x.T.seen 4 : Int), .int .i64 (x.T.seen 5 : Int), .int .i64 (x.T.seen 6 : Int), .int .i64 (x.T.seen 7 : Int), .slice x.ao x.n x.c], .int .i64 er]) ∧ Hid (x.T = PT) ∧ Held w' (m + 1) x.T x.ao x.n ∧ Below w.heap.size w w') := Lib.hid fun w hb => by
    have := putAll y.c (HH.keep hb) hm i k v
    rw [← her, ← hPT] at this
    exact this
  generalize hkk : ts.length = kk at *
  have HKK := Lib.hid hkk
  clear hkk
  have hk : (1 : Int) ≤ (kk : Int) := by omega
  have FI := Lib.hid (find1_in b g kk _ i V c0 hk hq (by omega) (by omega))
  rw [hV] at FI
  have HV := Lib.hid hV
  clear hV
  have k1 : (0 : Int) ≤ (i : Int) := by omega
  have k2 : (i : Int) < (kk : Int) := by omega
  have hne2 : (er == 0) = false := beq_eq_false_iff_ne.2 hne
  clear h HN HH hy her hPT hq
  go_enter Try.func47, Try.ntmps47
  go_upto_region 2 with (go_at_call 66; refine FI.out.mono ?_; rintro e w1 ⟨rfl, rfl⟩)
  rw [← HV.out]
  go_wp2_with (go_at_call 23; refine (PA.out V HB.out).mono ?_; rintro e w4 ⟨x, rfl, hx, hh, hb⟩; have B4 := Lib.hid (HB.out.trans (hb.mono HB.out.size)); clear hx hh hb)
  go_ret
  exact ⟨rfl, B4.out.trans ((box_below _ _).mono B4.out.size)⟩

set_option maxRecDepth 100000 in
set_option maxHeartbeats 8000000 in
theorem netPut_ok {W : World} {m b g : Nat} {lo : Option Addr} {lc : Nat} {ts : List Slot} {ms : List LSlot} (h : NetR W m b g lo lc ts ms) (hm : m ≤ 40000) (i : Nat) (hi : i < ts.length) (k v : ByteArray) (her : (0 : Int) = (putR ts[i]!.T i k v).2) :
    Calls Try.prog 47 #[.pointer (some ⟨b, 0, none⟩), .int .i64 (i : Int), .string k, .string v] W fun e w' => e = .returned (.int .i64 0) ∧ ∃ x : Slot, Hid (x.T = (putR ts[i]!.T i k v).1) ∧ NetR w' (m + 1) b g lo lc (ts.set i x) ms ∧ Frm (fun j => j = g) W w' := by
  obtain ⟨V, hV⟩ : ∃ V, V = W.alloc (.cells #[.int .i64 (i : Int)] 3) := ⟨_, rfl⟩
  have HB : Hid (Below W.heap.size W V) := Lib.hid (by rw [hV]; exact box_below W _)
  have hq : V.cell? ⟨W.heap.size, 0, none⟩ = some (.int .i64 (i : Int)) := by
    simp only [World.cell?]
    rw [hV, heap_alloc_new]
    simp
  have HN := h.keep HB.out
  have c0 := HN.cells.1
  have hp := h.pos
  have sa := HN.tabAt hi
  have HH := h.held i hi
  obtain ⟨y, hy⟩ : ∃ y, y = ts[i]! := ⟨_, rfl⟩
  rw [← hy] at sa HH
  obtain ⟨p0, p1, p2, p3, p4, p5, p6, p7, p8⟩ := sa
  rw [← hy] at her ⊢
  obtain ⟨PT, hPT⟩ : ∃ PT, PT = (putR y.T i k v).1 := ⟨_, rfl⟩
  have PA : Hid (∀ w, Below W.heap.size W w → Calls Try.prog 23 #[.agg #[.int .i64 (y.T.seen 0 : Int), .int .i64 (y.T.seen 1 : Int), .int .i64 (y.T.seen 2 : Int), .int .i64 (y.T.seen 3 : Int), .int .i64 (y.T.seen 4 : Int), .int .i64 (y.T.seen 5 : Int), .int .i64 (y.T.seen 6 : Int), .int .i64 (y.T.seen 7 : Int), .slice y.ao y.n y.c], .int .i64 (i : Int), .string k, .string v] w fun e w' => ∃ x : Slot, e = .returned (.tuple #[.agg #[.int .i64 (x.T.seen 0 : Int), .int .i64 (x.T.seen 1 : Int), .int .i64 (x.T.seen 2 : Int), .int .i64 (x.T.seen 3 : Int), .int .i64 (x.T.seen 4 : Int), .int .i64 (x.T.seen 5 : Int), .int .i64 (x.T.seen 6 : Int), .int .i64 (x.T.seen 7 : Int), .slice x.ao x.n x.c], .int .i64 0]) ∧ Hid (x.T = PT) ∧ Held w' (m + 1) x.T x.ao x.n ∧ Below w.heap.size w w') := Lib.hid fun w hb => by
    have := putAll y.c (HH.keep hb) hm i k v
    rw [← her, ← hPT] at this
    exact this
  rw [← hPT]
  have HN0 := Lib.hid HN
  have HI := Lib.hid hi
  generalize hkk : ts.length = kk at *
  have HKK := Lib.hid hkk
  clear hkk
  have hk : (1 : Int) ≤ (kk : Int) := by omega
  have FI := Lib.hid (find1_in b g kk _ i V c0 hk hq (by omega) (by omega))
  rw [hV] at FI
  have HV := Lib.hid hV
  clear hV
  have k1 : (0 : Int) ≤ (i : Int) := by omega
  have k2 : (i : Int) < (kk : Int) := by omega
  clear h HN HH hy her hPT hq
  go_enter Try.func47, Try.ntmps47
  go_upto_region 2 with (go_at_call 66; refine FI.out.mono ?_; rintro e w1 ⟨rfl, rfl⟩)
  rw [← HV.out]
  go_upto_region 7 with (go_at_call 23; refine (PA.out V HB.out).mono ?_; rintro e w4 ⟨x, rfl, hx, hh, hb⟩; have HX := Lib.hid hx; have HH4 := Lib.hid hh; have B4 := Lib.hid hb; clear hx hh hb)
  obtain ⟨V7, hV7⟩ : ∃ V7, V7 = w4.alloc (.cells #[.int .i64 (x.T.seen 0 : Int), .int .i64 (x.T.seen 1 : Int), .int .i64 (x.T.seen 2 : Int), .int .i64 (x.T.seen 3 : Int), .int .i64 (x.T.seen 4 : Int), .int .i64 (x.T.seen 5 : Int), .int .i64 (x.T.seen 6 : Int), .int .i64 (x.T.seen 7 : Int), .slice x.ao x.n x.c] 34) := ⟨_, rfl⟩
  have B7 : Hid (Below V.heap.size V V7) := Lib.hid (by rw [hV7]; exact below_then B4.out (box_below _ _))
  have BX : Hid (BoxAt V7 w4.heap.size x) := Lib.hid (by rw [hV7]; exact heap_alloc_new _ _)
  have H7 : Hid (Held V7 (m + 1) x.T x.ao x.n) := Lib.hid (by rw [hV7]; exact HH4.out.keep (box_below _ _))
  have N7 := Lib.hid ((HN0.out.keep B7.out).more (Nat.le_succ m))
  rw [← hV7]
  clear hV7 c0 p0 p1 p2 p3 p4 p5 p6 p7 p8
  generalize w4.heap.size = D at BX ⊢
  have sa := N7.out.tabAt (by rw [HKK.out]; exact HI.out)
  obtain ⟨p0, p1, p2, p3, p4, p5, p6, p7, p8⟩ := sa
  obtain ⟨d0, d1, d2, d3, d4, d5, d6, d7, d8⟩ := cell_nine BX.out
  have c0 := N7.out.cells.1
  rw [HKK.out] at c0
  have f0 := (N7.out.free (i * 9)).2; have f1 := (N7.out.free (i * 9 + 1)).2; have f2 := (N7.out.free (i * 9 + 2)).2; have f3 := (N7.out.free (i * 9 + 3)).2; have f4 := (N7.out.free (i * 9 + 4)).2; have f5 := (N7.out.free (i * 9 + 5)).2; have f6 := (N7.out.free (i * 9 + 6)).2; have f7 := (N7.out.free (i * 9 + 7)).2; have f8 := (N7.out.free (i * 9 + 8)).2
  go_region
  all_goals go_wp2
  all_goals go_ret
  all_goals exact ⟨rfl, x, HX.out, N7.out.store9 (by rw [HKK.out]; exact HI.out) H7.out (HB.out.trans (B7.out.mono HB.out.size))⟩
end Go.Proofs.Ytpghehckojdgeaa

/- A net's Remove. (By gen_nrem.py.) -/
set_option linter.unusedVariables false
set_option linter.unusedSimpArgs false
namespace Go.Proofs.Ytpghehckojdgeaa
open Go.RowKit Go.Shelf Go.Sort

set_option maxRecDepth 100000 in
set_option maxHeartbeats 4000000 in
theorem netRem_out {W : World} {m b g : Nat} {lo : Option Addr} {lc : Nat} {ts : List Slot} {ms : List LSlot} (h : NetR W m b g lo lc ts ms) (z : Int) (k : ByteArray) (hz : ¬ (0 ≤ z ∧ z < (ts.length : Int))) :
    Calls Try.prog 40 #[.pointer (some ⟨b, 0, none⟩), .int .i64 z, .string k] W fun e w' => e = .returned (.int .i64 80) ∧ Below W.heap.size W w' := by
  obtain ⟨V, hV⟩ : ∃ V, V = W.alloc (.cells #[.int .i64 z] 3) := ⟨_, rfl⟩
  have HB : Hid (Below W.heap.size W V) := Lib.hid (by rw [hV]; exact box_below W _)
  have hq : V.cell? ⟨W.heap.size, 0, none⟩ = some (.int .i64 z) := by
    simp only [World.cell?]
    rw [hV, heap_alloc_new]
    simp
  have HN := h.keep HB.out
  have c0 := HN.cells.1
  have hp := h.pos
  generalize hkk : ts.length = kk at *
  have HKK := Lib.hid hkk
  clear hkk
  have hk : (1 : Int) ≤ (kk : Int) := by omega
  have FI := Lib.hid (find1_out b g kk _ z V c0 hk hq hz)
  rw [hV] at FI
  have HV := Lib.hid hV
  clear hV
  clear h HN
  go_enter Try.func40, Try.ntmps40
  go_upto_region 2 with (go_at_call 66; refine FI.out.mono ?_; rintro e w1 ⟨rfl, rfl⟩)
  rw [← HV.out]
  go_wp2_with fail
  go_ret
  exact ⟨rfl, HB.out⟩

set_option maxRecDepth 100000 in
set_option maxHeartbeats 8000000 in
theorem netRem_in {W : World} {m b g : Nat} {lo : Option Addr} {lc : Nat} {ts : List Slot} {ms : List LSlot} (h : NetR W m b g lo lc ts ms) (hm : m ≤ 40000) (i : Nat) (hi : i < ts.length) (k : ByteArray) :
    Calls Try.prog 40 #[.pointer (some ⟨b, 0, none⟩), .int .i64 (i : Int), .string k] W fun e w' => e = .returned (.int .i64 0) ∧ ∃ x : Slot, Hid (x.T = remT ts[i]!.T k) ∧ NetR w' m b g lo lc (ts.set i x) ms ∧ Frm (fun j => j = g) W w' := by
  obtain ⟨V, hV⟩ : ∃ V, V = W.alloc (.cells #[.int .i64 (i : Int)] 3) := ⟨_, rfl⟩
  have HB : Hid (Below W.heap.size W V) := Lib.hid (by rw [hV]; exact box_below W _)
  have hq : V.cell? ⟨W.heap.size, 0, none⟩ = some (.int .i64 (i : Int)) := by
    simp only [World.cell?]
    rw [hV, heap_alloc_new]
    simp
  have HN := h.keep HB.out
  have c0 := HN.cells.1
  have hp := h.pos
  have sa := HN.tabAt hi
  have HH := h.held i hi
  obtain ⟨y, hy⟩ : ∃ y, y = ts[i]! := ⟨_, rfl⟩
  rw [← hy] at sa HH
  obtain ⟨p0, p1, p2, p3, p4, p5, p6, p7, p8⟩ := sa
  rw [← hy]
  obtain ⟨PT, hPT⟩ : ∃ PT, PT = remT y.T k := ⟨_, rfl⟩
  have RA : Hid (∀ w, Below W.heap.size W w → Calls Try.prog 53 #[.agg #[.int .i64 (y.T.seen 0 : Int), .int .i64 (y.T.seen 1 : Int), .int .i64 (y.T.seen 2 : Int), .int .i64 (y.T.seen 3 : Int), .int .i64 (y.T.seen 4 : Int), .int .i64 (y.T.seen 5 : Int), .int .i64 (y.T.seen 6 : Int), .int .i64 (y.T.seen 7 : Int), .slice y.ao y.n y.c], .string k] w fun e w' => ∃ x : Slot, e = .returned (.agg #[.int .i64 (x.T.seen 0 : Int), .int .i64 (x.T.seen 1 : Int), .int .i64 (x.T.seen 2 : Int), .int .i64 (x.T.seen 3 : Int), .int .i64 (x.T.seen 4 : Int), .int .i64 (x.T.seen 5 : Int), .int .i64 (x.T.seen 6 : Int), .int .i64 (x.T.seen 7 : Int), .slice x.ao x.n x.c]) ∧ Hid (x.T = PT) ∧ Held w' m x.T x.ao x.n ∧ Below w.heap.size w w') := Lib.hid fun w hb => (removeA y.c (HH.keep hb) hm k).mono fun e w' ⟨T', a', n', c', h1, h2, h3, h4⟩ => ⟨⟨T', a', n', c'⟩, h1, Lib.hid (h2.out.trans hPT.symm), h3, h4⟩
  rw [← hPT]
  have HN0 := Lib.hid HN
  have HI := Lib.hid hi
  generalize hkk : ts.length = kk at *
  have HKK := Lib.hid hkk
  clear hkk
  have hk : (1 : Int) ≤ (kk : Int) := by omega
  have FI := Lib.hid (find1_in b g kk _ i V c0 hk hq (by omega) (by omega))
  rw [hV] at FI
  have HV := Lib.hid hV
  clear hV
  have k1 : (0 : Int) ≤ (i : Int) := by omega
  have k2 : (i : Int) < (kk : Int) := by omega
  clear h HN HH hy hPT hq
  go_enter Try.func40, Try.ntmps40
  go_upto_region 2 with (go_at_call 66; refine FI.out.mono ?_; rintro e w1 ⟨rfl, rfl⟩)
  rw [← HV.out]
  go_upto_region 4 with fail
  go_region_law (((try go_simp); go_at_call 53; refine (RA.out V.drew HB.out.drew).mono ?_; rintro e w4 ⟨x, rfl, hx, hh, hb⟩; have HX := Lib.hid hx; have HH4 := Lib.hid hh; have B4 := Lib.hid ((drew_below V).trans hb); have N4 := Lib.hid (HN0.out.keep B4.out); obtain ⟨r0, r1, r2, r3, r4, r5, r6, r7, r8⟩ := N4.out.tabAt (by rw [HKK.out]; exact HI.out); have c4 := N4.out.cells.1; rw [HKK.out] at c4; have f0 := (N4.out.free (i * 9)).2; have f1 := (N4.out.free (i * 9 + 1)).2; have f2 := (N4.out.free (i * 9 + 2)).2; have f3 := (N4.out.free (i * 9 + 3)).2; have f4 := (N4.out.free (i * 9 + 4)).2; have f5 := (N4.out.free (i * 9 + 5)).2; have f6 := (N4.out.free (i * 9 + 6)).2; have f7 := (N4.out.free (i * 9 + 7)).2; have f8 := (N4.out.free (i * 9 + 8)).2; clear hx hh hb))
  all_goals go_wp2
  all_goals go_ret
  all_goals exact ⟨rfl, x, HX.out, N4.out.store9' (by rw [HKK.out]; exact HI.out) HH4.out (HB.out.trans (B4.out.mono HB.out.size))⟩
end Go.Proofs.Ytpghehckojdgeaa

/- slices.Delete of one letter. (By gen_ndel.py.) -/
set_option linter.unusedVariables false
set_option linter.unusedSimpArgs false
namespace Go.Proofs.Ytpghehckojdgeaa
open Go.RowKit Go.Shelf Go.Sort

theorem setCells_row {g : Nat} {t : TypeId} : ∀ (vs : List Value) (o : Nat) (w : World) (l : List Value), w.heap[g]? = some (.cells l.toArray t (0, 0)) → o + vs.length ≤ l.length → (w.setCells g o vs).heap[g]? = some (.cells (l.take o ++ vs ++ l.drop (o + vs.length)).toArray t (0, 0))
  | [], o, w, l, h, _ => by simpa [World.setCells] using h
  | v :: vs, o, w, l, h, hl => by
    simp only [List.length_cons] at hl
    rw [World.setCells, setCells_row vs (o + 1) _ (l.set o v) (setCell_row h v) (by rw [List.length_set]; omega)]
    congr 3
    have h1 : (l.set o v).take (o + 1) = l.take o ++ [v] := by
      rw [List.take_succ_eq_append_getElem (by rw [List.length_set]; omega), List.take_set_of_le (Nat.le_refl _), List.getElem_set_self]
    have h2 : (l.set o v).drop (o + 1 + vs.length) = l.drop (o + (v :: vs).length) := by
      rw [List.drop_set_of_lt (by omega), List.length_cons, show o + 1 + vs.length = o + (vs.length + 1) by omega]
    rw [h1, h2]
    simp
theorem setCells_frm (g : Nat) : ∀ (vs : List Value) (o : Nat) (w : World), Frm (fun j => j = g) w (w.setCells g o vs)
  | [], _, w => ⟨rfl, rfl, rfl, Nat.le_refl _, fun _ _ _ => rfl⟩
  | v :: vs, o, w => by
    rw [World.setCells]
    exact (Frm.setCell (G := fun j => j = g) (a := w) (w := w) ⟨rfl, rfl, rfl, Nat.le_refl _, fun _ _ _ => rfl⟩ (p := ⟨g, o, none⟩) (.inl rfl) v).trans (setCells_frm g vs (o + 1) _) (fun _ _ e => e)
theorem flatM_take : ∀ (l : List LSlot) (i : Nat), (flatM l).take (i * 11) = flatM (l.take i)
  | [], i => by simp [flatM]
  | x :: l, 0 => by simp [flatM]
  | x :: l, i + 1 => by
    have := flatM_take l i
    unfold flatM at *
    rw [List.take_succ_cons, List.flatMap_cons, List.flatMap_cons, show (i + 1) * 11 = (lslotC x).length + i * 11 by rw [lslotC_len]; omega, List.take_length_add_append, this]
/-- the zero value of a letter -/
def zeroL : Array Value := #[.int .i64 0, .int .i64 0, .int .i64 0, .int .i64 0, .int .i64 0, .int .i64 0, .int .i64 0, .int .i64 0, .int .i64 0, .int .i64 0, .slice none 0 0]
theorem zeroLetter : ∀ w, (zeroValue 114).run Try.prog w = .ok (.agg #[.int .i64 0, .int .i64 0, .int .i64 0, .int .i64 0, .int .i64 0, .int .i64 0, .int .i64 0, .int .i64 0, .int .i64 0, .int .i64 0, .slice none 0 0]) w := Try.zeroValue114
theorem infoL : (Try.prog.info? 114).map (fun i => (i.zero, i.size, i.bytes)) = some (some (.agg #[.int .i64 0, .int .i64 0, .int .i64 0, .int .i64 0, .int .i64 0, .int .i64 0, .int .i64 0, .int .i64 0, .int .i64 0, .int .i64 0, .slice none 0 0]), 11, 104) := by kernel_rfl

theorem run_clear11 (w : World) (ty : TypeId) (b o c : Nat) (hc : ∀ j, j < 11 → (w.cell? ⟨b, o + j, none⟩).isSome = true) (hf : ∀ j, j < 11 → w.frozen? ⟨b, o + j, none⟩ = false) :
    (Builtin.clear_ #[86] ty #[.slice (some ⟨b, o, none⟩) 1 c]).run Try.prog w = .ok (.tuple #[]) (w.setCells b o zeroL.toList) := by
  have hst := run_storeCells_cells (P := Try.prog) b o zeroL.toList 0 w (by simpa [zeroL] using hc) (by simpa [zeroL] using hf) (by
    intro v hv
    simp [zeroL] at hv
    rcases hv with rfl | rfl <;> rfl)
  simp only [Nat.add_zero] at hst
  have hz : (Builtin.zeroCells (Value.cells (.agg #[.int .i64 0, .int .i64 0, .int .i64 0, .int .i64 0, .int .i64 0, .int .i64 0, .int .i64 0, .int .i64 0, .int .i64 0, .int .i64 0, .slice none 0 0])) 1).toList = zeroL.toList := by kernel_rfl
  simp [Builtin.clear_, run_underlying Try.underlying86, zeroLetter, hz, hst]

/-- the letter at i is taken out -/
structure Cut1 (W w' : World) (gl n lc : Nat) (ms : List LSlot) (i : Nat) : Prop where
  row : w'.ownsRow 0 114 11 (.slice (some ⟨gl, 0, none⟩) (n - 1) lc) (n - 1) (flatM (ms.eraseIdx i))
  one : ∃ z, w'.cell? ⟨gl, 0, none⟩ = some (.int .i64 z)
  frm : Frm (fun j => j = gl) W w'
theorem cut1_of {W : World} {gl n lc i : Nat} {ms : List LSlot} (hn : ms.length = n) (hi : i < n) (h : W.ownsRow 0 114 11 (.slice (some ⟨gl, 0, none⟩) n lc) n (flatM ms)) :
    Cut1 W ((W.drew.setCells gl (i * 11) (flatM (ms.drop (i + 1)))).setCells gl ((n - 1) * 11) zeroL.toList) gl n lc ms i := by
  rcases h.2 with ⟨h2, _⟩ | ⟨g', cap', cur, h2, hb, hg, hnc, hcm, hcs, ht⟩
  · cases h2
  cases h2
  obtain ⟨l, rfl⟩ : ∃ l : List Value, cur = l.toArray := ⟨cur.toList, by simp⟩
  have hll : l.length = lc * 11 := by simpa using hcs
  have hlm := flatM_len (ms.drop (i + 1))
  rw [List.length_drop, hn] at hlm
  have r1 := setCells_row (flatM (ms.drop (i + 1))) (i * 11) W.drew l hg (by omega)
  have hl1 : (l.take (i * 11) ++ flatM (ms.drop (i + 1)) ++ l.drop (i * 11 + (flatM (ms.drop (i + 1))).length)).length = lc * 11 := by
    simp only [List.length_append, List.length_take, List.length_drop]; omega
  have r2 := setCells_row zeroL.toList ((n - 1) * 11) _ _ r1 (by rw [hl1]; simp [zeroL]; omega)
  have htk : (l.take (i * 11) ++ flatM (ms.drop (i + 1)) ++ l.drop (i * 11 + (flatM (ms.drop (i + 1))).length)).take ((n - 1) * 11) = flatM (ms.eraseIdx i) := by
    rw [List.take_append_of_le_length (by simp only [List.length_append, List.length_take]; omega), List.take_of_length_le (by simp only [List.length_append, List.length_take]; omega), List.eraseIdx_eq_take_drop_succ, flatM_app, ← flatM_take]
    have : l.take (n * 11) = flatM ms := by simpa using ht
    rw [← this, List.take_take, Nat.min_eq_left (by omega)]
  rw [htk] at r2
  have hle : (flatM (ms.eraseIdx i)).length = (n - 1) * 11 := by rw [flatM_len, List.length_eraseIdx_of_lt (by omega), hn]
  refine ⟨⟨hle, .inr ⟨gl, lc, _, rfl, hb, r2, by omega, hcm, ?_, ?_⟩⟩, ?_, ?_⟩
  · have := hl1
    simp only [List.size_toArray, List.length_append, hle, List.length_drop, this]
    simp [zeroL]; omega
  · rw [List.append_assoc, List.take_append_of_le_length (by omega), List.take_of_length_le (by omega)]
  · by_cases h1 : n = 1
    · subst h1
      have e0 : flatM (ms.eraseIdx i) = [] := List.length_eq_zero_iff.1 (by rw [hle])
      rw [e0] at r2
      refine ⟨0, ?_⟩
      simp only [World.cell?]
      rw [r2]
      simp [zeroL]
    · have hpos : 0 < (ms.eraseIdx i).length := by rw [List.length_eraseIdx_of_lt (by omega)]; omega
      obtain ⟨x, q, hxq⟩ : ∃ x q, ms.eraseIdx i = x :: q := List.exists_cons_of_length_pos hpos
      rw [hxq] at r2
      refine ⟨(x.frm : Int), ?_⟩
      simp only [World.cell?]
      rw [r2]
      simp [flatM, lslotC]
  · exact ((Frm.of_below (drew_below W)).trans (setCells_frm gl _ _ _) (fun _ _ e => e)).trans (setCells_frm gl _ _ _) (fun _ _ e => e)

set_option maxRecDepth 100000 in
set_option maxHeartbeats 8000000 in
theorem delete_one (gl n lc i : Nat) (ms : List LSlot) (W : World) (hn : ms.length = n) (hi : i < n) (hm : n ≤ 256) (h : W.ownsRow 0 114 11 (.slice (some ⟨gl, 0, none⟩) n lc) n (flatM ms)) :
    Calls Try.prog 74 #[.slice (some ⟨gl, 0, none⟩) n lc, .int .i64 (i : Int), .int .i64 ((i : Int) + 1)] W fun e w' => e = .returned (.slice (some ⟨gl, 0, none⟩) (n - 1) lc) ∧ Cut1 W w' gl n lc ms i := by
  have HC := Lib.hid (cut1_of hn hi h)
  have hnl : n ≤ lc ∧ lc ≤ maxLen := by
    rcases h.2 with ⟨h2, _⟩ | ⟨g', cap', cur, h2, hb, hg, hnc, hcm, hcs, ht⟩
    · cases h2
    · cases h2; exact ⟨hnc, hcm⟩
  have hcell : ∀ j, j < lc * 11 → (W.drew.cell? ⟨gl, j, none⟩).isSome = true ∧ W.drew.frozen? ⟨gl, j, none⟩ = false := fun j hj => by
    rcases h.2 with ⟨h2, _⟩ | ⟨g', cap', cur, h2, hb, hg, hnc, hcm, hcs, ht⟩
    · cases h2
    · cases h2
      refine ⟨?_, ?_⟩
      · show (W.cell? _).isSome = true
        simp only [World.cell?]; rw [hg]; simp; omega
      · show W.frozen? _ = false
        simp only [World.frozen?]; rw [hg]; simp
  obtain ⟨news, hnews⟩ : ∃ news, news = flatM (ms.drop (i + 1)) := ⟨_, rfl⟩
  have hlen : news.length = (n - (i + 1)) * 11 := by rw [hnews, flatM_len, List.length_drop, hn]
  obtain ⟨A, hA, hsrc⟩ : ∃ A : Addr, (if lc = i + 1 then (some ⟨gl, 0, none⟩ : Option Addr) else some ⟨gl, (i + 1) * 11, none⟩) = some A ∧ Hid (∀ t u, news[t]? = some u → W.drew.cell? (A.add t) = some u) := by
    by_cases hh : lc = i + 1
    · refine ⟨⟨gl, 0, none⟩, by simp [hh], fun t u hu => ?_⟩
      have h0 : news.length = 0 := by rw [hlen]; omega
      rw [List.length_eq_zero_iff.1 h0] at hu
      simp at hu
    · refine ⟨⟨gl, (i + 1) * 11, none⟩, by simp [hh], fun t u hu => ?_⟩
      have ht : t < news.length := (List.getElem?_eq_some_iff.1 hu).1
      have hfull : (flatM ms)[(i + 1) * 11 + t]? = some u := by
        have e : flatM ms = flatM (ms.take (i + 1)) ++ news := by rw [hnews, ← flatM_app, List.take_append_drop]
        have l1 : (flatM (ms.take (i + 1))).length = (i + 1) * 11 := by rw [flatM_len, List.length_take, hn, Nat.min_eq_left (by omega)]
        rw [e, List.getElem?_append_right (by omega), l1, Nat.add_sub_cancel_left]
        exact hu
      have := h.cells (g := gl) rfl _ _ hfull
      rw [add_off, Nat.zero_add] at this
      rw [add_off]
      exact this
  have s1 : Hid (news.length = (n - (i + 1)) * 11) := hlen
  have s2 : Hid (∀ u ∈ news, u.oneCell' = true) := by rw [hnews]; exact flatM_one _
  have s3 : Hid (∀ t, t < news.length → (W.drew.cell? ⟨gl, 0 + i * 11 + t, none⟩).isSome = true ∧ W.drew.frozen? ⟨gl, 0 + i * 11 + t, none⟩ = false) := Lib.hid fun t ht => by
    rw [hlen] at ht
    exact hcell _ (by omega)
  obtain ⟨W1, hW1⟩ : ∃ W1, W1 = W.drew.setCells gl (0 + i * 11) news := ⟨_, rfl⟩
  rw [← hnews, ← Nat.zero_add (i * 11), ← hW1] at HC
  have hF1 : Frm (fun j => j = gl) W.drew W1 := by rw [hW1]; exact setCells_frm _ _ _ _
  have hrow1 : ∃ l : List Value, l.length = lc * 11 ∧ W1.heap[gl]? = some (.cells l.toArray 114 (0, 0)) := by
    rcases h.2 with ⟨h2, _⟩ | ⟨g', cap', cur, h2, hb, hg, hnc, hcm, hcs, ht⟩
    · cases h2
    · cases h2
      obtain ⟨l, rfl⟩ : ∃ l : List Value, cur = l.toArray := ⟨cur.toList, by simp⟩
      have hll : l.length = lc * 11 := by simpa using hcs
      refine ⟨_, ?_, by rw [hW1]; exact setCells_row news (0 + i * 11) W.drew l hg (by omega)⟩
      simp only [List.length_append, List.length_take, List.length_drop]; omega
  obtain ⟨l1, hl1, hr1⟩ := hrow1
  have hcl : ∀ ty, (Builtin.clear_ #[86] ty #[.slice (some ⟨gl, (n - 1) * 11, none⟩) 1 (lc - (n - 1))]).run Try.prog W1 = .ok (.tuple #[]) (W1.setCells gl ((n - 1) * 11) zeroL.toList) := fun ty =>
    run_clear11 W1 ty gl ((n - 1) * 11) _ (fun j hj => by
      simp only [World.cell?]; rw [hr1]; simp; omega) (fun j hj => by simp only [World.frozen?]; rw [hr1]; simp)
  have hcl' : ∀ ty, (Builtin.clear_ #[86] ty #[.slice (some ⟨gl, (i + (n - (i + 1))) * 11, none⟩) (n - (i + (n - (i + 1)))) (lc - (i + (n - (i + 1))))]).run Try.prog W1 = .ok (.tuple #[]) (W1.setCells gl ((n - 1) * 11) zeroL.toList) := by
    rw [show i + (n - (i + 1)) = n - 1 by omega, show n - (n - 1) = 1 by omega]
    exact hcl
  clear hcl
  have hW := Lib.hid hW1
  have hicap : i + 1 ≤ lc := by omega
  have hin0 : (0 : Int) ≤ (i : Int) + 1 := by omega
  have hin1 : (i : Int) + 1 ≤ (n : Int) := by omega
  have hic : i ≤ lc := by omega
  have hicz : (i : Int) ≤ (lc : Int) := by omega
  have hicz1 : (i : Int) + 1 ≤ (lc : Int) := by omega
  unfold maxLen at hnl
  have i0 : (0 : Int) ≤ (i : Int) := by omega
  have i1 : (i : Int) ≤ 255 := by omega
  have ine : ((i : Int) == (i : Int) + 1) = false := beq_eq_false_iff_ne.2 (by omega)
  obtain ⟨i0', hi0, hz0, hz1, hz2⟩ := info_parts infoL
  clear h hcell hnews hlen hW1 hF1 hr1 hl1 hz0 hz2
  go_enter Try.func74, Try.ntmps74
  go_upto_region 5 with fail
  go_region_law (refine step_append_room rfl (.tmp 22) (.tmp 25) 86 rfl 114 i0' 11 Try.underlying86 hi0 hz1 gl 0 i lc (by simp [Act.eval, Act.put]) A (n - (i + 1)) (lc - (i + 1)) news (by simp [Act.eval, Act.put]) s1.out hsrc.out s2.out (by omega) s3.out ?_; rw [← hW.out])
  go_wp2
  go_ret
  exact ⟨by rw [show n - 1 = i + (n - (i + 1)) by omega]; rfl, HC.out⟩
end Go.Proofs.Ytpghehckojdgeaa

/- A net's Lose. (By gen_nlose.py.) -/
set_option linter.unusedVariables false
set_option linter.unusedSimpArgs false
namespace Go.Proofs.Ytpghehckojdgeaa
open Go.RowKit Go.Shelf Go.Sort

theorem ownsRow_frm {G : Nat → Prop} {w w' : World} {base : Nat} {e : TypeId} {size : Nat} {v : Value} {n : Nat} {xs : List Value} (h : w.ownsRow base e size v n xs) (hf : Frm G w w') (hn : ∀ j, v.ownBlock = some j → ¬ G j) : w'.ownsRow base e size v n xs := by
  refine ⟨h.1, ?_⟩
  rcases h.2 with h2 | ⟨g', cap', cur, h3, h4, h5, h6⟩
  · exact .inl h2
  · refine .inr ⟨g', cap', cur, h3, h4, hf.row h5 (hn _ ?_), h6⟩
    rw [h3]; rfl
theorem frm_set (w : World) (b o : Nat) (v : Value) : Frm (fun j => j = b) w (w.setCell ⟨b, o, none⟩ v) :=
  Frm.setCell (G := fun j => j = b) (a := w) (w := w) ⟨rfl, rfl, rfl, Nat.le_refl _, fun _ _ _ => rfl⟩ (p := ⟨b, o, none⟩) (.inl rfl) v
theorem Frm.wide {G G' : Nat → Prop} {w w' : World} (h : Frm G w w') (hg : ∀ j, G j → G' j) : Frm G' w w' := ⟨h.os, h.tape, h.output, h.size, fun k hk hn => h.block k hk (fun e => hn (hg k e))⟩
theorem NetR.lose {W : World} {m b g : Nat} {lo : Option Addr} {lc : Nat} {ts : List Slot} {ms : List LSlot} (h : NetR W m b g lo lc ts ms) {w1 : World} {gl i : Nat} (hgl : lo = some ⟨gl, 0, none⟩) (hi : i < ms.length) (hc : Cut1 W w1 gl ms.length lc ms i) :
    NetR (w1.setCell ⟨b, 1, none⟩ (.slice (some ⟨gl, 0, none⟩) (ms.length - 1) lc)) m b g lo lc ts (ms.eraseIdx i) ∧ Frm (Foot b g lo) W (w1.setCell ⟨b, 1, none⟩ (.slice (some ⟨gl, 0, none⟩) (ms.length - 1) lc)) := by
  have hbl : b ≠ gl := fun e => h.lb 0 none (by rw [hgl, e])
  have hgg : g ≠ gl := fun e => h.lg 0 none (by rw [hgl, e])
  have hle : (ms.eraseIdx i).length = ms.length - 1 := List.length_eraseIdx_of_lt hi
  have f2 := frm_set w1 b 1 (.slice (some ⟨gl, 0, none⟩) (ms.length - 1) lc)
  have fa : Frm (Foot b g lo) W (w1.setCell ⟨b, 1, none⟩ (.slice (some ⟨gl, 0, none⟩) (ms.length - 1) lc)) :=
    (hc.frm.wide (G' := Foot b g lo) (fun j e => .inr (.inr ⟨0, none, by rw [hgl, e]⟩))).trans f2 (fun j _ e => .inl e)
  refine ⟨⟨?_, ?_, ?_, h.bg, h.lb, h.lg, fun j o s e => ?_, fun j hj => (h.held j hj).frm fa h.noStr, fun j hj => ?_, fun j hj => ?_, h.pos, h.few, by rw [hle]; have := h.most; omega⟩, fa⟩
  · have := hc.frm.row h.hd hbl
    simp only [World.setCell, Array.getElem?_modify]
    rw [this, hle, hgl]
    simp
  · exact f2.row (hc.frm.row h.tb hgg) (fun e => h.bg e.symm)
  · rw [hle, hgl]
    exact ownsRow_frm hc.row f2 (fun j e => by
      simp [Value.ownBlock] at e
      subst e
      exact fun e => hbl e.symm)
  · rw [hgl] at e
    cases e
    obtain ⟨z, hz⟩ := hc.one
    exact ⟨z, f2.cell hz (fun e => hbl e.symm)⟩
  · obtain ⟨k, hk, e⟩ := at_mem (List.mem_of_mem_eraseIdx (mem_at hj))
    rw [← e]
    exact (h.mail k hk).frm fa h.noStr
  · obtain ⟨k, hk, e⟩ := at_mem (List.mem_of_mem_eraseIdx (mem_at hj))
    rw [← e]
    exact h.idx k hk

set_option maxRecDepth 100000 in
set_option maxHeartbeats 4000000 in
theorem netLose_out {W : World} {m b g : Nat} {lo : Option Addr} {lc : Nat} {ts : List Slot} {ms : List LSlot} (h : NetR W m b g lo lc ts ms) (z : Int) (hz : ¬ (0 ≤ z ∧ z < (ms.length : Int))) :
    Calls Try.prog 45 #[.pointer (some ⟨b, 0, none⟩), .int .i64 z] W fun e w' => e = .returned (.int .i64 3) ∧ W = w' := by
  have FI := Lib.hid (ltr_out b g ts.length ms.length lc lo z W h.cells.1 h.cells.2 (by have := h.pos; omega) hz)
  clear h
  go_enter Try.func45, Try.ntmps45
  go_wp2_with (go_at_call 73; refine FI.out.mono ?_; rintro e w1 ⟨rfl, rfl⟩)
  go_ret
  exact ⟨rfl, rfl⟩

set_option maxRecDepth 100000 in
set_option maxHeartbeats 8000000 in
theorem netLose_in {W : World} {m b g : Nat} {lo : Option Addr} {lc : Nat} {ts : List Slot} {ms : List LSlot} (h : NetR W m b g lo lc ts ms) (i : Nat) (hi : i < ms.length) :
    Calls Try.prog 45 #[.pointer (some ⟨b, 0, none⟩), .int .i64 (i : Int)] W fun e w' => e = .returned (.int .i64 0) ∧ NetR w' m b g lo lc ts (ms.eraseIdx i) ∧ Frm (Foot b g lo) W w' := by
  have FI := Lib.hid (ltr_in b g ts.length ms.length lc lo i W h.cells.1 h.cells.2 (by have := h.pos; omega) (by omega) (by omega))
  obtain ⟨gl, hgl, _⟩ := h.form (by omega)
  have HG := Lib.hid hgl
  have hlt := h.lt
  rw [hgl] at hlt
  have DC := Lib.hid (delete_one gl ms.length lc i ms W rfl hi h.most hlt)
  have c1 := h.cells.2
  have HN := Lib.hid h
  have HI := Lib.hid hi
  have hmm := h.most
  have hbl : Hid (b ≠ gl) := fun e => h.lb 0 none (by rw [hgl, e])
  rw [hgl] at c1
  clear hgl hlt h
  generalize hnn : ms.length = n at *
  have HNN := Lib.hid hnn
  clear hnn
  have i0 : (0 : Int) ≤ (i : Int) := by omega
  have i1 : (i : Int) ≤ 255 := by omega
  clear hi
  go_enter Try.func45, Try.ntmps45
  go_wp2_with (first | (go_at_call 73; refine FI.out.mono ?_; rintro e w1 ⟨rfl, rfl⟩) | (go_at_call 74; refine DC.out.mono ?_; rintro e w1 ⟨rfl, hc⟩; have HC := Lib.hid hc; have c2 := hc.frm.cell c1 hbl.out; have f2 : w1.frozen? ⟨b, 1, none⟩ = false := (World.frozen?_of_block (a := ⟨b, 1, none⟩) (hc.frm.block b HN.out.lt_b hbl.out)).trans (HN.out.free 1).1; clear hc))
  go_ret
  have := HN.out.lose HG.out (by rw [HNN.out]; exact HI.out) (by rw [HNN.out]; exact HC.out)
  rw [HNN.out] at this
  exact ⟨rfl, this⟩
end Go.Proofs.Ytpghehckojdgeaa
