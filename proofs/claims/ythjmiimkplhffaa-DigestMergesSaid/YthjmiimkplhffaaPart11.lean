/- Part 11 of the contracts: DMade, DCommE, DMerges. -/
import Derived.StillTailTactics
import Derived.Deep.RegionHeldLaw
import Derived.Test.YthjmiimkplhffaaPart10

/- The law's made. (By gen_made.py.) -/
set_option linter.unusedVariables false
set_option linter.unusedSimpArgs false
namespace Go.Proofs.Ythjmiimkplhffaa
open Go.RowKit Go.Maps

/-- two cells that hold both digests -/
structure MI (wr : World) (X : Nat → Prop) (B9 B11 tb L n cap : Nat) (F : Int) (ao : Option Addr) (c : Int → Int) : Prop where
  d : wr.heap[B9]? = some (.cells #[.int .i64 (L : Int), .int .i64 F, .pointer (some ⟨tb, 0, none⟩)] 28 (0, 0))
  r : wr.heap[B11]? = some (.cells #[.int .i64 (L : Int), .int .i64 F, .slice ao n cap] 34 (0, 0))
  dig : DigM wr tb L F c
  doc : DocM wr ao n L c
  x9 : X B9
  x11 : X B11
  ne : B9 ≠ B11
  tb : ¬ X tb
  ao : ∀ b, ao = some ⟨b, 0, none⟩ → ¬ X b
  lim : ∀ i, X i → i < wr.heap.size ∧ ∃ cs t f, wr.heap[i]? = some (.cells cs t f)
theorem MI.keep {w w' : World} {X : Nat → Prop} {B9 B11 tb L n cap : Nat} {F : Int} {ao : Option Addr} {c : Int → Int} (h : MI w X B9 B11 tb L n cap F ao c) (hb : Below w.heap.size w w') : MI w' X B9 B11 tb L n cap F ao c :=
  ⟨row_keep hb h.d, row_keep hb h.r, h.dig.keep hb, h.doc.keep hb, h.x9, h.x11, h.ne, h.tb, h.ao, fun i hi => ⟨Nat.lt_of_lt_of_le (h.lim i hi).1 hb.size, by obtain ⟨cs, t, f, k⟩ := (h.lim i hi).2; exact ⟨cs, t, f, row_keep hb k⟩⟩⟩
/-- both cells are written -/
theorem MI.put {w w4 w' : World} {X : Nat → Prop} {B9 B11 tb L n cap tb' n' cap' : Nat} {F : Int} {ao ao' : Option Addr} {c c' : Int → Int} (h : MI w X B9 B11 tb L n cap F ao c) (hb : Below w.heap.size w w4) (hd : DigM w4 tb' L F c') (hr : DocM w4 ao' n' L c') (h1 : tb' = tb ∨ w.heap.size ≤ tb') (h2 : Src w ao ao')
    (hw : w' = (((((w4.setCell ⟨B9, 0, none⟩ (.int .i64 (L : Int))).setCell ⟨B9, 1, none⟩ (.int .i64 F)).setCell ⟨B9, 2, none⟩ (.pointer (some ⟨tb', 0, none⟩))).setCell ⟨B11, 0, none⟩ (.int .i64 (L : Int))).setCell ⟨B11, 1, none⟩ (.int .i64 F)).setCell ⟨B11, 2, none⟩ (.slice ao' n' cap')) :
    MI w' X B9 B11 tb' L n' cap' F ao' c' ∧ Only (fun i => i = B9 ∨ i = B11) w w' := by
  have k := h.keep hb
  have t1 : ¬ X tb' := fun g => by
    rcases h1 with e | e
    · rw [e] at g; exact h.tb g
    · have := (h.lim _ g).1; omega
  have t2 : ∀ b, ao' = some ⟨b, 0, none⟩ → ¬ X b := fun b e g => by
    rcases h2 with q | q
    · exact h.ao b (q ▸ e) g
    · have := (h.lim _ g).1; have := q b e; omega
  have o6 := (set3_only w4 B9 (.int .i64 (L : Int)) (.int .i64 F) (.pointer (some ⟨tb', 0, none⟩))).mono (R := X) (fun i hi => by rw [hi]; exact h.x9)
  have b6 := set3_only w4 B9 (.int .i64 (L : Int)) (.int .i64 F) (.pointer (some ⟨tb', 0, none⟩))
  have s6 := set_three (x := .int .i64 (L : Int)) (y := .int .i64 F) (z := .pointer (some ⟨tb', 0, none⟩)) k.d
  have l11 := (Array.getElem?_eq_some_iff.1 k.r).1
  have l9 := (Array.getElem?_eq_some_iff.1 k.d).1
  have k11 := (b6.block B11 l11 (fun e => h.ne e.symm)).trans k.r
  have lim6 : ∀ i, X i → ∃ cs t f, (((w4.setCell ⟨B9, 0, none⟩ (.int .i64 (L : Int))).setCell ⟨B9, 1, none⟩ (.int .i64 F)).setCell ⟨B9, 2, none⟩ (.pointer (some ⟨tb', 0, none⟩))).heap[i]? = some (.cells cs t f) := fun i hi => by
    by_cases e : i = B9
    · rw [e]; exact ⟨_, _, _, s6⟩
    · obtain ⟨cs, t, f, q⟩ := (k.lim i hi).2
      exact ⟨cs, t, f, (b6.block i (k.lim i hi).1 e).trans q⟩
  have D6 := hd.only o6 t1 (fun i hi _ => (k.lim i hi).2)
  have R6 := hr.only o6 t2
  subst hw
  have z6 := o6.size
  generalize ((w4.setCell ⟨B9, 0, none⟩ (.int .i64 (L : Int))).setCell ⟨B9, 1, none⟩ (.int .i64 F)).setCell ⟨B9, 2, none⟩ (.pointer (some ⟨tb', 0, none⟩)) = w1 at *
  have b7 := set3_only w1 B11 (.int .i64 (L : Int)) (.int .i64 F) (.slice ao' n' cap')
  have o7 := b7.mono (R := X) (fun i hi => by rw [hi]; exact h.x11)
  refine ⟨⟨(b7.block B9 (by omega) h.ne).trans s6, set_three k11, D6.only o7 t1 (fun i hi _ => lim6 i hi), R6.only o7 t2, h.x9, h.x11, h.ne, t1, t2, fun i hi => ⟨by have := o7.size; have := (k.lim i hi).1; omega, ?_⟩⟩, ((Only.of_below hb).trans (b6.mono (fun i hi => .inl hi))).trans (b7.mono (fun i hi => .inr hi))⟩
  by_cases e : i = B11
  · rw [e]; exact ⟨_, _, _, set_three k11⟩
  · obtain ⟨cs, t, f, q⟩ := lim6 i hi
    exact ⟨cs, t, f, (b7.block i (by have := (k.lim i hi).1; omega) e).trans q⟩
theorem both_drew {W w' : World} {B6 B7 tb L n : Nat} {F : Int} {ao : Option Addr} {d : Int → Int} {cs1 cs2 : Array Value} {t1 t2 : TypeId}
    (h : w'.heap[B6]? = some (.cells cs1 t1 (0, 0)) ∧ w'.heap[B7]? = some (.cells cs2 t2 (0, 0)) ∧ DigM w' tb L F d ∧ DocM w' ao n L d ∧ Below W.heap.size W w') :
    w'.drew.heap[B6]? = some (.cells cs1 t1 (0, 0)) ∧ w'.drew.heap[B7]? = some (.cells cs2 t2 (0, 0)) ∧ DigM w'.drew tb L F d ∧ DocM w'.drew ao n L d ∧ Below W.heap.size W w'.drew :=
  ⟨h.1, h.2.1, h.2.2.1.keep (Below.refl _ _).drew, h.2.2.2.1.keep (Below.refl _ _).drew, h.2.2.2.2.drew⟩
def MadePost (L : Nat) (F : Int) (W : World) (e : Ending) (w' : World) : Prop := ∃ tb d ao1 n cap, e = .returned (.tuple #[.agg #[.int .i64 (L : Int), .int .i64 F, .pointer (some ⟨tb, 0, none⟩)], .agg #[.int .i64 (L : Int), .int .i64 F, .slice ao1 n cap], .bool true]) ∧ DigM w' tb L F d ∧ DocM w' ao1 n L d ∧ Below W.heap.size W w'

set_option maxRecDepth 100000 in
set_option maxHeartbeats 8000000 in
theorem made_any (L : Nat) (F : Int) (ao : Option Addr) (la ca : Nat) (xs : List (Int × Int)) (W : World) (hR : Right L F) (hs : Al W ao la xs) (hla : la ≤ 1000) :
    Calls Try.prog 18 #[.int .i64 (L : Int), .int .i64 F, .slice ao la ca] W (MadePost L F W) := by
  obtain ⟨t1, t2, t3, t4⟩ := two_blocks W (.cells #[.int .i64 0, .int .i64 0, .pointer none] 28) (.cells #[.int .i64 0, .int .i64 0, .slice none 0 0] 34)
  have HB := Lib.hid t1
  have R6 := Lib.hid t2
  have R7 := Lib.hid t3
  have HS := Lib.hid hs
  have hL0 : (1 : Int) ≤ (L : Int) := hR.1
  have HRR := Lib.hid hR
  clear t1 t2 t3 t4 hs hR
  go_enter Try.func18, Try.ntmps18
  go_upto_region 1 with fail
  generalize (W.alloc (.cells #[.int .i64 0, .int .i64 0, .pointer none] 28)).alloc (.cells #[.int .i64 0, .int .i64 0, .slice none 0 0] 34) = V at HB R6 R7 ⊢
  generalize hBW : W.heap.size = B at R6 R7 ⊢
  have HBW := Lib.hid hBW
  clear hBW
  go_wp2_with fail
  refine (newYes L F V HRR.out).mono ?_
  rintro e w1 ⟨tb, rfl, hdm, hb1⟩
  have HB1 := Lib.hid hb1
  have D1 := Lib.hid hdm
  clear hb1 hdm
  go_upto_region 2 with fail
  have HB2 := Lib.hid (below_then HB1.out (box_below w1 (.cells #[.int .i64 (L : Int), .int .i64 F, .pointer (some ⟨tb, 0, none⟩)] 28)))
  have R9 := Lib.hid (cells_new w1 #[.int .i64 (L : Int), .int .i64 F, .pointer (some ⟨tb, 0, none⟩)] 28)
  have D2 := Lib.hid (D1.out.keep (box_below w1 (.cells #[.int .i64 (L : Int), .int .i64 F, .pointer (some ⟨tb, 0, none⟩)] 28)))
  have HL9 : Hid (V.heap.size ≤ w1.heap.size ∧ tb < w1.heap.size) := Lib.hid ⟨HB1.out.size, by obtain ⟨mb, _, _, h3, _⟩ := D1.out; exact h3⟩
  generalize w1.alloc (.cells #[.int .i64 (L : Int), .int .i64 F, .pointer (some ⟨tb, 0, none⟩)] 28) = V1 at HB2 R9 D2 ⊢
  generalize w1.heap.size = B9 at R9 HL9 ⊢
  clear HB1 D1
  go_wp2_with fail
  refine (refNew L F V1).mono ?_
  rintro e w2 (⟨_, rfl, hb2⟩ | ⟨hno, _⟩)
  case inr => exact absurd HRR.out hno
  have HB3 := Lib.hid (below_then HB2.out hb2)
  have R9b := Lib.hid (row_keep hb2 R9.out)
  have D3 := Lib.hid (D2.out.keep hb2)
  clear hb2 HB2 R9 D2
  go_upto_region 3 with fail
  have HB4 := Lib.hid (below_then HB3.out (box_below w2 (.cells #[.int .i64 (L : Int), .int .i64 F, .slice none 0 0] 34)))
  have R11 := Lib.hid (cells_new w2 #[.int .i64 (L : Int), .int .i64 F, .slice none 0 0] 34)
  have R9c := Lib.hid (row_keep (box_below w2 (.cells #[.int .i64 (L : Int), .int .i64 F, .slice none 0 0] 34)) R9b.out)
  have D4 := Lib.hid (D3.out.keep (box_below w2 (.cells #[.int .i64 (L : Int), .int .i64 F, .slice none 0 0] 34)))
  have HL11 : Hid (B9 < w2.heap.size) := Lib.hid (Array.getElem?_eq_some_iff.1 R9b.out).1
  have DC := Lib.hid (doc_zero (w2.alloc (.cells #[.int .i64 (L : Int), .int .i64 F, .slice none 0 0] 34)) L (by omega) (by have := HRR.out.2.1; omega))
  generalize w2.alloc (.cells #[.int .i64 (L : Int), .int .i64 F, .slice none 0 0] 34) = V2 at HB4 R9c D4 R11 DC ⊢
  generalize w2.heap.size = B11 at R11 HL11 ⊢
  have HM0 : Hid (MI V2 (fun i => (i = B9 ∨ i = B11) ∨ (i = B ∨ i = B + 1)) B9 B11 tb L 0 0 F none (fun _ => 0)) := Lib.hid ⟨R9c.out, R11.out, D4.out, DC.out, .inl (.inl rfl), .inl (.inr rfl), by have := HL11.out; omega, (fun g => by
    have h9 := HL9.out
    have h11 := HL11.out
    have k6 := row_keep HB4.out R6.out
    have k7 := row_keep HB4.out R7.out
    obtain ⟨mb, hT, _⟩ := D4.out
    have hc := hT.c0
    rcases g with (g | g) | (g | g)
    · omega
    · omega
    · rw [g, (three_cells k6).1] at hc; cases hc
    · rw [g, (three_cells k7).1] at hc; cases hc), fun b e => by simp at e, fun i hi => by
    rcases hi with (e | e) | (e | e)
    · subst e; exact ⟨(Array.getElem?_eq_some_iff.1 R9c.out).1, _, _, _, R9c.out⟩
    · subst e; exact ⟨(Array.getElem?_eq_some_iff.1 R11.out).1, _, _, _, R11.out⟩
    · subst e; exact ⟨(Array.getElem?_eq_some_iff.1 (row_keep HB4.out R6.out)).1, _, _, _, row_keep HB4.out R6.out⟩
    · subst e; exact ⟨(Array.getElem?_eq_some_iff.1 (row_keep HB4.out R7.out)).1, _, _, _, row_keep HB4.out R7.out⟩⟩
  have HLB : Hid (V.heap.size ≤ B9 ∧ V.heap.size ≤ B11) := Lib.hid (by have := HL9.out; have := HL11.out; omega)
  clear HB3 R9b D3 R9c D4 R11 DC HL9 HL11
  go_wp2_with fail
  go_loopg [13, 14] (la + 1) (fun g t13 t14 wr => t13 = .bool true ∧ ∃ (i tb : Nat) (c : Int → Int) (ao1 : Option Addr) (n cap : Nat), t14 = .int .i64 (i : Int) ∧ i ≤ la ∧ i + g = la + 1 ∧ Hid (MI wr (fun i => (i = B9 ∨ i = B11) ∨ (i = B ∨ i = B + 1)) B9 B11 tb L n cap F ao1 c) ∧ Hid (Only (fun i => i = B9 ∨ i = B11) V2 wr))
  case atStart => exact ⟨rfl, 0, tb, fun _ => 0, none, 0, 0, rfl, by omega, by omega, HM0, Lib.hid (Only.refl _ _)⟩
  case round =>
    clear HM0
    obtain ⟨rfl, i, tb, c, ao1, n, cap, rfl, hi, hg, HM, HO⟩ := hrel
    obtain ⟨a0, a1, a2, f0, f1, f2⟩ := three_cells HM.out.d
    obtain ⟨b0, b1, b2, g0, g1, g2⟩ := three_cells HM.out.r
    by_cases hlt : i < la
    · have hlt2 : (i : Int) < (la : Int) := by omega
      obtain ⟨bb, off, rfl, q0, q1⟩ := HS.out.at hlt
      have hbb : bb < W.heap.size := block_lt_of_cell q0
      have hbz := HB.out.size
      have p0 := HO.out.cell (cell_later HB4.out (cell_later HB.out q0)) (by have := HLB.out; show ¬ (bb = B9 ∨ bb = B11); omega)
      have p1 := HO.out.cell (cell_later HB4.out (cell_later HB.out q1)) (by have := HLB.out; show ¬ (bb = B9 ∨ bb = B11); omega)
      have p1 : wr.cell? ⟨bb, off + i * 2 + 1, none⟩ = _ := p1
      generalize (xs[i]?.getD (0, 0)).1 = z1 at p0
      generalize (xs[i]?.getD (0, 0)).2 = z2 at p1
      clear q0 q1 hbb hbz
      go_upto_region 7 with fail
      have LADD : Hid (∀ w', Below wr.heap.size wr w' → Calls Try.prog 16 #[.agg #[.int .i64 (L : Int), .int .i64 F, .pointer (some ⟨tb, 0, none⟩)], .agg #[.int .i64 (L : Int), .int .i64 F, .slice ao1 n cap], .agg #[.int .i64 z1, .int .i64 z2]] w' (BothPost L F tb ao1 w')) := Lib.hid (fun w' hb => lawAdd tb L F c ao1 n cap z1 z2 w' (HM.out.dig.keep hb) (HM.out.doc.keep hb))
      have hne1 : ¬ B9 = B11 := HM.out.ne
      have hne2 : ¬ B11 = B9 := fun e => hne1 e.symm
      go_region_law ((first | ((try go_simp); go_at_call 16; refine (LADD.out _ (below_drewN (Below.refl wr.heap.size wr) 1)).mono ?_; rintro e w4 ⟨tb4, d4, ao4, n4, cap4, he, hd4, hr4, hb4, ho4, hs4⟩; subst he; have B4 := Lib.hid (below_then (below_drewN (Below.refl wr.heap.size wr) 1) hb4); have D4 := Lib.hid hd4; have R4 := Lib.hid hr4; have O4 := Lib.hid ho4; have S4 := Lib.hid hs4; have y9 := three_cells (row_keep B4.out HM.out.d); have y0 := y9.1; have y1 := y9.2.1; have y2 := y9.2.2.1; have y3 := y9.2.2.2.1; have y4 := y9.2.2.2.2.1; have y5 := y9.2.2.2.2.2; have z9 := three_cells (row_keep B4.out HM.out.r); have x0 := z9.1; have x1 := z9.2.1; have x2 := z9.2.2.1; have x3 := z9.2.2.2.1; have x4 := z9.2.2.2.2.1; have x5 := z9.2.2.2.2.2; clear y9 z9 hd4 hr4 hb4 ho4 hs4)))
      all_goals
        have HPUT := Lib.hid (HM.out.put (cap' := cap4) B4.out D4.out R4.out O4.out S4.out rfl)
        clear y0 y1 y2 y3 y4 y5 x0 x1 x2 x3 x4 x5 a0 a1 a2 f0 f1 f2 b0 b1 b2 g0 g1 g2 p0 p1 LADD
        go_wp2_with fail
        go_roundg (gk - 1)
        case measure => omega
        case rel => exact ⟨rfl, i + 1, tb4, d4, ao4, n4, cap4, by go_num, by omega, by omega, Lib.hid HPUT.out.1, Lib.hid (HO.out.trans HPUT.out.2)⟩
    · obtain rfl : i = la := by omega
      have K6 := Lib.hid ((HO.out.block B (by have := HB4.out.size; have := (Array.getElem?_eq_some_iff.1 R6.out).1; omega) (by have := HLB.out; have := (Array.getElem?_eq_some_iff.1 R6.out).1; show ¬ (B = B9 ∨ B = B11); omega)).trans (row_keep HB4.out R6.out))
      have K7 := Lib.hid ((HO.out.block (B + 1) (by have := HB4.out.size; have := (Array.getElem?_eq_some_iff.1 R7.out).1; omega) (by have := HLB.out; have := (Array.getElem?_eq_some_iff.1 R7.out).1; show ¬ (B + 1 = B9 ∨ B + 1 = B11); omega)).trans (row_keep HB4.out R7.out))
      obtain ⟨x0, x1, x2, x3, x4, x5⟩ := three_cells K6.out
      obtain ⟨y0, y1, y2, y3, y4, y5⟩ := three_cells K7.out
      have hlt6 : B + 1 < V.heap.size := (Array.getElem?_eq_some_iff.1 R7.out).1
      have hlb := HLB.out
      have n1 : ¬ B = B9 := by omega
      have n2 : ¬ B = B11 := by omega
      have n3 : ¬ B + 1 = B9 := by omega
      have n4 : ¬ B + 1 = B11 := by omega
      have HWR : Hid (Below W.heap.size W wr) := Lib.hid (by
        have e1 := HB.out.trans (HB4.out.mono HB.out.size)
        have e2 : Only (fun i => W.heap.size ≤ i) W V2 := ⟨e1.os, e1.tape, e1.output, e1.size, fun i hi _ => e1.block i hi⟩
        have e3 := e2.trans (HO.out.mono (R := fun i => W.heap.size ≤ i) (fun i hi => by show W.heap.size ≤ i; have := HBW.out; omega))
        exact e3.below (fun i hi => hi))
      clear hlb hlt6
      go_wp2_with fail
      go_region
      all_goals
        have HD := Lib.hid (both_drew (both_done (B6 := B) (B7 := B + 1) (cap := cap) HWR.out (by have := HBW.out; omega) (by have := HBW.out; omega) (by omega) K6.out K7.out HM.out.dig ⟨fun e => HM.out.tb (.inr (.inl e)), fun e => HM.out.tb (.inr (.inr e))⟩ HM.out.doc (fun b hb => ⟨fun e => HM.out.ao b hb (.inr (.inl e)), fun e => HM.out.ao b hb (.inr (.inr e))⟩) rfl))
        clear x0 x1 x2 x3 x4 x5 y0 y1 y2 y3 y4 y5 a0 a1 a2 f0 f1 f2 b0 b1 b2 g0 g1 g2
        go_wp2
        refine bodyPost_ret (v := .tuple #[.agg #[.int .i64 (L : Int), .int .i64 F, .pointer (some ⟨tb, 0, none⟩)], .agg #[.int .i64 (L : Int), .int .i64 F, .slice ao1 n cap], .bool true]) (results_cell2_tmp Try.results18 _ _ B (B + 1) 28 34 _ _ (0, 0) (0, 0) _ _ rfl HD.out.1 rfl HD.out.2.1 Try.underlying28 (by kernel_rfl) (by kernel_rfl) Try.underlying34 (by kernel_rfl) (by kernel_rfl)) rfl ?_
        exact ⟨tb, c, ao1, n, cap, rfl, HD.out.2.2.1, HD.out.2.2.2.1, HD.out.2.2.2.2⟩
end Go.Proofs.Ythjmiimkplhffaa

/- DigestCommutes, where the law asks for no more than awake. -/
set_option linter.unusedVariables false
set_option linter.unusedSimpArgs false
namespace Go.Proofs.Ythjmiimkplhffaa
open Go.RowKit Go.Maps

set_option maxRecDepth 100000 in
set_option maxHeartbeats 4000000 in
theorem comm_early (l f : Int) (ao bo : Option Addr) (la ca lb cb : Nat) (W : World) (h : 60 < la ∨ 60 < lb ∨ ¬ Right l f) (hla : la ≤ 9223372036854775807) (hlb : lb ≤ 9223372036854775807) :
    Calls Try.prog 10 #[.int .i64 l, .int .i64 f, .slice ao la ca, .slice bo lb cb] W (fun e w' => e = .returned (.bool true) ∧ Below W.heap.size W w') := by
  by_cases h1 : 60 < la
  · have h1 : (60 : Int) < (la : Int) := by omega
    clear h
    go_enter Try.func10, Try.ntmps10
    go_wp2_with (go_at_call 12; refine (awake_any _).mono ?_; rintro e w1 ⟨rfl, hb1⟩)
    go_ret
    exact ⟨rfl, hb1⟩
  · by_cases h2 : 60 < lb
    · have h1 : ¬ (60 : Int) < (la : Int) := by omega
      have h2 : (60 : Int) < (lb : Int) := by omega
      clear h
      go_enter Try.func10, Try.ntmps10
      go_wp2_with (go_at_call 12; refine (awake_any _).mono ?_; rintro e w1 ⟨rfl, hb1⟩)
      go_ret
      exact ⟨rfl, hb1⟩
    · have h3 : ¬ Right l f := by rcases h with h | h | h <;> first | exact h | omega
      have h1 : ¬ (60 : Int) < (la : Int) := by omega
      have h2 : ¬ (60 : Int) < (lb : Int) := by omega
      clear h
      go_enter Try.func10, Try.ntmps10
      go_wp2_with (first | (go_at_call 12; refine (awake_any _).mono ?_; rintro e w1 ⟨rfl, hb1⟩) | (go_at_call 17; refine (right_no l f _ h3).mono ?_; rintro e w0 ⟨rfl, hw0⟩; subst hw0))
      go_ret
      exact ⟨rfl, hb1⟩
end Go.Proofs.Ythjmiimkplhffaa

/- DigestMerges. (By gen_merges.py.) -/
set_option linter.unusedVariables false
set_option linter.unusedSimpArgs false
namespace Go.Proofs.Ythjmiimkplhffaa
open Go.ChangeShapes Go.WideShapes Go.RowKit Go.Maps

set_option maxRecDepth 100000 in
theorem open_two {H : Type} {enc : TypeId × Value → H} {W : World} {v : Value} {d : DataW H} {p : List MemPlace} {base : Nat} (hv : Value.okWide Try.prog W .any base 52 v) (h : DataW.Trod enc Try.prog W 0 (fun _ => true) true 52 v d p) :
    ∃ x y : Int, v = .agg #[.int .i64 x, .int .i64 y] := by
  simp only [Value.okWide, Try.underlying52] at hv
  obtain ⟨cs, rfl, hsz, _⟩ := hv
  have hs2 : cs.size = 2 := hsz.trans (by kernel_rfl)
  obtain ⟨c0, c1, rfl⟩ : ∃ a b, cs = #[a, b] := ⟨cs[0], cs[1], by
    apply Array.ext
    · simpa using hs2
    · intro i h1 h2
      have : i = 0 ∨ i = 1 := by omega
      rcases this with rfl | rfl <;> rfl⟩
  obtain ⟨fuel, hf⟩ := h
  cases fuel with
  | zero => simp [DataW.trod] at hf
  | succ m =>
    rw [DataW.trod_step] at hf
    unfold DataW.trodStep at hf
    have hc1 : Try.prog.cellsOf 3 = 1 := by kernel_rfl
    have hc2 : Try.prog.cellsOf 52 = 2 := by kernel_rfl
    simp only [Try.underlying52, Value.cells, hc1] at hf
    simp [hc2, List.range_succ, List.mapM_cons, Option.bind_eq_some_iff] at hf
    obtain ⟨x, y, e0, z, ⟨x2, y2, e1, _⟩, _⟩ := hf
    obtain ⟨u0, k0, _, _⟩ := DataW.trod_int Try.underlying3 e0
    obtain ⟨u1, k1, _, _⟩ := DataW.trod_int Try.underlying3 e1
    exact ⟨u0, u1, by simpa using And.intro k0 k1⟩

set_option maxRecDepth 100000 in
set_option maxHeartbeats 4000000 in
theorem merges_early (l0 l1 f0 f1 : Int) (ao bo : Option Addr) (la ca lb cb : Nat) (W : World) (h : 60 < la ∨ 60 < lb ∨ ¬ Right l0 f0 ∨ ¬ Right l1 f1) (hla : la ≤ 9223372036854775807) (hlb : lb ≤ 9223372036854775807) :
    Calls Try.prog 5 #[.agg #[.int .i64 l0, .int .i64 l1], .agg #[.int .i64 f0, .int .i64 f1], .slice ao la ca, .slice bo lb cb] W (fun e w' => e = .returned (.bool true) ∧ Below W.heap.size W w') := by
  have HB := Lib.hid (two_blocks W (.cells #[.int .i64 l0, .int .i64 l1] 52) (.cells #[.int .i64 f0, .int .i64 f1] 52)).1
  by_cases h1 : 60 < la
  · have h1 : (60 : Int) < (la : Int) := by omega
    clear h
    go_enter Try.func5, Try.ntmps5
    go_wp2_with (go_at_call 12; refine (awake_any _).mono ?_; rintro e w9 ⟨rfl, hb9⟩)
    go_ret
    exact ⟨rfl, HB.out.trans (hb9.mono HB.out.size)⟩
  · by_cases h2 : 60 < lb
    · have h1 : ¬ (60 : Int) < (la : Int) := by omega
      have h2 : (60 : Int) < (lb : Int) := by omega
      clear h
      go_enter Try.func5, Try.ntmps5
      go_wp2_with (go_at_call 12; refine (awake_any _).mono ?_; rintro e w9 ⟨rfl, hb9⟩)
      go_ret
      exact ⟨rfl, HB.out.trans (hb9.mono HB.out.size)⟩
    · have g1 : ¬ (60 : Int) < (la : Int) := by omega
      have g2 : ¬ (60 : Int) < (lb : Int) := by omega
      by_cases h3 : Right l0 f0
      · have h4 : ¬ Right l1 f1 := by rcases h with h | h | h | h <;> first | exact h | omega | exact absurd h3 h
        clear h
        go_enter Try.func5, Try.ntmps5
        go_wp2_with (first | (go_at_call 12; refine (awake_any _).mono ?_; rintro e w9 ⟨rfl, hb9⟩) | (go_at_call 17; with_reducible refine (right_yes l0 f0 _ h3).mono ?_; rintro e w0 ⟨rfl, hw0⟩; subst hw0) | (go_at_call 17; with_reducible refine (right_no l1 f1 _ h4).mono ?_; rintro e w0 ⟨rfl, hw0⟩; subst hw0))
        go_ret
        exact ⟨rfl, HB.out.trans (hb9.mono HB.out.size)⟩
      · clear h
        go_enter Try.func5, Try.ntmps5
        go_wp2_with (first | (go_at_call 12; refine (awake_any _).mono ?_; rintro e w9 ⟨rfl, hb9⟩) | (go_at_call 17; with_reducible refine (right_no l0 f0 _ h3).mono ?_; rintro e w0 ⟨rfl, hw0⟩; subst hw0))
        go_ret
        exact ⟨rfl, HB.out.trans (hb9.mono HB.out.size)⟩

set_option maxRecDepth 100000 in
set_option maxHeartbeats 4000000 in
theorem refMerge_arg (ao bo : Option Addr) (n cap m mcap L K : Nat) (F G : Int) (W : World) (h : ¬ (L = K ∧ F = G)) :
    Calls Try.prog 24 #[.agg #[.int .i64 (L : Int), .int .i64 F, .slice ao n cap], .agg #[.int .i64 (K : Int), .int .i64 G, .slice bo m mcap]] W (fun e w' => e = .returned (.tuple #[.agg #[.int .i64 0, .int .i64 0, .slice none 0 0], .int .i64 2]) ∧ Below W.heap.size W w') := by
  obtain ⟨t1, t2, t3, t4⟩ := three_blocks W (.cells #[.int .i64 (L : Int), .int .i64 F, .slice ao n cap] 34) (.cells #[.int .i64 (K : Int), .int .i64 G, .slice bo m mcap] 34) (.cells #[.int .i64 0, .int .i64 0, .slice none 0 0] 34)
  have HB := Lib.hid t1
  have R0 := Lib.hid t2
  have R1 := Lib.hid t3
  have RZ := Lib.hid t4
  clear t1 t2 t3 t4
  go_enter Try.func24, Try.ntmps24
  go_upto_region 1 with fail
  generalize ((W.alloc (.cells #[.int .i64 (L : Int), .int .i64 F, .slice ao n cap] 34)).alloc (.cells #[.int .i64 (K : Int), .int .i64 G, .slice bo m mcap] 34)).alloc (.cells #[.int .i64 0, .int .i64 0, .slice none 0 0] 34) = V at HB R0 R1 RZ ⊢
  generalize hBW : W.heap.size = B at R0 R1 RZ ⊢
  have HBW := Lib.hid hBW
  clear hBW
  obtain ⟨a0, a1, a2, _, _, _⟩ := three_cells R0.out
  obtain ⟨b0, b1, b2, _, _, _⟩ := three_cells R1.out
  obtain ⟨y0, y1, y2, z0, z1, z2⟩ := three_cells RZ.out
  by_cases hL : L = K
  · subst hL
    have hF : F ≠ G := fun e => h ⟨rfl, e⟩
    have k1 : ((L : Int) != (L : Int)) = false := by simp
    have k2 : ((F : Int) != G) = true := by simpa using hF
    go_wp2_with fail
    refine bodyPost_ret (v := .tuple #[.agg #[.int .i64 0, .int .i64 0, .slice none 0 0], .int .i64 2]) (results_cell_tmp Try.results24 _ _ (B + 1 + 1) 34 #[.int .i64 0, .int .i64 0, .slice none 0 0] (0, 0) _ rfl (set_three RZ.out) Try.underlying34 (by kernel_rfl) (by kernel_rfl)) rfl ?_
    exact ⟨rfl, only_below HB.out (set3_only _ _ _ _ _) (by have := HBW.out; omega)⟩
  · have hL2 : (L : Int) ≠ (K : Int) := by omega
    have k1 : ((L : Int) != (K : Int)) = true := by simpa using hL2
    have k3 : (L != K) = true := by simpa using hL
    go_wp2_with fail
    refine bodyPost_ret (v := .tuple #[.agg #[.int .i64 0, .int .i64 0, .slice none 0 0], .int .i64 2]) (results_cell_tmp Try.results24 _ _ (B + 1 + 1) 34 #[.int .i64 0, .int .i64 0, .slice none 0 0] (0, 0) _ rfl (set_three RZ.out) Try.underlying34 (by kernel_rfl) (by kernel_rfl)) rfl ?_
    exact ⟨rfl, only_below HB.out (set3_only _ _ _ _ _) (by have := HBW.out; omega)⟩

set_option maxRecDepth 100000 in
set_option maxHeartbeats 16000000 in
theorem merges_main (L K : Nat) (F G : Int) (ao bo : Option Addr) (la ca lb cb : Nat) (xs ys : List (Int × Int)) (W : World) (hR : Right L F) (hR2 : Right K G) (hs : Al W ao la xs) (ht : Al W bo lb ys) (h1 : la ≤ 60) (h2 : lb ≤ 60) :
    Calls Try.prog 5 #[.agg #[.int .i64 (L : Int), .int .i64 (K : Int)], .agg #[.int .i64 F, .int .i64 G], .slice ao la ca, .slice bo lb cb] W (fun e w' => e = .returned (.bool true) ∧ Below W.heap.size W w') := by
  have g1 : ¬ (60 : Int) < (la : Int) := by omega
  have g2 : ¬ (60 : Int) < (lb : Int) := by omega
  obtain ⟨t1, t2, t3, t4⟩ := two_blocks W (.cells #[.int .i64 (L : Int), .int .i64 (K : Int)] 52) (.cells #[.int .i64 F, .int .i64 G] 52)
  have HB := Lib.hid t1
  have RL := Lib.hid t2
  have RF := Lib.hid t3
  have HS := Lib.hid (hs.keep t1)
  have HT := Lib.hid (ht.keep t1)
  have HR := Lib.hid hR
  have HR2 := Lib.hid hR2
  clear t1 t2 t3 t4 hs ht hR hR2
  go_enter Try.func5, Try.ntmps5
  go_upto_region 1 with fail
  generalize (W.alloc (.cells #[.int .i64 (L : Int), .int .i64 (K : Int)] 52)).alloc (.cells #[.int .i64 F, .int .i64 G] 52) = V at HB RL RF HS HT ⊢
  generalize W.heap.size = B at RL RF ⊢
  obtain ⟨a0, a1, _, _⟩ := two_cells RL.out
  obtain ⟨b0, b1, _, _⟩ := two_cells RF.out
  go_wp2_with (first | (go_at_call 17; with_reducible refine (right_yes (L : Int) F _ HR.out).mono ?_; rintro e w0 ⟨rfl, hw0⟩; subst hw0) | (go_at_call 17; with_reducible refine (right_yes (K : Int) G _ HR2.out).mono ?_; rintro e w0 ⟨rfl, hw0⟩; subst hw0))
  refine (made_any L F ao la ca xs _ HR.out HS.out (by omega)).mono ?_
  rintro e w1 ⟨ta, c, ap, np, cp, rfl, hd, hr, hb1⟩
  go_upto_region 4 with fail
  have DA := Lib.hid hd
  have DP := Lib.hid hr
  replace HB := Lib.hid (HB.out.trans (hb1.mono HB.out.size))
  replace RL := Lib.hid (row_keep hb1 RL.out)
  replace RF := Lib.hid (row_keep hb1 RF.out)
  replace HT := Lib.hid (HT.out.keep hb1)
  clear hd hr hb1 a0 a1 b0 b1
  obtain ⟨t1, t2, t3, _⟩ := two_blocks w1 (.cells #[.int .i64 (L : Int), .int .i64 F, .pointer (some ⟨ta, 0, none⟩)] 28) (.cells #[.int .i64 (L : Int), .int .i64 F, .slice ap np cp] 34)
  have RA := Lib.hid t2
  have RP := Lib.hid t3
  replace HB := Lib.hid (HB.out.trans (t1.mono HB.out.size))
  replace RL := Lib.hid (row_keep t1 RL.out)
  replace RF := Lib.hid (row_keep t1 RF.out)
  replace HT := Lib.hid (HT.out.keep t1)
  replace DA := Lib.hid (DA.out.keep t1)
  replace DP := Lib.hid (DP.out.keep t1)
  clear t1 t2 t3
  generalize (w1.alloc (.cells #[.int .i64 (L : Int), .int .i64 F, .pointer (some ⟨ta, 0, none⟩)] 28)).alloc (.cells #[.int .i64 (L : Int), .int .i64 F, .slice ap np cp] 34) = V1 at HB RL RF HT DA DP RA RP ⊢
  generalize w1.heap.size = C at RA RP ⊢
  obtain ⟨a0, a1, _, _⟩ := two_cells RL.out
  obtain ⟨b0, b1, _, _⟩ := two_cells RF.out
  go_wp2_with fail
  refine (made_any K G bo lb cb ys _ HR2.out HT.out (by omega)).mono ?_
  rintro e w2 ⟨tb, k, bp, mp, dp, rfl, hd, hr, hb1⟩
  go_upto_region 5 with fail
  have DB := Lib.hid hd
  have DQ := Lib.hid hr
  replace HB := Lib.hid (HB.out.trans (hb1.mono HB.out.size))
  replace RA := Lib.hid (row_keep hb1 RA.out)
  replace RP := Lib.hid (row_keep hb1 RP.out)
  replace DA := Lib.hid (DA.out.keep hb1)
  replace DP := Lib.hid (DP.out.keep hb1)
  clear hd hr hb1 a0 a1 b0 b1
  obtain ⟨t1, t2, t3, _⟩ := two_blocks w2 (.cells #[.int .i64 (K : Int), .int .i64 G, .pointer (some ⟨tb, 0, none⟩)] 28) (.cells #[.int .i64 (K : Int), .int .i64 G, .slice bp mp dp] 34)
  have RB := Lib.hid t2
  have RQ := Lib.hid t3
  replace HB := Lib.hid (HB.out.trans (t1.mono HB.out.size))
  replace RA := Lib.hid (row_keep t1 RA.out)
  replace RP := Lib.hid (row_keep t1 RP.out)
  replace DA := Lib.hid (DA.out.keep t1)
  replace DP := Lib.hid (DP.out.keep t1)
  replace DB := Lib.hid (DB.out.keep t1)
  replace DQ := Lib.hid (DQ.out.keep t1)
  clear t1 t2 t3
  generalize (w2.alloc (.cells #[.int .i64 (K : Int), .int .i64 G, .pointer (some ⟨tb, 0, none⟩)] 28)).alloc (.cells #[.int .i64 (K : Int), .int .i64 G, .slice bp mp dp] 34) = V2 at HB RA RP DA DP DB DQ RB RQ ⊢
  generalize w2.heap.size = E at RB RQ ⊢
  have HTC : Hid (tot L c ≤ 1099511627776 ∧ 1 ≤ F) := Lib.hid (by obtain ⟨mb, _, _, _, q, _, ht, _⟩ := DA.out; exact ⟨ht, q.2.2.1⟩)
  have HTK : Hid (tot K k ≤ 1099511627776) := Lib.hid (by obtain ⟨mb, _, _, _, q, _, ht, _⟩ := DB.out; exact ht)
  by_cases hsh : L = K ∧ F = G
  · obtain ⟨rfl, rfl⟩ := hsh
    by_cases hf : 1099511627776 - tot L k < tot L c
    · skip
      obtain ⟨a0, a1, a2, _, _, _⟩ := three_cells RA.out
      obtain ⟨b0, b1, b2, _, _, _⟩ := three_cells RB.out
      go_wp2_with fail
      refine (merge_full ta tb L F c k _ DA.out DB.out hf).mono ?_
      rintro e w3 ⟨rfl, hb1⟩
      try unfold zeroD
      replace HB := Lib.hid (HB.out.trans (hb1.mono HB.out.size))
      replace RA := Lib.hid (row_keep hb1 RA.out)
      replace RP := Lib.hid (row_keep hb1 RP.out)
      replace RB := Lib.hid (row_keep hb1 RB.out)
      replace RQ := Lib.hid (row_keep hb1 RQ.out)
      replace DA := Lib.hid (DA.out.keep hb1)
      replace DP := Lib.hid (DP.out.keep hb1)
      replace DB := Lib.hid (DB.out.keep hb1)
      replace DQ := Lib.hid (DQ.out.keep hb1)
      clear hb1 a0 a1 a2 b0 b1 b2
      go_upto_region 6 with fail
      have K9 := box_below w3 (.cells #[.int .i64 0, .int .i64 0, .pointer none] 28)
      have RG := Lib.hid (cells_new w3 #[.int .i64 0, .int .i64 0, .pointer none] 28)
      replace HB := Lib.hid (HB.out.trans (K9.mono HB.out.size))
      replace RA := Lib.hid (row_keep K9 RA.out)
      replace RP := Lib.hid (row_keep K9 RP.out)
      replace RB := Lib.hid (row_keep K9 RB.out)
      replace RQ := Lib.hid (row_keep K9 RQ.out)
      replace DA := Lib.hid (DA.out.keep K9)
      replace DP := Lib.hid (DP.out.keep K9)
      replace DB := Lib.hid (DB.out.keep K9)
      replace DQ := Lib.hid (DQ.out.keep K9)
      clear K9
      generalize w3.alloc (.cells #[.int .i64 0, .int .i64 0, .pointer none] 28) = V3 at HB RA RP RB RQ DA DP DB DQ RG ⊢
      generalize w3.heap.size = G1 at RG ⊢
      obtain ⟨a0, a1, a2, _, _, _⟩ := three_cells RP.out
      obtain ⟨b0, b1, b2, _, _, _⟩ := three_cells RQ.out
      go_wp2_with fail
      refine (refMerge ap bp np cp mp dp L F c k _ DP.out DQ.out HTC.out.1 HTK.out HTC.out.2).mono ?_
      rintro e w4 (⟨_, rfl, hb1⟩ | ⟨hno, _⟩)
      case inr => exact absurd hno (by omega)
      replace HB := Lib.hid (HB.out.trans (hb1.mono HB.out.size))
      replace RA := Lib.hid (row_keep hb1 RA.out)
      replace RP := Lib.hid (row_keep hb1 RP.out)
      replace RB := Lib.hid (row_keep hb1 RB.out)
      replace RQ := Lib.hid (row_keep hb1 RQ.out)
      replace RG := Lib.hid (row_keep hb1 RG.out)
      replace DA := Lib.hid (DA.out.keep hb1)
      replace DP := Lib.hid (DP.out.keep hb1)
      replace DB := Lib.hid (DB.out.keep hb1)
      replace DQ := Lib.hid (DQ.out.keep hb1)
      clear hb1 a0 a1 a2 b0 b1 b2
      go_upto_region 7 with fail
      have K9 := box_below w4 (.cells #[.int .i64 0, .int .i64 0, .slice none 0 0] 34)
      have RH := Lib.hid (cells_new w4 #[.int .i64 0, .int .i64 0, .slice none 0 0] 34)
      replace HB := Lib.hid (HB.out.trans (K9.mono HB.out.size))
      replace RA := Lib.hid (row_keep K9 RA.out)
      replace RP := Lib.hid (row_keep K9 RP.out)
      replace RB := Lib.hid (row_keep K9 RB.out)
      replace RQ := Lib.hid (row_keep K9 RQ.out)
      replace RG := Lib.hid (row_keep K9 RG.out)
      replace DA := Lib.hid (DA.out.keep K9)
      replace DP := Lib.hid (DP.out.keep K9)
      replace DB := Lib.hid (DB.out.keep K9)
      replace DQ := Lib.hid (DQ.out.keep K9)
      clear K9
      generalize w4.alloc (.cells #[.int .i64 0, .int .i64 0, .slice none 0 0] 34) = V4 at HB RA RP RB RQ RG DA DP DB DQ RH ⊢
      generalize w4.heap.size = G2 at RH ⊢
      obtain ⟨a0, a1, a2, _, _, _⟩ := three_cells RG.out
      go_wp2_with (first | (go_at_call 15; refine (same_zero _).mono ?_; rintro e w5 ⟨rfl, hb5⟩; have B5 := Lib.hid hb5; clear hb5) | (go_at_call 12; refine (awake_any _).mono ?_; rintro e w9 ⟨rfl, hb9⟩))
      go_ret
      exact ⟨rfl, HB.out.trans ((below_then B5.out hb9).mono HB.out.size)⟩
    · skip
      obtain ⟨a0, a1, a2, _, _, _⟩ := three_cells RA.out
      obtain ⟨b0, b1, b2, _, _, _⟩ := three_cells RB.out
      go_wp2_with fail
      refine (merge_ok ta tb L F c k _ DA.out DB.out (by omega)).mono ?_
      rintro e w3 ⟨T, d, rfl, hc1, hd, _, hb1⟩
      try unfold zeroD
      have DM := Lib.hid hd
      have HC1 := Lib.hid hc1
      clear hd hc1
      replace HB := Lib.hid (HB.out.trans (hb1.mono HB.out.size))
      replace RA := Lib.hid (row_keep hb1 RA.out)
      replace RP := Lib.hid (row_keep hb1 RP.out)
      replace RB := Lib.hid (row_keep hb1 RB.out)
      replace RQ := Lib.hid (row_keep hb1 RQ.out)
      replace DA := Lib.hid (DA.out.keep hb1)
      replace DP := Lib.hid (DP.out.keep hb1)
      replace DB := Lib.hid (DB.out.keep hb1)
      replace DQ := Lib.hid (DQ.out.keep hb1)
      clear hb1 a0 a1 a2 b0 b1 b2
      go_upto_region 6 with fail
      have K9 := box_below w3 (.cells #[.int .i64 (L : Int), .int .i64 F, .pointer (some ⟨T, 0, none⟩)] 28)
      have RG := Lib.hid (cells_new w3 #[.int .i64 (L : Int), .int .i64 F, .pointer (some ⟨T, 0, none⟩)] 28)
      replace HB := Lib.hid (HB.out.trans (K9.mono HB.out.size))
      replace RA := Lib.hid (row_keep K9 RA.out)
      replace RP := Lib.hid (row_keep K9 RP.out)
      replace RB := Lib.hid (row_keep K9 RB.out)
      replace RQ := Lib.hid (row_keep K9 RQ.out)
      replace DA := Lib.hid (DA.out.keep K9)
      replace DP := Lib.hid (DP.out.keep K9)
      replace DB := Lib.hid (DB.out.keep K9)
      replace DQ := Lib.hid (DQ.out.keep K9)
      replace DM := Lib.hid (DM.out.keep K9)
      clear K9
      generalize w3.alloc (.cells #[.int .i64 (L : Int), .int .i64 F, .pointer (some ⟨T, 0, none⟩)] 28) = V3 at HB RA RP RB RQ DA DP DB DQ DM RG ⊢
      generalize w3.heap.size = G1 at RG ⊢
      obtain ⟨a0, a1, a2, _, _, _⟩ := three_cells RP.out
      obtain ⟨b0, b1, b2, _, _, _⟩ := three_cells RQ.out
      go_wp2_with fail
      refine (refMerge ap bp np cp mp dp L F c k _ DP.out DQ.out HTC.out.1 HTK.out HTC.out.2).mono ?_
      rintro e w4 (⟨hno, _⟩ | ⟨_, d2, aq, nq, cq, rfl, hc2, hr, hb1⟩)
      case inl => exact absurd hno (by omega)
      have hdd : d2 = d := hc2.same HC1.out
      rw [hdd] at hr
      have DN := Lib.hid hr
      clear hr hc2 hdd HC1
      replace HB := Lib.hid (HB.out.trans (hb1.mono HB.out.size))
      replace RA := Lib.hid (row_keep hb1 RA.out)
      replace RP := Lib.hid (row_keep hb1 RP.out)
      replace RB := Lib.hid (row_keep hb1 RB.out)
      replace RQ := Lib.hid (row_keep hb1 RQ.out)
      replace RG := Lib.hid (row_keep hb1 RG.out)
      replace DA := Lib.hid (DA.out.keep hb1)
      replace DP := Lib.hid (DP.out.keep hb1)
      replace DB := Lib.hid (DB.out.keep hb1)
      replace DQ := Lib.hid (DQ.out.keep hb1)
      replace DM := Lib.hid (DM.out.keep hb1)
      clear hb1 a0 a1 a2 b0 b1 b2
      go_upto_region 7 with fail
      have K9 := box_below w4 (.cells #[.int .i64 (L : Int), .int .i64 F, .slice aq nq cq] 34)
      have RH := Lib.hid (cells_new w4 #[.int .i64 (L : Int), .int .i64 F, .slice aq nq cq] 34)
      replace HB := Lib.hid (HB.out.trans (K9.mono HB.out.size))
      replace RA := Lib.hid (row_keep K9 RA.out)
      replace RP := Lib.hid (row_keep K9 RP.out)
      replace RB := Lib.hid (row_keep K9 RB.out)
      replace RQ := Lib.hid (row_keep K9 RQ.out)
      replace RG := Lib.hid (row_keep K9 RG.out)
      replace DA := Lib.hid (DA.out.keep K9)
      replace DP := Lib.hid (DP.out.keep K9)
      replace DB := Lib.hid (DB.out.keep K9)
      replace DQ := Lib.hid (DQ.out.keep K9)
      replace DM := Lib.hid (DM.out.keep K9)
      replace DN := Lib.hid (DN.out.keep K9)
      clear K9
      generalize w4.alloc (.cells #[.int .i64 (L : Int), .int .i64 F, .slice aq nq cq] 34) = V4 at HB RA RP RB RQ RG DA DP DB DQ DM DN RH ⊢
      generalize w4.heap.size = G2 at RH ⊢
      obtain ⟨a0, a1, a2, _, _, _⟩ := three_cells RG.out
      obtain ⟨b0, b1, b2, _, _, _⟩ := three_cells RH.out
      obtain ⟨c0, c1, c2, _, _, _⟩ := three_cells RA.out
      obtain ⟨d0, d1, d2, _, _, _⟩ := three_cells RP.out
      obtain ⟨f0, f1, f2, _, _, _⟩ := three_cells RB.out
      obtain ⟨g0, g1, g2, _, _, _⟩ := three_cells RQ.out
      go_wp2_with (first | (go_at_call 12; refine (awake_any _).mono ?_; rintro e w9 ⟨rfl, hb9⟩) | (go_at_call 15; have _t := qf0; refine (same_eq tb L F k bp mp dp _ (DB.out.keep B6.out) (DQ.out.keep B6.out)).mono ?_; rintro e w7 ⟨rfl, hb7⟩; have B7 := Lib.hid (below_then B6.out hb7); clear hb7) | (go_at_call 15; have _t := pc0; refine (same_eq ta L F c ap np cp _ (DA.out.keep B5.out) (DP.out.keep B5.out)).mono ?_; rintro e w6 ⟨rfl, hb6⟩; have B6 := Lib.hid (below_then B5.out hb6); have qf0 := cell_later hb6 pf0; have qf1 := cell_later hb6 pf1; have qf2 := cell_later hb6 pf2; have qg0 := cell_later hb6 pg0; have qg1 := cell_later hb6 pg1; have qg2 := cell_later hb6 pg2; clear hb6) | (go_at_call 15; refine (same_eq T L F d aq nq cq _ DM.out DN.out).mono ?_; rintro e w5 ⟨rfl, hb5⟩; have B5 := Lib.hid hb5; have pc0 := cell_later hb5 c0; have pc1 := cell_later hb5 c1; have pc2 := cell_later hb5 c2; have pd0 := cell_later hb5 d0; have pd1 := cell_later hb5 d1; have pd2 := cell_later hb5 d2; have pf0 := cell_later hb5 f0; have pf1 := cell_later hb5 f1; have pf2 := cell_later hb5 f2; have pg0 := cell_later hb5 g0; have pg1 := cell_later hb5 g1; have pg2 := cell_later hb5 g2; clear hb5))
      go_ret
      exact ⟨rfl, HB.out.trans ((below_then B7.out hb9).mono HB.out.size)⟩
  · skip
    obtain ⟨a0, a1, a2, _, _, _⟩ := three_cells RA.out
    obtain ⟨b0, b1, b2, _, _, _⟩ := three_cells RB.out
    go_wp2_with fail
    refine (merge_arg ta tb L K F G c k _ DA.out DB.out hsh).mono ?_
    rintro e w3 ⟨rfl, hb1⟩
    try unfold zeroD
    replace HB := Lib.hid (HB.out.trans (hb1.mono HB.out.size))
    replace RA := Lib.hid (row_keep hb1 RA.out)
    replace RP := Lib.hid (row_keep hb1 RP.out)
    replace RB := Lib.hid (row_keep hb1 RB.out)
    replace RQ := Lib.hid (row_keep hb1 RQ.out)
    replace DA := Lib.hid (DA.out.keep hb1)
    replace DP := Lib.hid (DP.out.keep hb1)
    replace DB := Lib.hid (DB.out.keep hb1)
    replace DQ := Lib.hid (DQ.out.keep hb1)
    clear hb1 a0 a1 a2 b0 b1 b2
    go_upto_region 6 with fail
    have K9 := box_below w3 (.cells #[.int .i64 0, .int .i64 0, .pointer none] 28)
    have RG := Lib.hid (cells_new w3 #[.int .i64 0, .int .i64 0, .pointer none] 28)
    replace HB := Lib.hid (HB.out.trans (K9.mono HB.out.size))
    replace RA := Lib.hid (row_keep K9 RA.out)
    replace RP := Lib.hid (row_keep K9 RP.out)
    replace RB := Lib.hid (row_keep K9 RB.out)
    replace RQ := Lib.hid (row_keep K9 RQ.out)
    replace DA := Lib.hid (DA.out.keep K9)
    replace DP := Lib.hid (DP.out.keep K9)
    replace DB := Lib.hid (DB.out.keep K9)
    replace DQ := Lib.hid (DQ.out.keep K9)
    clear K9
    generalize w3.alloc (.cells #[.int .i64 0, .int .i64 0, .pointer none] 28) = V3 at HB RA RP RB RQ DA DP DB DQ RG ⊢
    generalize w3.heap.size = G1 at RG ⊢
    obtain ⟨a0, a1, a2, _, _, _⟩ := three_cells RP.out
    obtain ⟨b0, b1, b2, _, _, _⟩ := three_cells RQ.out
    go_wp2_with fail
    refine (refMerge_arg ap bp np cp mp dp L K F G _ hsh).mono ?_
    rintro e w4 ⟨rfl, hb1⟩
    replace HB := Lib.hid (HB.out.trans (hb1.mono HB.out.size))
    replace RA := Lib.hid (row_keep hb1 RA.out)
    replace RP := Lib.hid (row_keep hb1 RP.out)
    replace RB := Lib.hid (row_keep hb1 RB.out)
    replace RQ := Lib.hid (row_keep hb1 RQ.out)
    replace RG := Lib.hid (row_keep hb1 RG.out)
    replace DA := Lib.hid (DA.out.keep hb1)
    replace DP := Lib.hid (DP.out.keep hb1)
    replace DB := Lib.hid (DB.out.keep hb1)
    replace DQ := Lib.hid (DQ.out.keep hb1)
    clear hb1 a0 a1 a2 b0 b1 b2
    go_upto_region 7 with fail
    have K9 := box_below w4 (.cells #[.int .i64 0, .int .i64 0, .slice none 0 0] 34)
    have RH := Lib.hid (cells_new w4 #[.int .i64 0, .int .i64 0, .slice none 0 0] 34)
    replace HB := Lib.hid (HB.out.trans (K9.mono HB.out.size))
    replace RA := Lib.hid (row_keep K9 RA.out)
    replace RP := Lib.hid (row_keep K9 RP.out)
    replace RB := Lib.hid (row_keep K9 RB.out)
    replace RQ := Lib.hid (row_keep K9 RQ.out)
    replace RG := Lib.hid (row_keep K9 RG.out)
    replace DA := Lib.hid (DA.out.keep K9)
    replace DP := Lib.hid (DP.out.keep K9)
    replace DB := Lib.hid (DB.out.keep K9)
    replace DQ := Lib.hid (DQ.out.keep K9)
    clear K9
    generalize w4.alloc (.cells #[.int .i64 0, .int .i64 0, .slice none 0 0] 34) = V4 at HB RA RP RB RQ RG DA DP DB DQ RH ⊢
    generalize w4.heap.size = G2 at RH ⊢
    obtain ⟨a0, a1, a2, _, _, _⟩ := three_cells RG.out
    go_wp2_with (first | (go_at_call 15; refine (same_zero _).mono ?_; rintro e w5 ⟨rfl, hb5⟩; have B5 := Lib.hid hb5; clear hb5) | (go_at_call 12; refine (awake_any _).mono ?_; rintro e w9 ⟨rfl, hb9⟩))
    go_ret
    exact ⟨rfl, HB.out.trans ((below_then B5.out hb9).mono HB.out.size)⟩

theorem merges_walk (l0 l1 f0 f1 : Int) (ao bo : Option Addr) (la ca lb cb : Nat) (xs ys : List (Int × Int)) (W : World) (hs : Al W ao la xs) (ht : Al W bo lb ys) (hla : la ≤ 9223372036854775807) (hlb : lb ≤ 9223372036854775807) :
    Calls Try.prog 5 #[.agg #[.int .i64 l0, .int .i64 l1], .agg #[.int .i64 f0, .int .i64 f1], .slice ao la ca, .slice bo lb cb] W (fun e w' => e = .returned (.bool true) ∧ Below W.heap.size W w') := by
  by_cases h : 60 < la ∨ 60 < lb ∨ ¬ Right l0 f0 ∨ ¬ Right l1 f1
  · exact merges_early l0 l1 f0 f1 ao bo la ca lb cb W h hla hlb
  · have h1 : la ≤ 60 := Nat.le_of_not_lt fun g => h (.inl g)
    have h2 : lb ≤ 60 := Nat.le_of_not_lt fun g => h (.inr (.inl g))
    have h3 : Right l0 f0 := Classical.byContradiction fun g => h (.inr (.inr (.inl g)))
    have h4 : Right l1 f1 := Classical.byContradiction fun g => h (.inr (.inr (.inr g)))
    obtain ⟨L, rfl⟩ := Int.eq_ofNat_of_zero_le (show 0 ≤ l0 by have := h3.1; omega)
    obtain ⟨K, rfl⟩ := Int.eq_ofNat_of_zero_le (show 0 ≤ l1 by have := h4.1; omega)
    exact merges_main L K f0 f1 ao bo la ca lb cb xs ys W h3 h4 hs ht h1 h2
end Go.Proofs.Ythjmiimkplhffaa
