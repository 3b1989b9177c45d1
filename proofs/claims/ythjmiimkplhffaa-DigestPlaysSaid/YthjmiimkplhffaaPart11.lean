/- Part 11 of the contracts: DPlays. -/
import Derived.Test.YthjmiimkplhffaaPart10

/- DigestPlays, walked. (By gen_plays2.py.) -/
set_option linter.unusedVariables false
set_option linter.unusedSimpArgs false
namespace Go.Proofs.Ythjmiimkplhffaa
open Go.RowKit Go.Maps

theorem own_new3 {w : World} {base g t : Nat} {x y z : Value} (h : w.heap[g]? = some (.cells #[x, y, z] t (0, 0))) (hb : base ≤ g) : w.ownsRow base t 3 (.slice (some ⟨g, 0, none⟩) 1 1) 1 [x, y, z] := by
  refine ⟨rfl, .inr ⟨g, 1, #[x, y, z], rfl, hb, h, ?_⟩⟩
  simp [maxLen]

theorem first_pair {W w : World} {X : Nat → Prop} {B7 B9 tb L : Nat} {F : Int} {c : Int → Int} (h : VI W w X B7 B9 tb L 0 0 F none c (.slice none 0 0) (.slice none 0 0) [] [] 0) :
    (∃ X, VI W ((w.alloc (.cells #[.int .i64 (L : Int), .int .i64 F, .pointer (some ⟨tb, 0, none⟩)] 28)).alloc (.cells #[.int .i64 (L : Int), .int .i64 F, .slice none 0 0] 34)).drew X B7 B9 tb L 0 0 F none c (.slice (some ⟨w.heap.size, 0, none⟩) 1 1) (.slice (some ⟨w.heap.size + 1, 0, none⟩) 1 1) [tb] [(none, 0, 0)] 1) ∧
    (∃ X, VI W ((w.alloc (.cells #[.int .i64 (L : Int), .int .i64 F, .slice none 0 0] 34)).alloc (.cells #[.int .i64 (L : Int), .int .i64 F, .pointer (some ⟨tb, 0, none⟩)] 28)).drew X B7 B9 tb L 0 0 F none c (.slice (some ⟨w.heap.size + 1, 0, none⟩) 1 1) (.slice (some ⟨w.heap.size, 0, none⟩) 1 1) [tb] [(none, 0, 0)] 1) := by
  have hb := h.b.size
  refine ⟨⟨_, h.more (k := 0) ⟨own_new3 (blkB w _ _ _) (by omega), own_new3 (blkC w _ _ _) (by omega), fun b e => ?_, Only.of_below ((box_below w _).alloc (by simp) _).drew, .inr (fun k e => ?_), .inr (fun k e => ?_), by have := (((box_below w (.cells #[.int .i64 (L : Int), .int .i64 F, .pointer (some ⟨tb, 0, none⟩)] 28)).alloc (by simp) (.cells #[.int .i64 (L : Int), .int .i64 F, .slice none 0 0] 34)).drew).size; omega⟩⟩,
    ⟨_, h.more (k := 0) ⟨own_new3 (blkC w _ _ _) (by omega), own_new3 (blkB w _ _ _) (by omega), fun b e => ?_, Only.of_below ((box_below w _).alloc (by simp) _).drew, .inr (fun k e => ?_), .inr (fun k e => ?_), by have := (((box_below w (.cells #[.int .i64 (L : Int), .int .i64 F, .slice none 0 0] 34)).alloc (by simp) (.cells #[.int .i64 (L : Int), .int .i64 F, .pointer (some ⟨tb, 0, none⟩)] 28)).drew).size; omega⟩⟩⟩
  all_goals (simp [Value.ownBlock] at e ⊢; omega)

set_option maxRecDepth 100000 in
set_option maxHeartbeats 4000000 in
theorem plays_early (l f : Int) (ao : Option Addr) (la ca : Nat) (W : World) (h : 80 < la) (hla : la ≤ 9223372036854775807) :
    Calls Try.prog 3 #[.int .i64 l, .int .i64 f, .slice ao la ca] W (fun e w' => e = .returned (.bool true) ∧ Below W.heap.size W w') := by
  have h1 : (80 : Int) < (la : Int) := by omega
  go_enter Try.func3, Try.ntmps3
  go_wp2_with (go_at_call 12; refine (awake_any _).mono ?_; rintro e w9 ⟨rfl, hb9⟩)
  go_ret
  exact ⟨rfl, hb9⟩

set_option maxRecDepth 100000 in
set_option maxHeartbeats 4000000 in
theorem plays_bad (l f : Int) (ao : Option Addr) (la ca : Nat) (W : World) (h : la ≤ 80) (hno : ¬ Right l f) :
    Calls Try.prog 3 #[.int .i64 l, .int .i64 f, .slice ao la ca] W (fun e w' => e = .returned (.bool true) ∧ Below W.heap.size W w') := by
  have h1 : ¬ (80 : Int) < (la : Int) := by omega
  go_enter Try.func3, Try.ntmps3
  go_wp2_with fail
  refine (new_any l f _).mono ?_
  rintro e w1 (⟨hr, _⟩ | ⟨_, rfl, hb1⟩)
  · exact absurd hr hno
  unfold zeroD
  have HB := Lib.hid hb1
  clear hb1
  go_upto_region 4 with fail
  have K1 := Lib.hid (box_below w1 (.cells #[.int .i64 0, .int .i64 0, .pointer none] 28))
  have R7 := Lib.hid (cells_new w1 #[.int .i64 0, .int .i64 0, .pointer none] 28)
  generalize w1.alloc (.cells #[.int .i64 0, .int .i64 0, .pointer none] 28) = V1 at K1 R7 ⊢
  have HB1 := Lib.hid (below_then HB.out K1.out)
  generalize w1.heap.size = B7 at R7 ⊢
  go_wp2_with fail
  refine (refNew l f V1).mono ?_
  rintro e w2 (⟨hr, _⟩ | ⟨_, rfl, hb2⟩)
  · exact absurd hr hno
  have HB2 := Lib.hid (below_then HB1.out hb2)
  have R7b := Lib.hid (row_keep hb2 R7.out)
  clear hb2 R7 HB1 HB K1
  go_upto_region 5 with fail
  have K2 := Lib.hid (box_below w2 (.cells #[.int .i64 0, .int .i64 0, .slice none 0 0] 34))
  have R9 := Lib.hid (cells_new w2 #[.int .i64 0, .int .i64 0, .slice none 0 0] 34)
  have R7c := Lib.hid (row_keep K2.out R7b.out)
  generalize w2.alloc (.cells #[.int .i64 0, .int .i64 0, .slice none 0 0] 34) = V2 at K2 R9 R7c ⊢
  have HB3 := Lib.hid (below_then HB2.out K2.out)
  generalize w2.heap.size = B9 at R9 ⊢
  obtain ⟨a0, a1, a2, _, _, _⟩ := three_cells R7c.out
  obtain ⟨b0, b1, b2, _, _, _⟩ := three_cells R9.out
  go_wp2_with (first | (go_at_call 15; refine (same_zero _).mono ?_; rintro e w4 ⟨rfl, hb4⟩; have B4 := Lib.hid hb4; clear hb4) | (go_at_call 12; refine (awake_any _).mono ?_; rintro e w9 ⟨rfl, hb9⟩))
  go_ret
  exact ⟨rfl, HB3.out.trans ((below_then B4.out hb9).mono HB3.out.size)⟩

set_option maxRecDepth 100000 in
set_option maxHeartbeats 16000000 in
theorem plays_main (L : Nat) (F : Int) (ao : Option Addr) (la ca : Nat) (xs : List (Int × Int)) (W : World) (hR : Right L F) (hs : Al W ao la xs) (hla : la ≤ 80) :
    Calls Try.prog 3 #[.int .i64 (L : Int), .int .i64 F, .slice ao la ca] W (fun e w' => e = .returned (.bool true) ∧ Below W.heap.size W w') := by
  have h1 : ¬ (80 : Int) < (la : Int) := by omega
  have HS := Lib.hid hs
  have hL0 : (1 : Int) ≤ (L : Int) := hR.1
  have HRR := Lib.hid hR
  clear hs hR
  go_enter Try.func3, Try.ntmps3
  go_wp2_with fail
  refine (newYes L F W HRR.out).mono ?_
  rintro e w1 ⟨tb, rfl, hdm, hb1⟩
  have HB1 := Lib.hid hb1
  have D1 := Lib.hid hdm
  clear hb1 hdm
  go_upto_region 4 with fail
  have K1 := box_below w1 (.cells #[.int .i64 (L : Int), .int .i64 F, .pointer (some ⟨tb, 0, none⟩)] 28)
  have HB2 := Lib.hid (below_then HB1.out K1)
  have R9 := Lib.hid (cells_new w1 #[.int .i64 (L : Int), .int .i64 F, .pointer (some ⟨tb, 0, none⟩)] 28)
  have D2 := Lib.hid (D1.out.keep K1)
  have HL9 : Hid (W.heap.size ≤ w1.heap.size ∧ tb < w1.heap.size) := Lib.hid ⟨HB1.out.size, by obtain ⟨mb, _, _, h3, _⟩ := D1.out; exact h3⟩
  clear K1
  generalize w1.alloc (.cells #[.int .i64 (L : Int), .int .i64 F, .pointer (some ⟨tb, 0, none⟩)] 28) = V1 at HB2 R9 D2 ⊢
  generalize w1.heap.size = B7 at R9 HL9 ⊢
  clear HB1 D1
  go_wp2_with fail
  refine (refNew L F V1).mono ?_
  rintro e w2 (⟨_, rfl, hb2⟩ | ⟨hno, _⟩)
  case inr => exact absurd HRR.out hno
  have HB3 := Lib.hid (below_then HB2.out hb2)
  have R9b := Lib.hid (row_keep hb2 R9.out)
  have D3 := Lib.hid (D2.out.keep hb2)
  clear hb2 HB2 R9 D2
  go_upto_region 5 with fail
  have K2 := box_below w2 (.cells #[.int .i64 (L : Int), .int .i64 F, .slice none 0 0] 34)
  have HB4 := Lib.hid (below_then HB3.out K2)
  have R11 := Lib.hid (cells_new w2 #[.int .i64 (L : Int), .int .i64 F, .slice none 0 0] 34)
  have R9c := Lib.hid (row_keep K2 R9b.out)
  have D4 := Lib.hid (D3.out.keep K2)
  clear K2
  have HL11 : Hid (B7 < w2.heap.size) := Lib.hid (Array.getElem?_eq_some_iff.1 R9b.out).1
  have DC := Lib.hid (doc_zero (w2.alloc (.cells #[.int .i64 (L : Int), .int .i64 F, .slice none 0 0] 34)) L (by omega) (by have := HRR.out.2.1; omega))
  generalize w2.alloc (.cells #[.int .i64 (L : Int), .int .i64 F, .slice none 0 0] 34) = V2 at HB4 R9c D4 R11 DC ⊢
  generalize w2.heap.size = B9 at R11 HL11 ⊢
  have HV0 : Hid (VI W V2 (fun b => b = B7 ∨ b = B9) B7 B9 tb L 0 0 F none (fun _ => 0) (.slice none 0 0) (.slice none 0 0) [] [] 0) := Lib.hid ⟨⟨R9c.out, R11.out, D4.out, DC.out, .inl rfl, .inr rfl, by have := HL11.out; omega, (fun g => by have := HL9.out; have := HL11.out; omega), fun b e => by simp at e, (fun i hi => by
    rcases hi with e | e
    · subst e; exact ⟨(Array.getElem?_eq_some_iff.1 R9c.out).1, _, _, _, R9c.out⟩
    · subst e; exact ⟨(Array.getElem?_eq_some_iff.1 R11.out).1, _, _, _, R11.out⟩)⟩, World.ownsRow_nil _ _ _ _, World.ownsRow_nil _ _ _ _, fun b hb => by simp [Value.ownBlock] at hb, rfl, rfl, fun b hb => by simp [Value.ownBlock] at hb, fun b hb => by simp [Value.ownBlock] at hb, (fun b hb => by have := HL9.out; have := HL11.out; omega), fun i hi => by omega, HB4.out⟩
  obtain ⟨a0, a1, a2, _, _, _⟩ := three_cells R9c.out
  obtain ⟨b0, b1, b2, _, _, _⟩ := three_cells R11.out
  clear HB3 R9b D3 R9c D4 R11 DC HL9 HL11 HB4
  go_wp2_with (go_at_call 15; refine (same_eq tb L F (fun _ => 0) none 0 0 V2 HV0.out.mi.dig HV0.out.mi.doc).mono ?_; rintro e w4 ⟨rfl, hb4⟩; have HV1 := Lib.hid (HV0.out.keep hb4); clear hb4)
  clear a0 a1 a2 b0 b1 b2 HV0
  obtain ⟨a0, a1, a2, _, _, _⟩ := three_cells HV1.out.mi.d
  obtain ⟨b0, b1, b2, _, _, _⟩ := three_cells HV1.out.mi.r
  have HFP := Lib.hid (first_pair HV1.out)
  go_cut [11, 12] (fun v11 v12 wx => ∃ X, VI W wx X B7 B9 tb L 0 0 F none (fun _ => 0) v11 v12 [tb] [(none, 0, 0)] 1)
  case first =>
    go_region_held3 (fun w' => w'.cell? ⟨B7, 0, none⟩ = some (.int .i64 (L : Int)) ∧ w'.cell? ⟨B7, 1, none⟩ = some (.int .i64 F) ∧ w'.cell? ⟨B7, 2, none⟩ = some (.pointer (some ⟨tb, 0, none⟩)) ∧ w'.cell? ⟨B9, 0, none⟩ = some (.int .i64 (L : Int)) ∧ w'.cell? ⟨B9, 1, none⟩ = some (.int .i64 F) ∧ w'.cell? ⟨B9, 2, none⟩ = some (.slice none 0 0)) (first | go_keep | assumption) (first | fail)
    all_goals go_wp2_with fail
    all_goals go_meet
    all_goals first | exact HFP.out.1 | exact HFP.out.2
  case rest =>
    obtain ⟨X, hVI⟩ := hcut
    have HVI := Lib.hid hVI
    clear hVI HV1 HFP a0 a1 a2 b0 b1 b2
    go_wp2_with fail
    go_loopg [11, 12, 13, 14] (la + 1) (fun g t11 t12 t13 t14 wr => t13 = .bool true ∧ ∃ (i tb : Nat) (X : Nat → Prop) (c : Int → Int) (ao1 : Option Addr) (n cap : Nat) (ds : List Nat) (rs : List (Option Addr × Nat × Nat)), t14 = .int .i64 (i : Int) ∧ i ≤ la ∧ i + g = la + 1 ∧ Hid (VI W wr X B7 B9 tb L n cap F ao1 c t11 t12 ds rs (i + 1)))
    case atStart => exact ⟨rfl, 0, tb, X, fun _ => 0, none, 0, 0, [tb], [(none, 0, 0)], rfl, by omega, by omega, HVI⟩
    case round =>
      clear HVI
      obtain ⟨rfl, i, tb, X, c, ao1, n, cap, ds, rs, rfl, hi, hg, HV⟩ := hrel
      obtain ⟨u, hu⟩ : ∃ u, u = u11 := ⟨_, rfl⟩
      obtain ⟨v, hv⟩ : ∃ v, v = u12 := ⟨_, rfl⟩
      subst hu hv
      by_cases hlt : i < la
      · have hlt2 : (i : Int) < (la : Int) := by omega
        obtain ⟨a0, a1, a2, f0, f1, f2⟩ := three_cells HV.out.mi.d
        obtain ⟨b0, b1, b2, g0, g1, g2⟩ := three_cells HV.out.mi.r
        obtain ⟨bb, off, rfl, q0, q1⟩ := HS.out.at hlt
        have p0 := cell_later HV.out.b q0
        have p1 := cell_later HV.out.b q1
        have p1 : wr.cell? ⟨bb, off + i * 2 + 1, none⟩ = _ := p1
        generalize (xs[i]?.getD (0, 0)).1 = z1 at p0
        generalize (xs[i]?.getD (0, 0)).2 = z2 at p1
        have hne1 : ¬ B7 = B9 := HV.out.mi.ne
        have hne2 : ¬ B9 = B7 := fun e => hne1 e.symm
        clear q0 q1
        have LADD : Hid (∀ w', Below wr.heap.size wr w' → Calls Try.prog 16 #[.agg #[.int .i64 (L : Int), .int .i64 F, .pointer (some ⟨tb, 0, none⟩)], .agg #[.int .i64 (L : Int), .int .i64 F, .slice ao1 n cap], .agg #[.int .i64 z1, .int .i64 z2]] w' (BothPost L F tb ao1 w')) := Lib.hid (fun w' hb => lawAdd tb L F c ao1 n cap z1 z2 w' (HV.out.mi.dig.keep hb) (HV.out.mi.doc.keep hb))
        go_upto_region 14 with fail
        go_cut [13] (fun v13 wx => v13 = .bool true ∧ ∃ tb4 d4 ao4 n4 cap4, VI W wx X B7 B9 tb4 L n4 cap4 F ao4 d4 u v ds rs (i + 1))
        case first =>
         go_region_law ((first | ((try go_simp); go_at_call 16; refine (LADD.out _ (below_drewN (Below.refl wr.heap.size wr) 1)).mono ?_; rintro e w4 ⟨tb4, d4, ao4, n4, cap4, he, hd4, hr4, hb4, ho4, hs4⟩; subst he; have B4 := Lib.hid (below_then (below_drewN (Below.refl wr.heap.size wr) 1) hb4); have D4 := Lib.hid hd4; have R4 := Lib.hid hr4; have O4 := Lib.hid ho4; have S4 := Lib.hid hs4; have y9 := three_cells (row_keep B4.out HV.out.mi.d); have y0 := y9.1; have y1 := y9.2.1; have y2 := y9.2.2.1; have y3 := y9.2.2.2.1; have y4 := y9.2.2.2.2.1; have y5 := y9.2.2.2.2.2; have z9 := three_cells (row_keep B4.out HV.out.mi.r); have x0 := z9.1; have x1 := z9.2.1; have x2 := z9.2.2.1; have x3 := z9.2.2.2.1; have x4 := z9.2.2.2.2.1; have x5 := z9.2.2.2.2.2; clear y9 z9 hd4 hr4 hb4 ho4 hs4)))
         all_goals
          go_wp2_with fail
          go_meet
          exact ⟨rfl, tb4, d4, ao4, n4, cap4, HV.out.put (cap' := cap4) B4.out D4.out R4.out O4.out S4.out rfl⟩
        case rest =>
          obtain ⟨rfl, tb4, d4, ao4, n4, cap4, hv5⟩ := hcut
          have HW := Lib.hid hv5
          obtain ⟨w5, hw5⟩ : ∃ w, w = wc := ⟨_, rfl⟩
          subst hw5
          clear hv5 a0 a1 a2 f0 f1 f2 b0 b1 b2 g0 g1 g2 p0 p1 LADD hne1 hne2
          go_upto_region 17 with fail
          obtain ⟨d0, d1, d2, _, _, _⟩ := three_cells HW.out.mi.d
          obtain ⟨e0, e1, e2, _, _, _⟩ := three_cells HW.out.mi.r
          have n7 : ¬ (u.ownBlock = some B7 ∨ v.ownBlock = some B7) := fun e => by
            rcases e with e | e
            · exact (HW.out.xu _ e).2.1 rfl
            · exact (HW.out.xv _ e).2.1 rfl
          have n9 : ¬ (u.ownBlock = some B9 ∨ v.ownBlock = some B9) := fun e => by
            rcases e with e | e
            · exact (HW.out.xu _ e).2.2 rfl
            · exact (HW.out.xv _ e).2.2 rfl
          have HP : Hid (PairD w5 u v W.heap.size w5 28 34 u (i + 1) (dcells L F ds) v (i + 1) (rcells L F rs)) := Lib.hid ⟨HW.out.ru, HW.out.rv, HW.out.ne, Only.refl _ _, .inl rfl, .inl rfl, HW.out.b.size⟩
          have hn9 : i + 1 ≤ 100000 := by omega
          go_region_held3 (fun w' => w'.cell? ⟨B7, 0, none⟩ = some (.int .i64 (L : Int)) ∧ w'.cell? ⟨B7, 1, none⟩ = some (.int .i64 F) ∧ w'.cell? ⟨B7, 2, none⟩ = some (.pointer (some ⟨tb4, 0, none⟩)) ∧ w'.cell? ⟨B9, 0, none⟩ = some (.int .i64 (L : Int)) ∧ w'.cell? ⟨B9, 1, none⟩ = some (.int .i64 F) ∧ w'.cell? ⟨B9, 2, none⟩ = some (.slice ao4 n4 cap4))
            (first | with_reducible exact ⟨HP.out.drew.fr.cell d0 n7, HP.out.drew.fr.cell d1 n7, HP.out.drew.fr.cell d2 n7, HP.out.drew.fr.cell e0 n9, HP.out.drew.fr.cell e1 n9, HP.out.drew.fr.cell e2 n9⟩ | with_reducible exact ⟨(HP.out.alloc _).drew.fr.cell d0 n7, (HP.out.alloc _).drew.fr.cell d1 n7, (HP.out.alloc _).drew.fr.cell d2 n7, (HP.out.alloc _).drew.fr.cell e0 n9, (HP.out.alloc _).drew.fr.cell e1 n9, (HP.out.alloc _).drew.fr.cell e2 n9⟩ | with_reducible exact ⟨((HP.out.alloc _).alloc _).drew.fr.cell d0 n7, ((HP.out.alloc _).alloc _).drew.fr.cell d1 n7, ((HP.out.alloc _).alloc _).drew.fr.cell d2 n7, ((HP.out.alloc _).alloc _).drew.fr.cell e0 n9, ((HP.out.alloc _).alloc _).drew.fr.cell e1 n9, ((HP.out.alloc _).alloc _).drew.fr.cell e2 n9⟩ | exact ⟨hp1.fr.cell d0 n7, hp1.fr.cell d1 n7, hp1.fr.cell d2 n7, hp1.fr.cell e0 n9, hp1.fr.cell e1 n9, hp1.fr.cell e2 n9⟩ | exact ⟨(hp1.alloc _).fr.cell d0 n7, (hp1.alloc _).fr.cell d1 n7, (hp1.alloc _).fr.cell d2 n7, (hp1.alloc _).fr.cell e0 n9, (hp1.alloc _).fr.cell e1 n9, (hp1.alloc _).fr.cell e2 n9⟩ | exact ⟨hp2.fr.cell d0 n7, hp2.fr.cell d1 n7, hp2.fr.cell d2 n7, hp2.fr.cell e0 n9, hp2.fr.cell e1 n9, hp2.fr.cell e2 n9⟩ | exact ⟨(hp2.alloc _).fr.cell d0 n7, (hp2.alloc _).fr.cell d1 n7, (hp2.alloc _).fr.cell d2 n7, (hp2.alloc _).fr.cell e0 n9, (hp2.alloc _).fr.cell e1 n9, (hp2.alloc _).fr.cell e2 n9⟩ | go_keep | assumption)
            (first
                | (refine step_appD (W0 := w5) (n := i + 1) (by rfl) (.tmp 67) (.tmp 69) 38 (by rfl) (tu := 28) (z := .agg #[.int .i64 0, .int .i64 0, .pointer none]) (by8 := 24) Try.underlying38 (by kernel_rfl) (by rfl) (by omega) (by rfl) (by exact (HP.out.alloc _).drew) (by rfl) (x0 := .int .i64 (L : Int)) (x1 := .int .i64 F) (x2 := .pointer (some ⟨tb4, 0, none⟩)) (tg := 28) (by exact blkA _ _ _) ⟨rfl, rfl, rfl⟩ hn9 ?_; intro u1 w6 hp1 hk1)
                | (refine step_appD (W0 := w5) (n := i + 1) (by rfl) (.tmp 67) (.tmp 69) 38 (by rfl) (tu := 28) (z := .agg #[.int .i64 0, .int .i64 0, .pointer none]) (by8 := 24) Try.underlying38 (by kernel_rfl) (by rfl) (by omega) (by rfl) (by exact ((HP.out.alloc _).alloc _).drew) (by rfl) (x0 := .int .i64 (L : Int)) (x1 := .int .i64 F) (x2 := .pointer (some ⟨tb4, 0, none⟩)) (tg := 28) (by exact blkB _ _ _ _) ⟨rfl, rfl, rfl⟩ hn9 ?_; intro u1 w6 hp1 hk1)
                | (refine step_appD (W0 := w5) (n := i + 1) (by rfl) (.tmp 67) (.tmp 69) 38 (by rfl) (tu := 28) (z := .agg #[.int .i64 0, .int .i64 0, .pointer none]) (by8 := 24) Try.underlying38 (by kernel_rfl) (by rfl) (by omega) (by rfl) (by exact ((HP.out.alloc _).alloc _).drew) (by rfl) (x0 := .int .i64 (L : Int)) (x1 := .int .i64 F) (x2 := .pointer (some ⟨tb4, 0, none⟩)) (tg := 28) (by exact blkC _ _ _ _) ⟨rfl, rfl, rfl⟩ hn9 ?_; intro u1 w6 hp1 hk1)
                | (refine step_appD (W0 := w5) (n := i + 1) (by rfl) (.tmp 67) (.tmp 69) 38 (by rfl) (tu := 28) (z := .agg #[.int .i64 0, .int .i64 0, .pointer none]) (by8 := 24) Try.underlying38 (by kernel_rfl) (by rfl) (by omega) (by rfl) (by exact hp2) (by rfl) (x0 := .int .i64 (L : Int)) (x1 := .int .i64 F) (x2 := .pointer (some ⟨tb4, 0, none⟩)) (tg := 28) (by exact hk2 _ _ (blkB _ _ _ _) (HP.out.far2 _ (Nat.le_refl _))) ⟨rfl, rfl, rfl⟩ hn9 ?_; intro u1 w6 hp1 hk1)
                | (refine step_appD (W0 := w5) (n := i + 1) (by rfl) (.tmp 67) (.tmp 69) 38 (by rfl) (tu := 28) (z := .agg #[.int .i64 0, .int .i64 0, .pointer none]) (by8 := 24) Try.underlying38 (by kernel_rfl) (by rfl) (by omega) (by rfl) (by exact hp2) (by rfl) (x0 := .int .i64 (L : Int)) (x1 := .int .i64 F) (x2 := .pointer (some ⟨tb4, 0, none⟩)) (tg := 28) (by exact hk2 _ _ (blkC _ _ _ _) (HP.out.far2 _ (Nat.le_succ _))) ⟨rfl, rfl, rfl⟩ hn9 ?_; intro u1 w6 hp1 hk1)
                | (refine step_appD (W0 := w5) (n := i + 1) (by rfl) (.tmp 67) (.tmp 69) 38 (by rfl) (tu := 28) (z := .agg #[.int .i64 0, .int .i64 0, .pointer none]) (by8 := 24) Try.underlying38 (by kernel_rfl) (by rfl) (by omega) (by rfl) (by exact (hp2.alloc _)) (by rfl) (x0 := .int .i64 (L : Int)) (x1 := .int .i64 F) (x2 := .pointer (some ⟨tb4, 0, none⟩)) (tg := 28) (by exact blkD _ _ _) ⟨rfl, rfl, rfl⟩ hn9 ?_; intro u1 w6 hp1 hk1)
                | (refine step_appD2 (W0 := w5) (m := i + 1) (by rfl) (.tmp 71) (.tmp 73) 39 (by rfl) (tv := 34) (z := .agg #[.int .i64 0, .int .i64 0, .slice none 0 0]) (by8 := 40) Try.underlying39 (by kernel_rfl) (by rfl) (by omega) (by rfl) (by exact (HP.out.alloc _).drew) (by rfl) (x0 := .int .i64 (L : Int)) (x1 := .int .i64 F) (x2 := .slice ao4 n4 cap4) (tg := 34) (by exact blkA _ _ _) ⟨rfl, rfl, rfl⟩ hn9 ?_; intro v1 w7 hp2 hk2)
                | (refine step_appD2 (W0 := w5) (m := i + 1) (by rfl) (.tmp 71) (.tmp 73) 39 (by rfl) (tv := 34) (z := .agg #[.int .i64 0, .int .i64 0, .slice none 0 0]) (by8 := 40) Try.underlying39 (by kernel_rfl) (by rfl) (by omega) (by rfl) (by exact ((HP.out.alloc _).alloc _).drew) (by rfl) (x0 := .int .i64 (L : Int)) (x1 := .int .i64 F) (x2 := .slice ao4 n4 cap4) (tg := 34) (by exact blkB _ _ _ _) ⟨rfl, rfl, rfl⟩ hn9 ?_; intro v1 w7 hp2 hk2)
                | (refine step_appD2 (W0 := w5) (m := i + 1) (by rfl) (.tmp 71) (.tmp 73) 39 (by rfl) (tv := 34) (z := .agg #[.int .i64 0, .int .i64 0, .slice none 0 0]) (by8 := 40) Try.underlying39 (by kernel_rfl) (by rfl) (by omega) (by rfl) (by exact ((HP.out.alloc _).alloc _).drew) (by rfl) (x0 := .int .i64 (L : Int)) (x1 := .int .i64 F) (x2 := .slice ao4 n4 cap4) (tg := 34) (by exact blkC _ _ _ _) ⟨rfl, rfl, rfl⟩ hn9 ?_; intro v1 w7 hp2 hk2)
                | (refine step_appD2 (W0 := w5) (m := i + 1) (by rfl) (.tmp 71) (.tmp 73) 39 (by rfl) (tv := 34) (z := .agg #[.int .i64 0, .int .i64 0, .slice none 0 0]) (by8 := 40) Try.underlying39 (by kernel_rfl) (by rfl) (by omega) (by rfl) (by exact hp1) (by rfl) (x0 := .int .i64 (L : Int)) (x1 := .int .i64 F) (x2 := .slice ao4 n4 cap4) (tg := 34) (by exact hk1 _ _ (blkB _ _ _ _) (HP.out.far1 _ (Nat.le_refl _))) ⟨rfl, rfl, rfl⟩ hn9 ?_; intro v1 w7 hp2 hk2)
                | (refine step_appD2 (W0 := w5) (m := i + 1) (by rfl) (.tmp 71) (.tmp 73) 39 (by rfl) (tv := 34) (z := .agg #[.int .i64 0, .int .i64 0, .slice none 0 0]) (by8 := 40) Try.underlying39 (by kernel_rfl) (by rfl) (by omega) (by rfl) (by exact hp1) (by rfl) (x0 := .int .i64 (L : Int)) (x1 := .int .i64 F) (x2 := .slice ao4 n4 cap4) (tg := 34) (by exact hk1 _ _ (blkC _ _ _ _) (HP.out.far1 _ (Nat.le_succ _))) ⟨rfl, rfl, rfl⟩ hn9 ?_; intro v1 w7 hp2 hk2)
                | (refine step_appD2 (W0 := w5) (m := i + 1) (by rfl) (.tmp 71) (.tmp 73) 39 (by rfl) (tv := 34) (z := .agg #[.int .i64 0, .int .i64 0, .slice none 0 0]) (by8 := 40) Try.underlying39 (by kernel_rfl) (by rfl) (by omega) (by rfl) (by exact (hp1.alloc _)) (by rfl) (x0 := .int .i64 (L : Int)) (x1 := .int .i64 F) (x2 := .slice ao4 n4 cap4) (tg := 34) (by exact blkD _ _ _) ⟨rfl, rfl, rfl⟩ hn9 ?_; intro v1 w7 hp2 hk2))
          all_goals
            have HN := Lib.hid (show ∃ X, VI W _ X B7 B9 tb4 L n4 cap4 F ao4 d4 u1 v1 (ds ++ [tb4]) (rs ++ [(ao4, n4, cap4)]) (i + 1 + 1) from ⟨_, HW.out.more (by first | exact hp2 | exact hp1)⟩)
            clear hp1 hp2 hk1 hk2 d0 d1 d2 e0 e1 e2 n7 n9
            go_wp2_with fail
            go_roundg (gk - 1)
            case measure => omega
            case rel =>
              obtain ⟨X2, hX2⟩ := HN.out
              exact ⟨rfl, i + 1, tb4, X2, d4, ao4, n4, cap4, ds ++ [tb4], rs ++ [(ao4, n4, cap4)], by go_num, by omega, by omega, Lib.hid hX2⟩
      · obtain rfl : i = la := by omega
        obtain ⟨W3, hW3⟩ : ∃ w, w = wr := ⟨_, rfl⟩
        subst hW3
        have hk9 : i + 1 ≤ 81 := by omega
        have hk0 : 1 ≤ i + 1 := by omega
        generalize i + 1 = k at HV hk9 hk0
        have hus : ∃ g cap, u = .slice (some ⟨g, 0, none⟩) k cap := by
          rcases HV.out.ru.2 with ⟨_, e⟩ | ⟨g, cap, _, e, _⟩
          · omega
          · exact ⟨g, cap, e⟩
        have hvs : ∃ g cap, v = .slice (some ⟨g, 0, none⟩) k cap := by
          rcases HV.out.rv.2 with ⟨_, e⟩ | ⟨g, cap, _, e, _⟩
          · omega
          · exact ⟨g, cap, e⟩
        obtain ⟨gu, cu, rfl⟩ := hus
        obtain ⟨gv, cv, rfl⟩ := hvs
        go_wp2_with fail
        go_loopg [15] (k + 1) (fun g t15 wr => ∃ j : Nat, t15 = .int .i64 (j : Int) ∧ j ≤ k ∧ j + g = k + 1 ∧ Hid (Below W3.heap.size W3 wr))
        case atStart => exact ⟨0, rfl, by omega, by omega, Lib.hid (Below.refl _ _)⟩
        case round =>
          obtain ⟨j, rfl, hj, hg3, HB⟩ := hrel
          by_cases hlt2 : j < k
          · have hlt3 : (j : Int) < (k : Int) := by omega
            obtain ⟨d, k1, k2, _, _⟩ := HV.out.all j hlt2
            have fd := fun m hm => flat3_get (fun t : Nat => ([.int .i64 (L : Int), .int .i64 F, .pointer (some ⟨t, 0, none⟩)] : List Value)) 0 (fun _ => rfl) ds j m (by rw [HV.out.lu]; exact hlt2) hm
            have fr := fun m hm => flat3_get (fun r : Option Addr × Nat × Nat => ([.int .i64 (L : Int), .int .i64 F, .slice r.1 r.2.1 r.2.2] : List Value)) (none, 0, 0) (fun _ => rfl) rs j m (by rw [HV.out.lv]; exact hlt2) hm
            obtain ⟨c0, c1, c2⟩ := blk_three HV.out.ru rfl (fd 0 (by omega)) (fd 1 (by omega)) (fd 2 (by omega))
            obtain ⟨e0, e1, e2⟩ := blk_three HV.out.rv rfl (fr 0 (by omega)) (fr 1 (by omega)) (fr 2 (by omega))
            replace c0 := cell_later HB.out c0
            replace c1 := cell_later HB.out c1
            replace c2 := cell_later HB.out c2
            replace e0 := cell_later HB.out e0
            replace e1 := cell_later HB.out e1
            replace e2 := cell_later HB.out e2
            have KD := Lib.hid (k1.keep HB.out)
            have KR := Lib.hid (k2.keep HB.out)
            clear k1 k2 fd fr
            generalize ds[j]?.getD 0 = tj at c2 KD
            generalize rs[j]?.getD (none, 0, 0) = rj at e2 KR
            obtain ⟨aj, nj, pj⟩ := rj
            simp only at e2 KR
            have SAME : Hid (∀ w', Below wr.heap.size wr w' → Calls Try.prog 15 #[.agg #[.int .i64 (L : Int), .int .i64 F, .pointer (some ⟨tj, 0, none⟩)], .agg #[.int .i64 (L : Int), .int .i64 F, .slice aj nj pj]] w' (fun e w'' => e = .returned (.bool true) ∧ Below w'.heap.size w' w'')) := Lib.hid (fun w' hb => same_eq tj L F d aj nj pj w' (KD.out.keep hb) (KR.out.keep hb))
            clear KD KR
            go_upto_region 21 with fail
            go_region_held3 (fun w' => w'.cell? ⟨gu, j * 3, none⟩ = some (.int .i64 (L : Int)) ∧ w'.cell? ⟨gu, j * 3 + 1, none⟩ = some (.int .i64 F) ∧ w'.cell? ⟨gu, j * 3 + 2, none⟩ = some (.pointer (some ⟨tj, 0, none⟩)) ∧ w'.cell? ⟨gv, j * 3, none⟩ = some (.int .i64 (L : Int)) ∧ w'.cell? ⟨gv, j * 3 + 1, none⟩ = some (.int .i64 F) ∧ w'.cell? ⟨gv, j * 3 + 2, none⟩ = some (.slice aj nj pj)) (go_keep)
              (first | (go_at_call 15; refine (SAME.out _ (below_drewN (Below.refl wr.heap.size wr) 1)).mono ?_; rintro e w4 ⟨rfl, hb4⟩; have B4 := Lib.hid (below_then (below_drewN (Below.refl wr.heap.size wr) 1) hb4); have s0 := cell_later B4.out c0; have s1 := cell_later B4.out c1; have s2 := cell_later B4.out c2; have s3 := cell_later B4.out e0; have s4 := cell_later B4.out e1; have s5 := cell_later B4.out e2; clear hb4))
            go_wp2_with fail
            go_roundg (gk - 1)
            case measure => omega
            case rel => exact ⟨j + 1, by go_num, by omega, by omega, Lib.hid (below_then HB.out B4.out)⟩
          · obtain rfl : j = k := by omega
            go_wp2_with (go_at_call 12; refine (awake_any _).mono ?_; rintro e w9 ⟨rfl, hb9⟩)
            go_ret
            exact ⟨rfl, HV.out.b.trans ((below_then HB.out hb9).mono HV.out.b.size)⟩

theorem plays_walk (l f : Int) (ao : Option Addr) (la ca : Nat) (xs : List (Int × Int)) (W : World) (hs : Al W ao la xs) (hla : la ≤ 9223372036854775807) :
    Calls Try.prog 3 #[.int .i64 l, .int .i64 f, .slice ao la ca] W (fun e w' => e = .returned (.bool true) ∧ Below W.heap.size W w') := by
  by_cases h : 80 < la
  · exact plays_early l f ao la ca W h hla
  · by_cases h3 : Right l f
    · obtain ⟨L, rfl⟩ := Int.eq_ofNat_of_zero_le (show 0 ≤ l by have := h3.1; omega)
      exact plays_main L f ao la ca xs W h3 hs (by omega)
    · exact plays_bad l f ao la ca W (by omega) h3
end Go.Proofs.Ythjmiimkplhffaa
