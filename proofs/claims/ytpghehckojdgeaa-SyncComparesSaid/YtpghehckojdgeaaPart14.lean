/- Part 14 of the contracts: RGrown. -/
import Derived.Test.YtpghehckojdgeaaPart13

/- The law's grown. (By gen_rgrown.py.) -/
set_option linter.unusedVariables false
set_option linter.unusedSimpArgs false
namespace Go.Proofs.Ytpghehckojdgeaa
open Go.RowKit Go.Shelf Go.Sort

/-- what the region of two appends holds: the new table in both forms, in boxes -/
structure GS (w : World) (m : Nat) (T : Tab) (a1 : Option Addr) (n1 c1 : Nat) (a2 : Option Addr) (n2 c2 B8 B9 : Nat) : Prop where
  b8 : Box w B8 34 #[.int .i64 (T.seen 0 : Int), .int .i64 (T.seen 1 : Int), .int .i64 (T.seen 2 : Int), .int .i64 (T.seen 3 : Int), .int .i64 (T.seen 4 : Int), .int .i64 (T.seen 5 : Int), .int .i64 (T.seen 6 : Int), .int .i64 (T.seen 7 : Int), .slice a1 n1 c1]
  b9 : Box w B9 36 #[.int .i64 (T.seen 0 : Int), .int .i64 (T.seen 1 : Int), .int .i64 (T.seen 2 : Int), .int .i64 (T.seen 3 : Int), .int .i64 (T.seen 4 : Int), .int .i64 (T.seen 5 : Int), .int .i64 (T.seen 6 : Int), .int .i64 (T.seen 7 : Int), .slice a2 n2 c2]
  hs : Held w m T a1 n1
  hr : HeldR w m T a2 n2 c2
theorem GS.keep {w w' : World} {m : Nat} {T : Tab} {a1 : Option Addr} {n1 c1 : Nat} {a2 : Option Addr} {n2 c2 B8 B9 : Nat} (h : GS w m T a1 n1 c1 a2 n2 c2 B8 B9) (hb : Below w.heap.size w w') : GS w' m T a1 n1 c1 a2 n2 c2 B8 B9 := ⟨row_keep hb h.b8, row_keep hb h.b9, h.hs.keep hb, h.hr.keep hb⟩
theorem GS.far {w w' : World} {m : Nat} {T : Tab} {a1 : Option Addr} {n1 c1 : Nat} {a2 : Option Addr} {n2 c2 B8 B9 g : Nat} {z : Int} (h : GS w m T a1 n1 c1 a2 n2 c2 B8 B9) (hT : w.cell? ⟨g, 0, none⟩ = some (.int .i64 z)) (hk : ∀ b, b < w.heap.size → b ≠ g → w'.heap[b]? = w.heap[b]?) (hs : w.heap.size ≤ w'.heap.size) (h8 : B8 ≠ g) (h9 : B9 ≠ g) (_ : 0 < 1) : GS w' m T a1 n1 c1 a2 n2 c2 B8 B9 :=
  ⟨(hk B8 (Array.getElem?_eq_some_iff.1 h.b8).1 h8).trans h.b8, (hk B9 (Array.getElem?_eq_some_iff.1 h.b9).1 h9).trans h.b9, ⟨h.hs.el.far hT (fun b o hb hn => World.cell?_of_block (a := ⟨b, o, none⟩) (hk b hb hn)) hs, h.hs.ok⟩, ⟨h.hr.el.far hT (fun b o hb hn => World.cell?_of_block (a := ⟨b, o, none⟩) (hk b hb hn)) hs, h.hr.ok, h.hr.nc, h.hr.cm⟩⟩
/-- both rows are returned -/
def OutB (W : World) (la : Nat) (e : Ending) (w' : World) : Prop := ∃ (gT gR n cp cq : Nat) (l lr : List Slot), e = .returned (.tuple #[.slice (some ⟨gT, 0, none⟩) n cp, .slice (some ⟨gR, 0, none⟩) n cq, .bool true]) ∧ Both w' W.heap.size la gT gR n cp cq l lr ∧ n ≤ la + 1 ∧ Below W.heap.size W w'
set_option maxRecDepth 100000 in
set_option maxHeartbeats 16000000 in
theorem grown_any (ao : Option Addr) (la ca : Nat) (xs : List ActD) (W : World) (h : Acts W ao la xs) (hla : la ≤ 900) :
    Calls Try.prog 9 #[.slice ao la ca] W (OutB W la) := by
  have HA := Lib.hid h
  have pl : (la : Int) ≤ 900 := by omega
  have hmkT : ∀ w : World, (Instr.makeSlice 25 (.int .i64 1) (.int .i64 1)).run Try.prog w = .ok (.slice (some ⟨w.heap.size, 0, none⟩) 1 1) (w.alloc (.cells #[.int .i64 0, .int .i64 0, .int .i64 0, .int .i64 0, .int .i64 0, .int .i64 0, .int .i64 0, .int .i64 0, .slice none 0 0] 34)) := fun _ => by kernel_rfl
  have hmkR : ∀ w : World, (Instr.makeSlice 26 (.int .i64 1) (.int .i64 1)).run Try.prog w = .ok (.slice (some ⟨w.heap.size, 0, none⟩) 1 1) (w.alloc (.cells #[.int .i64 0, .int .i64 0, .int .i64 0, .int .i64 0, .int .i64 0, .int .i64 0, .int .i64 0, .int .i64 0, .slice none 0 0] 36)) := fun _ => by kernel_rfl
  clear h
  go_enter Try.func9, Try.ntmps9
  go_upto_region 1 with fail
  go_cut [5, 6] (fun v5 v6 wx => ∃ g1 g2, v5 = .slice (some ⟨g1, 0, none⟩) 1 1 ∧ v6 = .slice (some ⟨g2, 0, none⟩) 1 1 ∧ Hid (Both wx W.heap.size 0 g1 g2 1 1 1 [⟨Tab.none, none, 0, 0⟩] [⟨Tab.none, none, 0, 0⟩] ∧ Below W.heap.size W wx))
  · go_region
    all_goals go_wp2_with fail
    all_goals go_meet
    · exact ⟨_, _, rfl, rfl, Lib.hid ⟨⟨tabs_one _ _ (by exact block1 W _ _) _ (Nat.le_refl _), rtabs_one _ _ (by exact block2 W _ _) _ (by omega), rfl⟩, (below2 W _ _).drew⟩⟩
    · exact ⟨_, _, rfl, rfl, Lib.hid ⟨⟨tabs_one _ _ (by exact block2 W _ _) _ (by omega), rtabs_one _ _ (by exact block1 W _ _) _ (Nat.le_refl _), rfl⟩, (below2 W _ _).drew⟩⟩
  · obtain ⟨g1, g2, rfl, rfl, HX⟩ := hcut
    have HB0 := Lib.hid HX.out.1
    have HW0 := Lib.hid HX.out.2
    clear HX hmkT hmkR
    go_wp2
    go_loopg [5, 6, 7, 8, 9, 10] la (fun gg s5 s6 s7 _ _ _ wr => ∃ (i gT gR n cp cq : Nat) (l lr : List Slot), s7 = .int .i64 (i : Int) ∧ i ≤ la ∧ la - i ≤ gg ∧ s5 = .slice (some ⟨gT, 0, none⟩) n cp ∧ s6 = .slice (some ⟨gR, 0, none⟩) n cq ∧ n ≤ i + 1 ∧ Hid (Both wr W.heap.size i gT gR n cp cq l lr) ∧ Hid (Below W.heap.size W wr))
    case atStart => exact ⟨0, g1, g2, 1, 1, 1, _, _, rfl, Nat.zero_le _, by omega, rfl, rfl, Nat.le_refl _, HB0, HW0⟩
    case round =>
      obtain ⟨i, gT, gR, n, cp, cq, l, lr, rfl, hi, hgg, rfl, rfl, hn, HT, HB⟩ := hrel
      by_cases hlt : i < la
      · have t1 : (i : Int) < (la : Int) := by omega
        have t0 : (0 : Int) ≤ (i : Int) := by omega
        obtain ⟨ga, oa, hga, hact, hfine⟩ := (HA.out.keep HB.out).at hlt
        obtain ⟨x, hx⟩ : ∃ x, x = xs[i]! := ⟨_, rfl⟩
        rw [← hx] at hact hfine
        clear hx
        subst hga
        have hpos := HT.out.t.pos
        have hpan : x.a % n < n := Nat.mod_lt _ (by omega)
        have hpbn : x.b % n < n := Nat.mod_lt _ (by omega)
        have A1 := HT.out.at hpan
        have A2 := HT.out.at hpbn
        have MA := Lib.hid (made_any i gT gR n cp cq (x.a % n) (x.b % n) x l[x.a % n]! l[x.b % n]! lr[x.a % n]! lr[x.b % n]! wr hfine hpos (by omega) (by omega) rfl rfl A1.1 A2.1 A1.2.2.1 A2.2.2.1 A1.2.1 A2.2.1 A1.2.2.2 A2.2.2.2)
        clear A1 A2 hpan hpbn hfine
        obtain ⟨d0, d1, d2, d3, d4, d5⟩ := hact
        go_upto_region 6 with (go_at_call 29; refine MA.out.mono ?_; rintro e w4 ⟨T4, a4, n4, c4, b4, m4, k4, rfl, hh, hr, hb⟩; have HS4 := Lib.hid hh; have HR4 := Lib.hid hr; have B4 := Lib.hid hb; clear hh hr hb)
        clear d0 d1 d2 d3 d4 d5 MA
        go_upto_region 8 with fail
        have hgT : gT < w4.heap.size := Nat.lt_of_lt_of_le HT.out.t.lt B4.out.size
        have hgR : gR < w4.heap.size := Nat.lt_of_lt_of_le HT.out.r.lt B4.out.size
        have HEQ := Lib.hid HT.out.eq
        obtain ⟨V, hV⟩ : ∃ V, V = (w4.alloc (.cells #[.int .i64 (T4.seen 0 : Int), .int .i64 (T4.seen 1 : Int), .int .i64 (T4.seen 2 : Int), .int .i64 (T4.seen 3 : Int), .int .i64 (T4.seen 4 : Int), .int .i64 (T4.seen 5 : Int), .int .i64 (T4.seen 6 : Int), .int .i64 (T4.seen 7 : Int), .slice a4 n4 c4] 34)).alloc (.cells #[.int .i64 (T4.seen 0 : Int), .int .i64 (T4.seen 1 : Int), .int .i64 (T4.seen 2 : Int), .int .i64 (T4.seen 3 : Int), .int .i64 (T4.seen 4 : Int), .int .i64 (T4.seen 5 : Int), .int .i64 (T4.seen 6 : Int), .int .i64 (T4.seen 7 : Int), .slice b4 m4 k4] 36) := ⟨_, rfl⟩
        have bv : Below w4.heap.size w4 V := by rw [hV]; exact below2 w4 _ _
        have bwr : Below wr.heap.size wr V.drew := (below_then B4.out bv).drew
        have TT := Lib.hid ((HT.out.t.keep bwr).more (Nat.le_succ i))
        have RR := Lib.hid ((HT.out.r.keep bwr).more (Nat.le_succ i))
        have G : Hid (GS V.drew (i + 1) T4 a4 n4 c4 b4 m4 k4 w4.heap.size (w4.heap.size + 1)) := Lib.hid ⟨by rw [hV]; exact block1 w4 _ _, by rw [hV]; exact block2 w4 _ _, HS4.out.keep bv.drew, HR4.out.keep bv.drew⟩
        have BW := Lib.hid (HB.out.trans (bwr.mono HB.out.size))
        have LV : w4.heap.size + 2 ≤ V.drew.heap.size := by rw [hV]; simp
        rw [← hV]
        clear hV bv bwr HT HB HS4 HR4 B4 HA
        refine wp_region_held_drew (S := fun w' => Box w' (w4.heap.size) 34 #[.int .i64 (T4.seen 0 : Int), .int .i64 (T4.seen 1 : Int), .int .i64 (T4.seen 2 : Int), .int .i64 (T4.seen 3 : Int), .int .i64 (T4.seen 4 : Int), .int .i64 (T4.seen 5 : Int), .int .i64 (T4.seen 6 : Int), .int .i64 (T4.seen 7 : Int), .slice a4 n4 c4] ∧ Box w' (w4.heap.size + 1) 36 #[.int .i64 (T4.seen 0 : Int), .int .i64 (T4.seen 1 : Int), .int .i64 (T4.seen 2 : Int), .int .i64 (T4.seen 3 : Int), .int .i64 (T4.seen 4 : Int), .int .i64 (T4.seen 5 : Int), .int .i64 (T4.seen 6 : Int), .int .i64 (T4.seen 7 : Int), .slice b4 m4 k4]) (by kernel_rfl) ⟨G.out.b8, G.out.b9⟩ (fun hS => ?_)
        obtain ⟨Y, hY⟩ : ∃ Y, Y = V.drew := ⟨_, rfl⟩
        rw [← hY] at G TT RR BW LV hS ⊢
        clear hY
        refine wpAnyH_take (i := 0) (v := ?vg0) rfl (by kernel_rfl) (by kernel_rfl) (by kernel_rfl) (fun _ _ _ h => h) (Or.inl ⟨by rfl, ?hyg0⟩) hS ?restg0
        case hyg0 => (intro w hSw; obtain ⟨hs4, hs5⟩ := hSw; obtain ⟨g0, g1, g2, g3, g4, g5, g6, g7, g8⟩ := cell_nine hs4; obtain ⟨k0, k1, k2, k3, k4, k5, k6, k7, k8⟩ := cell_nine hs5; clear hs4 hs5; first | (go_simp; done) | (go_simp; with_reducible rfl))
        try simp only [Act.put, List.getElem_toArray, List.getElem_cons_succ, List.getElem_cons_zero, List.setIfInBounds_toArray, List.set_cons_zero, List.set_cons_succ]
        refine wpAnyH_take (i := 1) (v := ?vg1) rfl (by kernel_rfl) (by kernel_rfl) (by kernel_rfl) (fun _ _ _ h => h) (Or.inl ⟨by rfl, ?hyg1⟩) hS ?restg1
        case hyg1 => (intro w hSw; obtain ⟨hs4, hs5⟩ := hSw; obtain ⟨g0, g1, g2, g3, g4, g5, g6, g7, g8⟩ := cell_nine hs4; obtain ⟨k0, k1, k2, k3, k4, k5, k6, k7, k8⟩ := cell_nine hs5; clear hs4 hs5; first | (go_simp; done) | (go_simp; with_reducible rfl))
        try simp only [Act.put, List.getElem_toArray, List.getElem_cons_succ, List.getElem_cons_zero, List.setIfInBounds_toArray, List.set_cons_zero, List.set_cons_succ]
        refine wpAnyH_take (i := 4) (v := ?vg4) rfl (by kernel_rfl) (by kernel_rfl) (by kernel_rfl) (fun _ _ _ h => h) (Or.inl ⟨by rfl, ?hyg4⟩) hS ?restg4
        case hyg4 => (intro w hSw; obtain ⟨hs4, hs5⟩ := hSw; obtain ⟨g0, g1, g2, g3, g4, g5, g6, g7, g8⟩ := cell_nine hs4; obtain ⟨k0, k1, k2, k3, k4, k5, k6, k7, k8⟩ := cell_nine hs5; clear hs4 hs5; first | (go_simp; done) | (go_simp; with_reducible rfl))
        try simp only [Act.put, List.getElem_toArray, List.getElem_cons_succ, List.getElem_cons_zero, List.setIfInBounds_toArray, List.set_cons_zero, List.set_cons_succ]
        refine wpAnyH_take (i := 5) (v := ?vg5) rfl (by kernel_rfl) (by kernel_rfl) (by kernel_rfl) (fun _ _ _ h => h) (Or.inl ⟨by rfl, ?hyg5⟩) hS ?restg5
        case hyg5 => (intro w hSw; obtain ⟨hs4, hs5⟩ := hSw; obtain ⟨g0, g1, g2, g3, g4, g5, g6, g7, g8⟩ := cell_nine hs4; obtain ⟨k0, k1, k2, k3, k4, k5, k6, k7, k8⟩ := cell_nine hs5; clear hs4 hs5; first | (go_simp; done) | (go_simp; with_reducible rfl))
        try simp only [Act.put, List.getElem_toArray, List.getElem_cons_succ, List.getElem_cons_zero, List.setIfInBounds_toArray, List.set_cons_zero, List.set_cons_succ]
        refine wpAnyH_ready (rs := [2, 6]) (by kernel_rfl) (by simp) ?_
        refine AllReadyH.cons rfl (fun K hK => ?_) (AllReadyH.cons rfl (fun K hK => ?_) AllReadyH.nil)
        · try go_simp
          refine hK.out _ _ ⟨row_keep (box_below _ _) G.out.b8, row_keep (box_below _ _) G.out.b9⟩ (fun hS => ?_)
          clear hK K hS
          try simp only [Act.put, List.getElem_toArray, List.getElem_cons_succ, List.getElem_cons_zero, List.setIfInBounds_toArray, List.set_cons_zero, List.set_cons_succ]
          obtain ⟨X1, hX1⟩ : ∃ X1, X1 = Y.alloc (.cells #[.int .i64 (T4.seen 0 : Int), .int .i64 (T4.seen 1 : Int), .int .i64 (T4.seen 2 : Int), .int .i64 (T4.seen 3 : Int), .int .i64 (T4.seen 4 : Int), .int .i64 (T4.seen 5 : Int), .int .i64 (T4.seen 6 : Int), .int .i64 (T4.seen 7 : Int), .slice a4 n4 c4] 34) := ⟨_, rfl⟩
          have bx : Below Y.heap.size Y X1 := by rw [hX1]; exact box_below _ _
          have H2 : Hid (X1.heap[Y.heap.size]? = some (.cells (slotC ⟨T4, a4, n4, c4⟩).toArray 34 (0, 0))) := Lib.hid (by rw [hX1]; exact heap_alloc_new _ _)
          try replace H6 := Lib.hid (row_keep bx H6.out)
          replace G := Lib.hid (G.out.keep bx)
          replace TT := Lib.hid (TT.out.keep bx)
          replace RR := Lib.hid (RR.out.keep bx)
          replace BW := Lib.hid (BW.out.trans (bx.mono BW.out.size))
          have LEX1 : Y.heap.size < X1.heap.size := by rw [hX1]; simp
          rw [← hX1]
          clear hX1 bx
          have hS := And.intro G.out.b8 G.out.b9
          refine wpAnyH_ready (rs := [3, 6]) (by kernel_rfl) (by simp) ?_
          refine AllReadyH.cons rfl (fun K hK => ?_) (AllReadyH.cons rfl (fun K hK => ?_) AllReadyH.nil)
          · refine step_appT2 (w := X1) (by rfl) (.tmp 32) (.tmp 34) (by rfl) W.heap.size (i + 1) gT n cp l ⟨T4, a4, n4, c4⟩ Y.heap.size 34 H2.out (by rfl) TT.out G.out.hs (by rfl) (by omega) BW.out.size ?_
            intro g5 cap5 X2 hT5 hb5 hs5 hf5
            obtain ⟨z5, hz5⟩ := TT.out.int
            have hne5 := two_rows TT.out RR.out
            replace RR := Lib.hid (RR.out.far (Ne.symm hne5) hz5 hf5 hs5)
            replace G := Lib.hid (G.out.far hz5 hf5 hs5 (by omega) (by omega) (by omega))
            replace BW := Lib.hid (BW.out.trans hb5)
            replace TT := Lib.hid hT5
            have LEX2 : X1.heap.size ≤ X2.heap.size := hs5
            clear hT5 hb5 hs5 hf5 hz5 hne5
            refine hK.out _ _ ⟨G.out.b8, G.out.b9⟩ (fun hS => ?_)
            clear hK K
            try simp only [Act.put, List.getElem_toArray, List.getElem_cons_succ, List.getElem_cons_zero, List.setIfInBounds_toArray, List.set_cons_zero, List.set_cons_succ]
            refine wpAnyH_ready (rs := [6]) (by kernel_rfl) (by simp) ?_
            refine AllReadyH.cons rfl (fun K hK => ?_) AllReadyH.nil
            try go_simp
            refine hK.out _ _ ⟨row_keep (box_below _ _) G.out.b8, row_keep (box_below _ _) G.out.b9⟩ (fun hS => ?_)
            clear hK K hS
            try simp only [Act.put, List.getElem_toArray, List.getElem_cons_succ, List.getElem_cons_zero, List.setIfInBounds_toArray, List.set_cons_zero, List.set_cons_succ]
            obtain ⟨X3, hX3⟩ : ∃ X3, X3 = X2.alloc (.cells #[.int .i64 (T4.seen 0 : Int), .int .i64 (T4.seen 1 : Int), .int .i64 (T4.seen 2 : Int), .int .i64 (T4.seen 3 : Int), .int .i64 (T4.seen 4 : Int), .int .i64 (T4.seen 5 : Int), .int .i64 (T4.seen 6 : Int), .int .i64 (T4.seen 7 : Int), .slice b4 m4 k4] 36) := ⟨_, rfl⟩
            have bx : Below X2.heap.size X2 X3 := by rw [hX3]; exact box_below _ _
            have H6 : Hid (X3.heap[X2.heap.size]? = some (.cells (slotC ⟨T4, b4, m4, k4⟩).toArray 36 (0, 0))) := Lib.hid (by rw [hX3]; exact heap_alloc_new _ _)
            try replace H2 := Lib.hid (row_keep bx H2.out)
            replace G := Lib.hid (G.out.keep bx)
            replace TT := Lib.hid (TT.out.keep bx)
            replace RR := Lib.hid (RR.out.keep bx)
            replace BW := Lib.hid (BW.out.trans (bx.mono BW.out.size))
            have LEX3 : X2.heap.size < X3.heap.size := by rw [hX3]; simp
            rw [← hX3]
            clear hX3 bx
            have hS := And.intro G.out.b8 G.out.b9
            refine wpAnyH_ready (rs := [7]) (by kernel_rfl) (by simp) ?_
            refine AllReadyH.cons rfl (fun K hK => ?_) AllReadyH.nil
            refine step_appR2 (w := X3) (by rfl) (.tmp 36) (.tmp 38) (by rfl) W.heap.size (i + 1) gR n cq lr ⟨T4, b4, m4, k4⟩ X2.heap.size 36 H6.out (by rfl) RR.out G.out.hr (by rfl) (by omega) BW.out.size ?_
            intro g7 cap7 X4 hT5 hb5 hs5 hf5
            obtain ⟨z5, hz5⟩ := RR.out.int
            have hne5 := two_rows TT.out RR.out
            replace TT := Lib.hid (TT.out.far hne5 hz5 hf5 hs5)
            replace G := Lib.hid (G.out.far hz5 hf5 hs5 (by omega) (by omega) (by omega))
            replace BW := Lib.hid (BW.out.trans hb5)
            replace RR := Lib.hid hT5
            have LEX4 : X3.heap.size ≤ X4.heap.size := hs5
            clear hT5 hb5 hs5 hf5 hz5 hne5
            refine hK.out _ _ ⟨G.out.b8, G.out.b9⟩ (fun hS => ?_)
            clear hK K
            try simp only [Act.put, List.getElem_toArray, List.getElem_cons_succ, List.getElem_cons_zero, List.setIfInBounds_toArray, List.set_cons_zero, List.set_cons_succ]
            refine wpAnyH_take (i := 8) (v := ?vga8) rfl (by kernel_rfl) (by kernel_rfl) (by kernel_rfl) (fun _ _ _ h => h) (Or.inl ⟨by rfl, ?hyga8⟩) hS ?restga8
            case hyga8 => (intro w hSw; obtain ⟨hs4, hs5⟩ := hSw; obtain ⟨g0, g1, g2, g3, g4, g5, g6, g7, g8⟩ := cell_nine hs4; obtain ⟨k0, k1, k2, k3, k4, k5, k6, k7, k8⟩ := cell_nine hs5; clear hs4 hs5; first | (go_simp; done) | (go_simp; with_reducible rfl))
            try simp only [Act.put, List.getElem_toArray, List.getElem_cons_succ, List.getElem_cons_zero, List.setIfInBounds_toArray, List.set_cons_zero, List.set_cons_succ]
            refine wpAnyH_take (i := 9) (v := ?vga9) rfl (by kernel_rfl) (by kernel_rfl) (by kernel_rfl) (fun _ _ _ h => h) (Or.inl ⟨by rfl, ?hyga9⟩) hS ?restga9
            case hyga9 => (intro w hSw; obtain ⟨hs4, hs5⟩ := hSw; obtain ⟨g0, g1, g2, g3, g4, g5, g6, g7, g8⟩ := cell_nine hs4; obtain ⟨k0, k1, k2, k3, k4, k5, k6, k7, k8⟩ := cell_nine hs5; clear hs4 hs5; first | (go_simp; done) | (go_simp; with_reducible rfl))
            try simp only [Act.put, List.getElem_toArray, List.getElem_cons_succ, List.getElem_cons_zero, List.setIfInBounds_toArray, List.set_cons_zero, List.set_cons_succ]
            refine wpAnyH_done (by kernel_rfl) ?_ _
            go_wp2_with fail
            go_roundg (la - (i + 1))
            case measure => omega
            case rel => exact ⟨i + 1, g5, g7, n + 1, cap5, cap7, _, _, by go_num, by omega, Nat.le_refl _, rfl, rfl, by omega, Lib.hid ⟨TT.out, RR.out, by rw [List.map_append, List.map_append, HEQ.out]; rfl⟩, BW⟩
          · try go_simp
            refine hK.out _ _ ⟨row_keep (box_below _ _) G.out.b8, row_keep (box_below _ _) G.out.b9⟩ (fun hS => ?_)
            clear hK K hS
            try simp only [Act.put, List.getElem_toArray, List.getElem_cons_succ, List.getElem_cons_zero, List.setIfInBounds_toArray, List.set_cons_zero, List.set_cons_succ]
            obtain ⟨X2, hX2⟩ : ∃ X2, X2 = X1.alloc (.cells #[.int .i64 (T4.seen 0 : Int), .int .i64 (T4.seen 1 : Int), .int .i64 (T4.seen 2 : Int), .int .i64 (T4.seen 3 : Int), .int .i64 (T4.seen 4 : Int), .int .i64 (T4.seen 5 : Int), .int .i64 (T4.seen 6 : Int), .int .i64 (T4.seen 7 : Int), .slice b4 m4 k4] 36) := ⟨_, rfl⟩
            have bx : Below X1.heap.size X1 X2 := by rw [hX2]; exact box_below _ _
            have H6 : Hid (X2.heap[X1.heap.size]? = some (.cells (slotC ⟨T4, b4, m4, k4⟩).toArray 36 (0, 0))) := Lib.hid (by rw [hX2]; exact heap_alloc_new _ _)
            try replace H2 := Lib.hid (row_keep bx H2.out)
            replace G := Lib.hid (G.out.keep bx)
            replace TT := Lib.hid (TT.out.keep bx)
            replace RR := Lib.hid (RR.out.keep bx)
            replace BW := Lib.hid (BW.out.trans (bx.mono BW.out.size))
            have LEX2 : X1.heap.size < X2.heap.size := by rw [hX2]; simp
            rw [← hX2]
            clear hX2 bx
            have hS := And.intro G.out.b8 G.out.b9
            refine wpAnyH_ready (rs := [3]) (by kernel_rfl) (by simp) ?_
            refine AllReadyH.cons rfl (fun K hK => ?_) AllReadyH.nil
            refine step_appT2 (w := X2) (by rfl) (.tmp 32) (.tmp 34) (by rfl) W.heap.size (i + 1) gT n cp l ⟨T4, a4, n4, c4⟩ Y.heap.size 34 H2.out (by rfl) TT.out G.out.hs (by rfl) (by omega) BW.out.size ?_
            intro g5 cap5 X3 hT5 hb5 hs5 hf5
            obtain ⟨z5, hz5⟩ := TT.out.int
            have hne5 := two_rows TT.out RR.out
            replace RR := Lib.hid (RR.out.far (Ne.symm hne5) hz5 hf5 hs5)
            replace H6 := Lib.hid ((hf5 X1.heap.size (by omega) (by omega)).trans H6.out)
            replace G := Lib.hid (G.out.far hz5 hf5 hs5 (by omega) (by omega) (by omega))
            replace BW := Lib.hid (BW.out.trans hb5)
            replace TT := Lib.hid hT5
            have LEX3 : X2.heap.size ≤ X3.heap.size := hs5
            clear hT5 hb5 hs5 hf5 hz5 hne5
            refine hK.out _ _ ⟨G.out.b8, G.out.b9⟩ (fun hS => ?_)
            clear hK K
            try simp only [Act.put, List.getElem_toArray, List.getElem_cons_succ, List.getElem_cons_zero, List.setIfInBounds_toArray, List.set_cons_zero, List.set_cons_succ]
            refine wpAnyH_ready (rs := [7]) (by kernel_rfl) (by simp) ?_
            refine AllReadyH.cons rfl (fun K hK => ?_) AllReadyH.nil
            refine step_appR2 (w := X3) (by rfl) (.tmp 36) (.tmp 38) (by rfl) W.heap.size (i + 1) gR n cq lr ⟨T4, b4, m4, k4⟩ X1.heap.size 36 H6.out (by rfl) RR.out G.out.hr (by rfl) (by omega) BW.out.size ?_
            intro g7 cap7 X4 hT5 hb5 hs5 hf5
            obtain ⟨z5, hz5⟩ := RR.out.int
            have hne5 := two_rows TT.out RR.out
            replace TT := Lib.hid (TT.out.far hne5 hz5 hf5 hs5)
            replace G := Lib.hid (G.out.far hz5 hf5 hs5 (by omega) (by omega) (by omega))
            replace BW := Lib.hid (BW.out.trans hb5)
            replace RR := Lib.hid hT5
            have LEX4 : X3.heap.size ≤ X4.heap.size := hs5
            clear hT5 hb5 hs5 hf5 hz5 hne5
            refine hK.out _ _ ⟨G.out.b8, G.out.b9⟩ (fun hS => ?_)
            clear hK K
            try simp only [Act.put, List.getElem_toArray, List.getElem_cons_succ, List.getElem_cons_zero, List.setIfInBounds_toArray, List.set_cons_zero, List.set_cons_succ]
            refine wpAnyH_take (i := 8) (v := ?vgb8) rfl (by kernel_rfl) (by kernel_rfl) (by kernel_rfl) (fun _ _ _ h => h) (Or.inl ⟨by rfl, ?hygb8⟩) hS ?restgb8
            case hygb8 => (intro w hSw; obtain ⟨hs4, hs5⟩ := hSw; obtain ⟨g0, g1, g2, g3, g4, g5, g6, g7, g8⟩ := cell_nine hs4; obtain ⟨k0, k1, k2, k3, k4, k5, k6, k7, k8⟩ := cell_nine hs5; clear hs4 hs5; first | (go_simp; done) | (go_simp; with_reducible rfl))
            try simp only [Act.put, List.getElem_toArray, List.getElem_cons_succ, List.getElem_cons_zero, List.setIfInBounds_toArray, List.set_cons_zero, List.set_cons_succ]
            refine wpAnyH_take (i := 9) (v := ?vgb9) rfl (by kernel_rfl) (by kernel_rfl) (by kernel_rfl) (fun _ _ _ h => h) (Or.inl ⟨by rfl, ?hygb9⟩) hS ?restgb9
            case hygb9 => (intro w hSw; obtain ⟨hs4, hs5⟩ := hSw; obtain ⟨g0, g1, g2, g3, g4, g5, g6, g7, g8⟩ := cell_nine hs4; obtain ⟨k0, k1, k2, k3, k4, k5, k6, k7, k8⟩ := cell_nine hs5; clear hs4 hs5; first | (go_simp; done) | (go_simp; with_reducible rfl))
            try simp only [Act.put, List.getElem_toArray, List.getElem_cons_succ, List.getElem_cons_zero, List.setIfInBounds_toArray, List.set_cons_zero, List.set_cons_succ]
            refine wpAnyH_done (by kernel_rfl) ?_ _
            go_wp2_with fail
            go_roundg (la - (i + 1))
            case measure => omega
            case rel => exact ⟨i + 1, g5, g7, n + 1, cap5, cap7, _, _, by go_num, by omega, Nat.le_refl _, rfl, rfl, by omega, Lib.hid ⟨TT.out, RR.out, by rw [List.map_append, List.map_append, HEQ.out]; rfl⟩, BW⟩
        · try go_simp
          refine hK.out _ _ ⟨row_keep (box_below _ _) G.out.b8, row_keep (box_below _ _) G.out.b9⟩ (fun hS => ?_)
          clear hK K hS
          try simp only [Act.put, List.getElem_toArray, List.getElem_cons_succ, List.getElem_cons_zero, List.setIfInBounds_toArray, List.set_cons_zero, List.set_cons_succ]
          obtain ⟨X1, hX1⟩ : ∃ X1, X1 = Y.alloc (.cells #[.int .i64 (T4.seen 0 : Int), .int .i64 (T4.seen 1 : Int), .int .i64 (T4.seen 2 : Int), .int .i64 (T4.seen 3 : Int), .int .i64 (T4.seen 4 : Int), .int .i64 (T4.seen 5 : Int), .int .i64 (T4.seen 6 : Int), .int .i64 (T4.seen 7 : Int), .slice b4 m4 k4] 36) := ⟨_, rfl⟩
          have bx : Below Y.heap.size Y X1 := by rw [hX1]; exact box_below _ _
          have H6 : Hid (X1.heap[Y.heap.size]? = some (.cells (slotC ⟨T4, b4, m4, k4⟩).toArray 36 (0, 0))) := Lib.hid (by rw [hX1]; exact heap_alloc_new _ _)
          try replace H2 := Lib.hid (row_keep bx H2.out)
          replace G := Lib.hid (G.out.keep bx)
          replace TT := Lib.hid (TT.out.keep bx)
          replace RR := Lib.hid (RR.out.keep bx)
          replace BW := Lib.hid (BW.out.trans (bx.mono BW.out.size))
          have LEX1 : Y.heap.size < X1.heap.size := by rw [hX1]; simp
          rw [← hX1]
          clear hX1 bx
          have hS := And.intro G.out.b8 G.out.b9
          refine wpAnyH_ready (rs := [2]) (by kernel_rfl) (by simp) ?_
          refine AllReadyH.cons rfl (fun K hK => ?_) AllReadyH.nil
          try go_simp
          refine hK.out _ _ ⟨row_keep (box_below _ _) G.out.b8, row_keep (box_below _ _) G.out.b9⟩ (fun hS => ?_)
          clear hK K hS
          try simp only [Act.put, List.getElem_toArray, List.getElem_cons_succ, List.getElem_cons_zero, List.setIfInBounds_toArray, List.set_cons_zero, List.set_cons_succ]
          obtain ⟨X2, hX2⟩ : ∃ X2, X2 = X1.alloc (.cells #[.int .i64 (T4.seen 0 : Int), .int .i64 (T4.seen 1 : Int), .int .i64 (T4.seen 2 : Int), .int .i64 (T4.seen 3 : Int), .int .i64 (T4.seen 4 : Int), .int .i64 (T4.seen 5 : Int), .int .i64 (T4.seen 6 : Int), .int .i64 (T4.seen 7 : Int), .slice a4 n4 c4] 34) := ⟨_, rfl⟩
          have bx : Below X1.heap.size X1 X2 := by rw [hX2]; exact box_below _ _
          have H2 : Hid (X2.heap[X1.heap.size]? = some (.cells (slotC ⟨T4, a4, n4, c4⟩).toArray 34 (0, 0))) := Lib.hid (by rw [hX2]; exact heap_alloc_new _ _)
          try replace H6 := Lib.hid (row_keep bx H6.out)
          replace G := Lib.hid (G.out.keep bx)
          replace TT := Lib.hid (TT.out.keep bx)
          replace RR := Lib.hid (RR.out.keep bx)
          replace BW := Lib.hid (BW.out.trans (bx.mono BW.out.size))
          have LEX2 : X1.heap.size < X2.heap.size := by rw [hX2]; simp
          rw [← hX2]
          clear hX2 bx
          have hS := And.intro G.out.b8 G.out.b9
          refine wpAnyH_ready (rs := [3]) (by kernel_rfl) (by simp) ?_
          refine AllReadyH.cons rfl (fun K hK => ?_) AllReadyH.nil
          refine step_appT2 (w := X2) (by rfl) (.tmp 32) (.tmp 34) (by rfl) W.heap.size (i + 1) gT n cp l ⟨T4, a4, n4, c4⟩ X1.heap.size 34 H2.out (by rfl) TT.out G.out.hs (by rfl) (by omega) BW.out.size ?_
          intro g5 cap5 X3 hT5 hb5 hs5 hf5
          obtain ⟨z5, hz5⟩ := TT.out.int
          have hne5 := two_rows TT.out RR.out
          replace RR := Lib.hid (RR.out.far (Ne.symm hne5) hz5 hf5 hs5)
          replace H6 := Lib.hid ((hf5 Y.heap.size (by omega) (by omega)).trans H6.out)
          replace G := Lib.hid (G.out.far hz5 hf5 hs5 (by omega) (by omega) (by omega))
          replace BW := Lib.hid (BW.out.trans hb5)
          replace TT := Lib.hid hT5
          have LEX3 : X2.heap.size ≤ X3.heap.size := hs5
          clear hT5 hb5 hs5 hf5 hz5 hne5
          refine hK.out _ _ ⟨G.out.b8, G.out.b9⟩ (fun hS => ?_)
          clear hK K
          try simp only [Act.put, List.getElem_toArray, List.getElem_cons_succ, List.getElem_cons_zero, List.setIfInBounds_toArray, List.set_cons_zero, List.set_cons_succ]
          refine wpAnyH_ready (rs := [7]) (by kernel_rfl) (by simp) ?_
          refine AllReadyH.cons rfl (fun K hK => ?_) AllReadyH.nil
          refine step_appR2 (w := X3) (by rfl) (.tmp 36) (.tmp 38) (by rfl) W.heap.size (i + 1) gR n cq lr ⟨T4, b4, m4, k4⟩ Y.heap.size 36 H6.out (by rfl) RR.out G.out.hr (by rfl) (by omega) BW.out.size ?_
          intro g7 cap7 X4 hT5 hb5 hs5 hf5
          obtain ⟨z5, hz5⟩ := RR.out.int
          have hne5 := two_rows TT.out RR.out
          replace TT := Lib.hid (TT.out.far hne5 hz5 hf5 hs5)
          replace G := Lib.hid (G.out.far hz5 hf5 hs5 (by omega) (by omega) (by omega))
          replace BW := Lib.hid (BW.out.trans hb5)
          replace RR := Lib.hid hT5
          have LEX4 : X3.heap.size ≤ X4.heap.size := hs5
          clear hT5 hb5 hs5 hf5 hz5 hne5
          refine hK.out _ _ ⟨G.out.b8, G.out.b9⟩ (fun hS => ?_)
          clear hK K
          try simp only [Act.put, List.getElem_toArray, List.getElem_cons_succ, List.getElem_cons_zero, List.setIfInBounds_toArray, List.set_cons_zero, List.set_cons_succ]
          refine wpAnyH_take (i := 8) (v := ?vgc8) rfl (by kernel_rfl) (by kernel_rfl) (by kernel_rfl) (fun _ _ _ h => h) (Or.inl ⟨by rfl, ?hygc8⟩) hS ?restgc8
          case hygc8 => (intro w hSw; obtain ⟨hs4, hs5⟩ := hSw; obtain ⟨g0, g1, g2, g3, g4, g5, g6, g7, g8⟩ := cell_nine hs4; obtain ⟨k0, k1, k2, k3, k4, k5, k6, k7, k8⟩ := cell_nine hs5; clear hs4 hs5; first | (go_simp; done) | (go_simp; with_reducible rfl))
          try simp only [Act.put, List.getElem_toArray, List.getElem_cons_succ, List.getElem_cons_zero, List.setIfInBounds_toArray, List.set_cons_zero, List.set_cons_succ]
          refine wpAnyH_take (i := 9) (v := ?vgc9) rfl (by kernel_rfl) (by kernel_rfl) (by kernel_rfl) (fun _ _ _ h => h) (Or.inl ⟨by rfl, ?hygc9⟩) hS ?restgc9
          case hygc9 => (intro w hSw; obtain ⟨hs4, hs5⟩ := hSw; obtain ⟨g0, g1, g2, g3, g4, g5, g6, g7, g8⟩ := cell_nine hs4; obtain ⟨k0, k1, k2, k3, k4, k5, k6, k7, k8⟩ := cell_nine hs5; clear hs4 hs5; first | (go_simp; done) | (go_simp; with_reducible rfl))
          try simp only [Act.put, List.getElem_toArray, List.getElem_cons_succ, List.getElem_cons_zero, List.setIfInBounds_toArray, List.set_cons_zero, List.set_cons_succ]
          refine wpAnyH_done (by kernel_rfl) ?_ _
          go_wp2_with fail
          go_roundg (la - (i + 1))
          case measure => omega
          case rel => exact ⟨i + 1, g5, g7, n + 1, cap5, cap7, _, _, by go_num, by omega, Nat.le_refl _, rfl, rfl, by omega, Lib.hid ⟨TT.out, RR.out, by rw [List.map_append, List.map_append, HEQ.out]; rfl⟩, BW⟩
      · have e : la = i := by omega
        subst e
        have t1 : ¬ (la : Int) < (la : Int) := by omega
        go_wp2
        refine bodyPost_ret (v := .tuple #[.slice (some ⟨gT, 0, none⟩) n cp, .slice (some ⟨gR, 0, none⟩) n cq, .bool true]) (by simp [results, Try.results9, go_sem]) rfl ?_
        exact ⟨gT, gR, n, cp, cq, l, lr, rfl, HT.out, hn, HB.out⟩
end Go.Proofs.Ytpghehckojdgeaa
