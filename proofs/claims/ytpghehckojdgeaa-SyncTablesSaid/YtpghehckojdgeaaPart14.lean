/- Part 14 of the contracts: RGrown, SLat2, SStrs, RSTablesW. -/
import Derived.Test.YtpghehckojdgeaaPart13

/- The law's grown. (By gen_rgrown.py.) -/
set_option linter.unusedVariables false
set_option linter.unusedSimpArgs false
namespace Go.Proofs.Ytpghehckojdgeaa
open Go.RowKit Go.Shelf Go.Sort

/-- what the region of two appends holds: the new table in both forms, in boxes -/
structure GS (w : World) (m : Nat) (T : Tab) (a1 : Option Addr) (n1 c1 : Nat) (a2 : Option Addr) (n2 c2 B8 B9 : Nat) : Prop where
  b8 : Box w B8 34 #[.int .i64 (T.seen 0 : Int), .int .i64 (T.seen 1 : Int), .int .i64 (T.seen 2 : Int), .int .i64 (T.seen 3 : Int), .int .i64 (T.seen 4 : Int), .int .i64 (T.seen 5 : Int), .int .i64 (T.seen 6 : Int), .int .i64 (T.seen 7 : Int), .slice a1 n1 c1]
  b9 : Box w B9 36 #[.int .i64 (T.seen 0 : Int), .int .i64 (T.seen 1 : Int), .int .i64 (T.seen 2 : Int), .int .i64 (T.seen 3 : Int), .int .i64 (T.seen 4 : Int), .int .i64 (T.seen 5 : Int), .int .i64 (T.seen 6 : Int), .int .i64 (T.seen 7 : Int), .slice a2 n2 c2]
  hs : Held w m T a1 n1
  hr : HeldR w m T a2 n2 c2
theorem GS.keep {w w' : World} {m : Nat} {T : Tab} {a1 : Option Addr} {n1 c1 : Nat} {a2 : Option Addr} {n2 c2 B8 B9 : Nat} (h : GS w m T a1 n1 c1 a2 n2 c2 B8 B9) (hb : Below w.heap.size w w') : GS w' m T a1 n1 c1 a2 n2 c2 B8 B9 := ⟨row_keep hb h.b8, row_keep hb h.b9, h.hs.keep hb, h.hr.keep hb⟩
theorem GS.far {w w' : World} {m : Nat} {T : Tab} {a1 : Option Addr} {n1 c1 : Nat} {a2 : Option Addr} {n2 c2 B8 B9 g : Nat} {z : Int} (h : GS w m T a1 n1 c1 a2 n2 c2 B8 B9) (hT : w.cell? ⟨g, 0, none⟩ = some (.int .i64 z)) (hk : ∀ b, b < w.heap.size → b ≠ g → w'.heap[b]? = w.heap[b]?) (hs : w.heap.size ≤ w'.heap.size) (h8 : B8 ≠ g) (h9 : B9 ≠ g) (_ : 0 < 1) : GS w' m T a1 n1 c1 a2 n2 c2 B8 B9 :=
  ⟨(hk B8 (Array.getElem?_eq_some_iff.1 h.b8).1 h8).trans h.b8, (hk B9 (Array.getElem?_eq_some_iff.1 h.b9).1 h9).trans h.b9, ⟨h.hs.el.far hT (fun b o hb hn => World.cell?_of_block (a := ⟨b, o, none⟩) (hk b hb hn)) hs, h.hs.ok⟩, ⟨h.hr.el.far hT (fun b o hb hn => World.cell?_of_block (a := ⟨b, o, none⟩) (hk b hb hn)) hs, h.hr.ok, h.hr.nc, h.hr.cm⟩⟩
/-- both rows are returned -/
def OutB (W : World) (la : Nat) (e : Ending) (w' : World) : Prop := ∃ (gT gR n cp cq : Nat) (l lr : List Slot), e = .returned (.tuple #[.slice (some ⟨gT, 0, none⟩) n cp, .slice (some ⟨gR, 0, none⟩) n cq, .bool true]) ∧ Both w' W.heap.size la gT gR n cp cq l lr ∧ n ≤ la + 1 ∧ Below W.heap.size W w'
set_option maxRecDepth 100000 in
set_option maxHeartbeats 16000000 in
theorem grown_any (ao : Option Addr) (la ca : Nat) (xs : List ActD) (W : World) (h : Acts W ao la xs) (hla : la ≤ 900) :
    Calls Try.prog 9 #[.slice ao la ca] W (OutB W la) := by
  have HA := Lib.hid h
  have pl : (la : Int) ≤ 900 := by omega
  have hmkT : ∀ w : World, (Instr.makeSlice 25 (.int .i64 1) (.int .i64 1)).run Try.prog w = .ok (.slice (some ⟨w.heap.size, 0, none⟩) 1 1) (w.alloc (.cells #[.int .i64 0, .int .i64 0, .int .i64 0, .int .i64 0, .int .i64 0, .int .i64 0, .int .i64 0, .int .i64 0, .slice none 0 0] 34)) := fun _ => by kernel_rfl
  have hmkR : ∀ w : World, (Instr.makeSlice 26 (.int .i64 1) (.int .i64 1)).run Try.prog w = .ok (.slice (some ⟨w.heap.size, 0, none⟩) 1 1) (w.alloc (.cells #[.int .i64 0, .int .i64 0, .int .i64 0, .int .i64 0, .int .i64 0, .int .i64 0, .int .i64 0, .int .i64 0, .slice none 0 0] 36)) := fun _ => by kernel_rfl
  clear h
  go_enter Try.func9, Try.ntmps9
  go_upto_region 1 with fail
  go_cut [5, 6] (fun v5 v6 wx => ∃ g1 g2, v5 = .slice (some ⟨g1, 0, none⟩) 1 1 ∧ v6 = .slice (some ⟨g2, 0, none⟩) 1 1 ∧ Hid (Both wx W.heap.size 0 g1 g2 1 1 1 [⟨Tab.none, none, 0, 0⟩] [⟨Tab.none, none, 0, 0⟩] ∧ Below W.heap.size W wx))
  · go_region
    all_goals go_wp2_with fail
    all_goals go_meet
    · exact ⟨_, _, rfl, rfl, Lib.hid ⟨⟨tabs_one _ _ (by exact block1 W _ _) _ (Nat.le_refl _), rtabs_one _ _ (by exact block2 W _ _) _ (by omega), rfl⟩, (below2 W _ _).drew⟩⟩
    · exact ⟨_, _, rfl, rfl, Lib.hid ⟨⟨tabs_one _ _ (by exact block2 W _ _) _ (by omega), rtabs_one _ _ (by exact block1 W _ _) _ (Nat.le_refl _), rfl⟩, (below2 W _ _).drew⟩⟩
  · obtain ⟨g1, g2, rfl, rfl, HX⟩ := hcut
    have HB0 := Lib.hid HX.out.1
    have HW0 := Lib.hid HX.out.2
    clear HX hmkT hmkR
    go_wp2
    go_loopg [5, 6, 7, 8, 9, 10] la (fun gg s5 s6 s7 _ _ _ wr => ∃ (i gT gR n cp cq : Nat) (l lr : List Slot), s7 = .int .i64 (i : Int) ∧ i ≤ la ∧ la - i ≤ gg ∧ s5 = .slice (some ⟨gT, 0, none⟩) n cp ∧ s6 = .slice (some ⟨gR, 0, none⟩) n cq ∧ n ≤ i + 1 ∧ Hid (Both wr W.heap.size i gT gR n cp cq l lr) ∧ Hid (Below W.heap.size W wr))
    case atStart => exact ⟨0, g1, g2, 1, 1, 1, _, _, rfl, Nat.zero_le _, by omega, rfl, rfl, Nat.le_refl _, HB0, HW0⟩
    case round =>
      obtain ⟨i, gT, gR, n, cp, cq, l, lr, rfl, hi, hgg, rfl, rfl, hn, HT, HB⟩ := hrel
      by_cases hlt : i < la
      · have t1 : (i : Int) < (la : Int) := by omega
        have t0 : (0 : Int) ≤ (i : Int) := by omega
        obtain ⟨ga, oa, hga, hact, hfine⟩ := (HA.out.keep HB.out).at hlt
        obtain ⟨x, hx⟩ : ∃ x, x = xs[i]! := ⟨_, rfl⟩
        rw [← hx] at hact hfine
        clear hx
        subst hga
        have hpos := HT.out.t.pos
        have hpan : x.a % n < n := Nat.mod_lt _ (by omega)
        have hpbn : x.b % n < n := Nat.mod_lt _ (by omega)
        have A1 := HT.out.at hpan
        have A2 := HT.out.at hpbn
        have MA := Lib.hid (made_any i gT gR n cp cq (x.a % n) (x.b % n) x l[x.a % n]! l[x.b % n]! lr[x.a % n]! lr[x.b % n]! wr hfine hpos (by omega) (by omega) rfl rfl A1.1 A2.1 A1.2.2.1 A2.2.2.1 A1.2.1 A2.2.1 A1.2.2.2 A2.2.2.2)
        clear A1 A2 hpan hpbn hfine
        obtain ⟨d0, d1, d2, d3, d4, d5⟩ := hact
        go_upto_region 6 with (go_at_call 29; refine MA.out.mono ?_; rintro e w4 ⟨T4, a4, n4, c4, b4, m4, k4, rfl, hh, hr, hb⟩; have HS4 := Lib.hid hh; have HR4 := Lib.hid hr; have B4 := Lib.hid hb; clear hh hr hb)
        clear d0 d1 d2 d3 d4 d5 MA
        go_upto_region 8 with fail
        have hgT : gT < w4.heap.size := Nat.lt_of_lt_of_le HT.out.t.lt B4.out.size
        have hgR : gR < w4.heap.size := Nat.lt_of_lt_of_le HT.out.r.lt B4.out.size
        have HEQ := Lib.hid HT.out.eq
        obtain ⟨V, hV⟩ : ∃ V, V = (w4.alloc (.cells #[.int .i64 (T4.seen 0 : Int), .int .i64 (T4.seen 1 : Int), .int .i64 (T4.seen 2 : Int), .int .i64 (T4.seen 3 : Int), .int .i64 (T4.seen 4 : Int), .int .i64 (T4.seen 5 : Int), .int .i64 (T4.seen 6 : Int), .int .i64 (T4.seen 7 : Int), .slice a4 n4 c4] 34)).alloc (.cells #[.int .i64 (T4.seen 0 : Int), .int .i64 (T4.seen 1 : Int), .int .i64 (T4.seen 2 : Int), .int .i64 (T4.seen 3 : Int), .int .i64 (T4.seen 4 : Int), .int .i64 (T4.seen 5 : Int), .int .i64 (T4.seen 6 : Int), .int .i64 (T4.seen 7 : Int), .slice b4 m4 k4] 36) := ⟨_, rfl⟩
        have bv : Below w4.heap.size w4 V := by rw [hV]; exact below2 w4 _ _
        have bwr : Below wr.heap.size wr V.drew := (below_then B4.out bv).drew
        have TT := Lib.hid ((HT.out.t.keep bwr).more (Nat.le_succ i))
        have RR := Lib.hid ((HT.out.r.keep bwr).more (Nat.le_succ i))
        have G : Hid (GS V.drew (i + 1) T4 a4 n4 c4 b4 m4 k4 w4.heap.size (w4.heap.size + 1)) := Lib.hid ⟨by rw [hV]; exact block1 w4 _ _, by rw [hV]; exact block2 w4 _ _, HS4.out.keep bv.drew, HR4.out.keep bv.drew⟩
        have BW := Lib.hid (HB.out.trans (bwr.mono HB.out.size))
        have LV : w4.heap.size + 2 ≤ V.drew.heap.size := by rw [hV]; simp
        rw [← hV]
        clear hV bv bwr HT HB HS4 HR4 B4 HA
        refine wp_region_held_drew (S := fun w' => Box w' (w4.heap.size) 34 #[.int .i64 (T4.seen 0 : Int), .int .i64 (T4.seen 1 : Int), .int .i64 (T4.seen 2 : Int), .int .i64 (T4.seen 3 : Int), .int .i64 (T4.seen 4 : Int), .int .i64 (T4.seen 5 : Int), .int .i64 (T4.seen 6 : Int), .int .i64 (T4.seen 7 : Int), .slice a4 n4 c4] ∧ Box w' (w4.heap.size + 1) 36 #[.int .i64 (T4.seen 0 : Int), .int .i64 (T4.seen 1 : Int), .int .i64 (T4.seen 2 : Int), .int .i64 (T4.seen 3 : Int), .int .i64 (T4.seen 4 : Int), .int .i64 (T4.seen 5 : Int), .int .i64 (T4.seen 6 : Int), .int .i64 (T4.seen 7 : Int), .slice b4 m4 k4]) (by kernel_rfl) ⟨G.out.b8, G.out.b9⟩ (fun hS => ?_)
        obtain ⟨Y, hY⟩ : ∃ Y, Y = V.drew := ⟨_, rfl⟩
        rw [← hY] at G TT RR BW LV hS ⊢
        clear hY
        refine wpAnyH_take (i := 0) (v := ?vg0) rfl (by kernel_rfl) (by kernel_rfl) (by kernel_rfl) (fun _ _ _ h => h) (Or.inl ⟨by rfl, ?hyg0⟩) hS ?restg0
        case hyg0 => (intro w hSw; obtain ⟨hs4, hs5⟩ := hSw; obtain ⟨g0, g1, g2, g3, g4, g5, g6, g7, g8⟩ := cell_nine hs4; obtain ⟨k0, k1, k2, k3, k4, k5, k6, k7, k8⟩ := cell_nine hs5; clear hs4 hs5; first | (go_simp; done) | (go_simp; with_reducible rfl))
        try simp only [Act.put, List.getElem_toArray, List.getElem_cons_succ, List.getElem_cons_zero, List.setIfInBounds_toArray, List.set_cons_zero, List.set_cons_succ]
        refine wpAnyH_take (i := 1) (v := ?vg1) rfl (by kernel_rfl) (by kernel_rfl) (by kernel_rfl) (fun _ _ _ h => h) (Or.inl ⟨by rfl, ?hyg1⟩) hS ?restg1
        case hyg1 => (intro w hSw; obtain ⟨hs4, hs5⟩ := hSw; obtain ⟨g0, g1, g2, g3, g4, g5, g6, g7, g8⟩ := cell_nine hs4; obtain ⟨k0, k1, k2, k3, k4, k5, k6, k7, k8⟩ := cell_nine hs5; clear hs4 hs5; first | (go_simp; done) | (go_simp; with_reducible rfl))
        try simp only [Act.put, List.getElem_toArray, List.getElem_cons_succ, List.getElem_cons_zero, List.setIfInBounds_toArray, List.set_cons_zero, List.set_cons_succ]
        refine wpAnyH_take (i := 4) (v := ?vg4) rfl (by kernel_rfl) (by kernel_rfl) (by kernel_rfl) (fun _ _ _ h => h) (Or.inl ⟨by rfl, ?hyg4⟩) hS ?restg4
        case hyg4 => (intro w hSw; obtain ⟨hs4, hs5⟩ := hSw; obtain ⟨g0, g1, g2, g3, g4, g5, g6, g7, g8⟩ := cell_nine hs4; obtain ⟨k0, k1, k2, k3, k4, k5, k6, k7, k8⟩ := cell_nine hs5; clear hs4 hs5; first | (go_simp; done) | (go_simp; with_reducible rfl))
        try simp only [Act.put, List.getElem_toArray, List.getElem_cons_succ, List.getElem_cons_zero, List.setIfInBounds_toArray, List.set_cons_zero, List.set_cons_succ]
        refine wpAnyH_take (i := 5) (v := ?vg5) rfl (by kernel_rfl) (by kernel_rfl) (by kernel_rfl) (fun _ _ _ h => h) (Or.inl ⟨by rfl, ?hyg5⟩) hS ?restg5
        case hyg5 => (intro w hSw; obtain ⟨hs4, hs5⟩ := hSw; obtain ⟨g0, g1, g2, g3, g4, g5, g6, g7, g8⟩ := cell_nine hs4; obtain ⟨k0, k1, k2, k3, k4, k5, k6, k7, k8⟩ := cell_nine hs5; clear hs4 hs5; first | (go_simp; done) | (go_simp; with_reducible rfl))
        try simp only [Act.put, List.getElem_toArray, List.getElem_cons_succ, List.getElem_cons_zero, List.setIfInBounds_toArray, List.set_cons_zero, List.set_cons_succ]
        refine wpAnyH_ready (rs := [2, 6]) (by kernel_rfl) (by simp) ?_
        refine AllReadyH.cons rfl (fun K hK => ?_) (AllReadyH.cons rfl (fun K hK => ?_) AllReadyH.nil)
        · try go_simp
          refine hK.out _ _ ⟨row_keep (box_below _ _) G.out.b8, row_keep (box_below _ _) G.out.b9⟩ (fun hS => ?_)
          clear hK K hS
          try simp only [Act.put, List.getElem_toArray, List.getElem_cons_succ, List.getElem_cons_zero, List.setIfInBounds_toArray, List.set_cons_zero, List.set_cons_succ]
          obtain ⟨X1, hX1⟩ : ∃ X1, X1 = Y.alloc (.cells #[.int .i64 (T4.seen 0 : Int), .int .i64 (T4.seen 1 : Int), .int .i64 (T4.seen 2 : Int), .int .i64 (T4.seen 3 : Int), .int .i64 (T4.seen 4 : Int), .int .i64 (T4.seen 5 : Int), .int .i64 (T4.seen 6 : Int), .int .i64 (T4.seen 7 : Int), .slice a4 n4 c4] 34) := ⟨_, rfl⟩
          have bx : Below Y.heap.size Y X1 := by rw [hX1]; exact box_below _ _
          have H2 : Hid (X1.heap[Y.heap.size]? = some (.cells (slotC ⟨T4, a4, n4, c4⟩).toArray 34 (0, 0))) := Lib.hid (by rw [hX1]; exact heap_alloc_new _ _)
          try replace H6 := Lib.hid (row_keep bx H6.out)
          replace G := Lib.hid (G.out.keep bx)
          replace TT := Lib.hid (TT.out.keep bx)
          replace RR := Lib.hid (RR.out.keep bx)
          replace BW := Lib.hid (BW.out.trans (bx.mono BW.out.size))
          have LEX1 : Y.heap.size < X1.heap.size := by rw [hX1]; simp
          rw [← hX1]
          clear hX1 bx
          have hS := And.intro G.out.b8 G.out.b9
          refine wpAnyH_ready (rs := [3, 6]) (by kernel_rfl) (by simp) ?_
          refine AllReadyH.cons rfl (fun K hK => ?_) (AllReadyH.cons rfl (fun K hK => ?_) AllReadyH.nil)
          · refine step_appT2 (w := X1) (by rfl) (.tmp 32) (.tmp 34) (by rfl) W.heap.size (i + 1) gT n cp l ⟨T4, a4, n4, c4⟩ Y.heap.size 34 H2.out (by rfl) TT.out G.out.hs (by rfl) (by omega) BW.out.size ?_
            intro g5 cap5 X2 hT5 hb5 hs5 hf5
            obtain ⟨z5, hz5⟩ := TT.out.int
            have hne5 := two_rows TT.out RR.out
            replace RR := Lib.hid (RR.out.far (Ne.symm hne5) hz5 hf5 hs5)
            replace G := Lib.hid (G.out.far hz5 hf5 hs5 (by omega) (by omega) (by omega))
            replace BW := Lib.hid (BW.out.trans hb5)
            replace TT := Lib.hid hT5
            have LEX2 : X1.heap.size ≤ X2.heap.size := hs5
            clear hT5 hb5 hs5 hf5 hz5 hne5
            refine hK.out _ _ ⟨G.out.b8, G.out.b9⟩ (fun hS => ?_)
            clear hK K
            try simp only [Act.put, List.getElem_toArray, List.getElem_cons_succ, List.getElem_cons_zero, List.setIfInBounds_toArray, List.set_cons_zero, List.set_cons_succ]
            refine wpAnyH_ready (rs := [6]) (by kernel_rfl) (by simp) ?_
            refine AllReadyH.cons rfl (fun K hK => ?_) AllReadyH.nil
            try go_simp
            refine hK.out _ _ ⟨row_keep (box_below _ _) G.out.b8, row_keep (box_below _ _) G.out.b9⟩ (fun hS => ?_)
            clear hK K hS
            try simp only [Act.put, List.getElem_toArray, List.getElem_cons_succ, List.getElem_cons_zero, List.setIfInBounds_toArray, List.set_cons_zero, List.set_cons_succ]
            obtain ⟨X3, hX3⟩ : ∃ X3, X3 = X2.alloc (.cells #[.int .i64 (T4.seen 0 : Int), .int .i64 (T4.seen 1 : Int), .int .i64 (T4.seen 2 : Int), .int .i64 (T4.seen 3 : Int), .int .i64 (T4.seen 4 : Int), .int .i64 (T4.seen 5 : Int), .int .i64 (T4.seen 6 : Int), .int .i64 (T4.seen 7 : Int), .slice b4 m4 k4] 36) := ⟨_, rfl⟩
            have bx : Below X2.heap.size X2 X3 := by rw [hX3]; exact box_below _ _
            have H6 : Hid (X3.heap[X2.heap.size]? = some (.cells (slotC ⟨T4, b4, m4, k4⟩).toArray 36 (0, 0))) := Lib.hid (by rw [hX3]; exact heap_alloc_new _ _)
            try replace H2 := Lib.hid (row_keep bx H2.out)
            replace G := Lib.hid (G.out.keep bx)
            replace TT := Lib.hid (TT.out.keep bx)
            replace RR := Lib.hid (RR.out.keep bx)
            replace BW := Lib.hid (BW.out.trans (bx.mono BW.out.size))
            have LEX3 : X2.heap.size < X3.heap.size := by rw [hX3]; simp
            rw [← hX3]
            clear hX3 bx
            have hS := And.intro G.out.b8 G.out.b9
            refine wpAnyH_ready (rs := [7]) (by kernel_rfl) (by simp) ?_
            refine AllReadyH.cons rfl (fun K hK => ?_) AllReadyH.nil
            refine step_appR2 (w := X3) (by rfl) (.tmp 36) (.tmp 38) (by rfl) W.heap.size (i + 1) gR n cq lr ⟨T4, b4, m4, k4⟩ X2.heap.size 36 H6.out (by rfl) RR.out G.out.hr (by rfl) (by omega) BW.out.size ?_
            intro g7 cap7 X4 hT5 hb5 hs5 hf5
            obtain ⟨z5, hz5⟩ := RR.out.int
            have hne5 := two_rows TT.out RR.out
            replace TT := Lib.hid (TT.out.far hne5 hz5 hf5 hs5)
            replace G := Lib.hid (G.out.far hz5 hf5 hs5 (by omega) (by omega) (by omega))
            replace BW := Lib.hid (BW.out.trans hb5)
            replace RR := Lib.hid hT5
            have LEX4 : X3.heap.size ≤ X4.heap.size := hs5
            clear hT5 hb5 hs5 hf5 hz5 hne5
            refine hK.out _ _ ⟨G.out.b8, G.out.b9⟩ (fun hS => ?_)
            clear hK K
            try simp only [Act.put, List.getElem_toArray, List.getElem_cons_succ, List.getElem_cons_zero, List.setIfInBounds_toArray, List.set_cons_zero, List.set_cons_succ]
            refine wpAnyH_take (i := 8) (v := ?vga8) rfl (by kernel_rfl) (by kernel_rfl) (by kernel_rfl) (fun _ _ _ h => h) (Or.inl ⟨by rfl, ?hyga8⟩) hS ?restga8
            case hyga8 => (intro w hSw; obtain ⟨hs4, hs5⟩ := hSw; obtain ⟨g0, g1, g2, g3, g4, g5, g6, g7, g8⟩ := cell_nine hs4; obtain ⟨k0, k1, k2, k3, k4, k5, k6, k7, k8⟩ := cell_nine hs5; clear hs4 hs5; first | (go_simp; done) | (go_simp; with_reducible rfl))
            try simp only [Act.put, List.getElem_toArray, List.getElem_cons_succ, List.getElem_cons_zero, List.setIfInBounds_toArray, List.set_cons_zero, List.set_cons_succ]
            refine wpAnyH_take (i := 9) (v := ?vga9) rfl (by kernel_rfl) (by kernel_rfl) (by kernel_rfl) (fun _ _ _ h => h) (Or.inl ⟨by rfl, ?hyga9⟩) hS ?restga9
            case hyga9 => (intro w hSw; obtain ⟨hs4, hs5⟩ := hSw; obtain ⟨g0, g1, g2, g3, g4, g5, g6, g7, g8⟩ := cell_nine hs4; obtain ⟨k0, k1, k2, k3, k4, k5, k6, k7, k8⟩ := cell_nine hs5; clear hs4 hs5; first | (go_simp; done) | (go_simp; with_reducible rfl))
            try simp only [Act.put, List.getElem_toArray, List.getElem_cons_succ, List.getElem_cons_zero, List.setIfInBounds_toArray, List.set_cons_zero, List.set_cons_succ]
            refine wpAnyH_done (by kernel_rfl) ?_ _
            go_wp2_with fail
            go_roundg (la - (i + 1))
            case measure => omega
            case rel => exact ⟨i + 1, g5, g7, n + 1, cap5, cap7, _, _, by go_num, by omega, Nat.le_refl _, rfl, rfl, by omega, Lib.hid ⟨TT.out, RR.out, by rw [List.map_append, List.map_append, HEQ.out]; rfl⟩, BW⟩
          · try go_simp
            refine hK.out _ _ ⟨row_keep (box_below _ _) G.out.b8, row_keep (box_below _ _) G.out.b9⟩ (fun hS => ?_)
            clear hK K hS
            try simp only [Act.put, List.getElem_toArray, List.getElem_cons_succ, List.getElem_cons_zero, List.setIfInBounds_toArray, List.set_cons_zero, List.set_cons_succ]
            obtain ⟨X2, hX2⟩ : ∃ X2, X2 = X1.alloc (.cells #[.int .i64 (T4.seen 0 : Int), .int .i64 (T4.seen 1 : Int), .int .i64 (T4.seen 2 : Int), .int .i64 (T4.seen 3 : Int), .int .i64 (T4.seen 4 : Int), .int .i64 (T4.seen 5 : Int), .int .i64 (T4.seen 6 : Int), .int .i64 (T4.seen 7 : Int), .slice b4 m4 k4] 36) := ⟨_, rfl⟩
            have bx : Below X1.heap.size X1 X2 := by rw [hX2]; exact box_below _ _
            have H6 : Hid (X2.heap[X1.heap.size]? = some (.cells (slotC ⟨T4, b4, m4, k4⟩).toArray 36 (0, 0))) := Lib.hid (by rw [hX2]; exact heap_alloc_new _ _)
            try replace H2 := Lib.hid (row_keep bx H2.out)
            replace G := Lib.hid (G.out.keep bx)
            replace TT := Lib.hid (TT.out.keep bx)
            replace RR := Lib.hid (RR.out.keep bx)
            replace BW := Lib.hid (BW.out.trans (bx.mono BW.out.size))
            have LEX2 : X1.heap.size < X2.heap.size := by rw [hX2]; simp
            rw [← hX2]
            clear hX2 bx
            have hS := And.intro G.out.b8 G.out.b9
            refine wpAnyH_ready (rs := [3]) (by kernel_rfl) (by simp) ?_
            refine AllReadyH.cons rfl (fun K hK => ?_) AllReadyH.nil
            refine step_appT2 (w := X2) (by rfl) (.tmp 32) (.tmp 34) (by rfl) W.heap.size (i + 1) gT n cp l ⟨T4, a4, n4, c4⟩ Y.heap.size 34 H2.out (by rfl) TT.out G.out.hs (by rfl) (by omega) BW.out.size ?_
            intro g5 cap5 X3 hT5 hb5 hs5 hf5
            obtain ⟨z5, hz5⟩ := TT.out.int
            have hne5 := two_rows TT.out RR.out
            replace RR := Lib.hid (RR.out.far (Ne.symm hne5) hz5 hf5 hs5)
            replace H6 := Lib.hid ((hf5 X1.heap.size (by omega) (by omega)).trans H6.out)
            replace G := Lib.hid (G.out.far hz5 hf5 hs5 (by omega) (by omega) (by omega))
            replace BW := Lib.hid (BW.out.trans hb5)
            replace TT := Lib.hid hT5
            have LEX3 : X2.heap.size ≤ X3.heap.size := hs5
            clear hT5 hb5 hs5 hf5 hz5 hne5
            refine hK.out _ _ ⟨G.out.b8, G.out.b9⟩ (fun hS => ?_)
            clear hK K
            try simp only [Act.put, List.getElem_toArray, List.getElem_cons_succ, List.getElem_cons_zero, List.setIfInBounds_toArray, List.set_cons_zero, List.set_cons_succ]
            refine wpAnyH_ready (rs := [7]) (by kernel_rfl) (by simp) ?_
            refine AllReadyH.cons rfl (fun K hK => ?_) AllReadyH.nil
            refine step_appR2 (w := X3) (by rfl) (.tmp 36) (.tmp 38) (by rfl) W.heap.size (i + 1) gR n cq lr ⟨T4, b4, m4, k4⟩ X1.heap.size 36 H6.out (by rfl) RR.out G.out.hr (by rfl) (by omega) BW.out.size ?_
            intro g7 cap7 X4 hT5 hb5 hs5 hf5
            obtain ⟨z5, hz5⟩ := RR.out.int
            have hne5 := two_rows TT.out RR.out
            replace TT := Lib.hid (TT.out.far hne5 hz5 hf5 hs5)
            replace G := Lib.hid (G.out.far hz5 hf5 hs5 (by omega) (by omega) (by omega))
            replace BW := Lib.hid (BW.out.trans hb5)
            replace RR := Lib.hid hT5
            have LEX4 : X3.heap.size ≤ X4.heap.size := hs5
            clear hT5 hb5 hs5 hf5 hz5 hne5
            refine hK.out _ _ ⟨G.out.b8, G.out.b9⟩ (fun hS => ?_)
            clear hK K
            try simp only [Act.put, List.getElem_toArray, List.getElem_cons_succ, List.getElem_cons_zero, List.setIfInBounds_toArray, List.set_cons_zero, List.set_cons_succ]
            refine wpAnyH_take (i := 8) (v := ?vgb8) rfl (by kernel_rfl) (by kernel_rfl) (by kernel_rfl) (fun _ _ _ h => h) (Or.inl ⟨by rfl, ?hygb8⟩) hS ?restgb8
            case hygb8 => (intro w hSw; obtain ⟨hs4, hs5⟩ := hSw; obtain ⟨g0, g1, g2, g3, g4, g5, g6, g7, g8⟩ := cell_nine hs4; obtain ⟨k0, k1, k2, k3, k4, k5, k6, k7, k8⟩ := cell_nine hs5; clear hs4 hs5; first | (go_simp; done) | (go_simp; with_reducible rfl))
            try simp only [Act.put, List.getElem_toArray, List.getElem_cons_succ, List.getElem_cons_zero, List.setIfInBounds_toArray, List.set_cons_zero, List.set_cons_succ]
            refine wpAnyH_take (i := 9) (v := ?vgb9) rfl (by kernel_rfl) (by kernel_rfl) (by kernel_rfl) (fun _ _ _ h => h) (Or.inl ⟨by rfl, ?hygb9⟩) hS ?restgb9
            case hygb9 => (intro w hSw; obtain ⟨hs4, hs5⟩ := hSw; obtain ⟨g0, g1, g2, g3, g4, g5, g6, g7, g8⟩ := cell_nine hs4; obtain ⟨k0, k1, k2, k3, k4, k5, k6, k7, k8⟩ := cell_nine hs5; clear hs4 hs5; first | (go_simp; done) | (go_simp; with_reducible rfl))
            try simp only [Act.put, List.getElem_toArray, List.getElem_cons_succ, List.getElem_cons_zero, List.setIfInBounds_toArray, List.set_cons_zero, List.set_cons_succ]
            refine wpAnyH_done (by kernel_rfl) ?_ _
            go_wp2_with fail
            go_roundg (la - (i + 1))
            case measure => omega
            case rel => exact ⟨i + 1, g5, g7, n + 1, cap5, cap7, _, _, by go_num, by omega, Nat.le_refl _, rfl, rfl, by omega, Lib.hid ⟨TT.out, RR.out, by rw [List.map_append, List.map_append, HEQ.out]; rfl⟩, BW⟩
        · try go_simp
          refine hK.out _ _ ⟨row_keep (box_below _ _) G.out.b8, row_keep (box_below _ _) G.out.b9⟩ (fun hS => ?_)
          clear hK K hS
          try simp only [Act.put, List.getElem_toArray, List.getElem_cons_succ, List.getElem_cons_zero, List.setIfInBounds_toArray, List.set_cons_zero, List.set_cons_succ]
          obtain ⟨X1, hX1⟩ : ∃ X1, X1 = Y.alloc (.cells #[.int .i64 (T4.seen 0 : Int), .int .i64 (T4.seen 1 : Int), .int .i64 (T4.seen 2 : Int), .int .i64 (T4.seen 3 : Int), .int .i64 (T4.seen 4 : Int), .int .i64 (T4.seen 5 : Int), .int .i64 (T4.seen 6 : Int), .int .i64 (T4.seen 7 : Int), .slice b4 m4 k4] 36) := ⟨_, rfl⟩
          have bx : Below Y.heap.size Y X1 := by rw [hX1]; exact box_below _ _
          have H6 : Hid (X1.heap[Y.heap.size]? = some (.cells (slotC ⟨T4, b4, m4, k4⟩).toArray 36 (0, 0))) := Lib.hid (by rw [hX1]; exact heap_alloc_new _ _)
          try replace H2 := Lib.hid (row_keep bx H2.out)
          replace G := Lib.hid (G.out.keep bx)
          replace TT := Lib.hid (TT.out.keep bx)
          replace RR := Lib.hid (RR.out.keep bx)
          replace BW := Lib.hid (BW.out.trans (bx.mono BW.out.size))
          have LEX1 : Y.heap.size < X1.heap.size := by rw [hX1]; simp
          rw [← hX1]
          clear hX1 bx
          have hS := And.intro G.out.b8 G.out.b9
          refine wpAnyH_ready (rs := [2]) (by kernel_rfl) (by simp) ?_
          refine AllReadyH.cons rfl (fun K hK => ?_) AllReadyH.nil
          try go_simp
          refine hK.out _ _ ⟨row_keep (box_below _ _) G.out.b8, row_keep (box_below _ _) G.out.b9⟩ (fun hS => ?_)
          clear hK K hS
          try simp only [Act.put, List.getElem_toArray, List.getElem_cons_succ, List.getElem_cons_zero, List.setIfInBounds_toArray, List.set_cons_zero, List.set_cons_succ]
          obtain ⟨X2, hX2⟩ : ∃ X2, X2 = X1.alloc (.cells #[.int .i64 (T4.seen 0 : Int), .int .i64 (T4.seen 1 : Int), .int .i64 (T4.seen 2 : Int), .int .i64 (T4.seen 3 : Int), .int .i64 (T4.seen 4 : Int), .int .i64 (T4.seen 5 : Int), .int .i64 (T4.seen 6 : Int), .int .i64 (T4.seen 7 : Int), .slice a4 n4 c4] 34) := ⟨_, rfl⟩
          have bx : Below X1.heap.size X1 X2 := by rw [hX2]; exact box_below _ _
          have H2 : Hid (X2.heap[X1.heap.size]? = some (.cells (slotC ⟨T4, a4, n4, c4⟩).toArray 34 (0, 0))) := Lib.hid (by rw [hX2]; exact heap_alloc_new _ _)
          try replace H6 := Lib.hid (row_keep bx H6.out)
          replace G := Lib.hid (G.out.keep bx)
          replace TT := Lib.hid (TT.out.keep bx)
          replace RR := Lib.hid (RR.out.keep bx)
          replace BW := Lib.hid (BW.out.trans (bx.mono BW.out.size))
          have LEX2 : X1.heap.size < X2.heap.size := by rw [hX2]; simp
          rw [← hX2]
          clear hX2 bx
          have hS := And.intro G.out.b8 G.out.b9
          refine wpAnyH_ready (rs := [3]) (by kernel_rfl) (by simp) ?_
          refine AllReadyH.cons rfl (fun K hK => ?_) AllReadyH.nil
          refine step_appT2 (w := X2) (by rfl) (.tmp 32) (.tmp 34) (by rfl) W.heap.size (i + 1) gT n cp l ⟨T4, a4, n4, c4⟩ X1.heap.size 34 H2.out (by rfl) TT.out G.out.hs (by rfl) (by omega) BW.out.size ?_
          intro g5 cap5 X3 hT5 hb5 hs5 hf5
          obtain ⟨z5, hz5⟩ := TT.out.int
          have hne5 := two_rows TT.out RR.out
          replace RR := Lib.hid (RR.out.far (Ne.symm hne5) hz5 hf5 hs5)
          replace H6 := Lib.hid ((hf5 Y.heap.size (by omega) (by omega)).trans H6.out)
          replace G := Lib.hid (G.out.far hz5 hf5 hs5 (by omega) (by omega) (by omega))
          replace BW := Lib.hid (BW.out.trans hb5)
          replace TT := Lib.hid hT5
          have LEX3 : X2.heap.size ≤ X3.heap.size := hs5
          clear hT5 hb5 hs5 hf5 hz5 hne5
          refine hK.out _ _ ⟨G.out.b8, G.out.b9⟩ (fun hS => ?_)
          clear hK K
          try simp only [Act.put, List.getElem_toArray, List.getElem_cons_succ, List.getElem_cons_zero, List.setIfInBounds_toArray, List.set_cons_zero, List.set_cons_succ]
          refine wpAnyH_ready (rs := [7]) (by kernel_rfl) (by simp) ?_
          refine AllReadyH.cons rfl (fun K hK => ?_) AllReadyH.nil
          refine step_appR2 (w := X3) (by rfl) (.tmp 36) (.tmp 38) (by rfl) W.heap.size (i + 1) gR n cq lr ⟨T4, b4, m4, k4⟩ Y.heap.size 36 H6.out (by rfl) RR.out G.out.hr (by rfl) (by omega) BW.out.size ?_
          intro g7 cap7 X4 hT5 hb5 hs5 hf5
          obtain ⟨z5, hz5⟩ := RR.out.int
          have hne5 := two_rows TT.out RR.out
          replace TT := Lib.hid (TT.out.far hne5 hz5 hf5 hs5)
          replace G := Lib.hid (G.out.far hz5 hf5 hs5 (by omega) (by omega) (by omega))
          replace BW := Lib.hid (BW.out.trans hb5)
          replace RR := Lib.hid hT5
          have LEX4 : X3.heap.size ≤ X4.heap.size := hs5
          clear hT5 hb5 hs5 hf5 hz5 hne5
          refine hK.out _ _ ⟨G.out.b8, G.out.b9⟩ (fun hS => ?_)
          clear hK K
          try simp only [Act.put, List.getElem_toArray, List.getElem_cons_succ, List.getElem_cons_zero, List.setIfInBounds_toArray, List.set_cons_zero, List.set_cons_succ]
          refine wpAnyH_take (i := 8) (v := ?vgc8) rfl (by kernel_rfl) (by kernel_rfl) (by kernel_rfl) (fun _ _ _ h => h) (Or.inl ⟨by rfl, ?hygc8⟩) hS ?restgc8
          case hygc8 => (intro w hSw; obtain ⟨hs4, hs5⟩ := hSw; obtain ⟨g0, g1, g2, g3, g4, g5, g6, g7, g8⟩ := cell_nine hs4; obtain ⟨k0, k1, k2, k3, k4, k5, k6, k7, k8⟩ := cell_nine hs5; clear hs4 hs5; first | (go_simp; done) | (go_simp; with_reducible rfl))
          try simp only [Act.put, List.getElem_toArray, List.getElem_cons_succ, List.getElem_cons_zero, List.setIfInBounds_toArray, List.set_cons_zero, List.set_cons_succ]
          refine wpAnyH_take (i := 9) (v := ?vgc9) rfl (by kernel_rfl) (by kernel_rfl) (by kernel_rfl) (fun _ _ _ h => h) (Or.inl ⟨by rfl, ?hygc9⟩) hS ?restgc9
          case hygc9 => (intro w hSw; obtain ⟨hs4, hs5⟩ := hSw; obtain ⟨g0, g1, g2, g3, g4, g5, g6, g7, g8⟩ := cell_nine hs4; obtain ⟨k0, k1, k2, k3, k4, k5, k6, k7, k8⟩ := cell_nine hs5; clear hs4 hs5; first | (go_simp; done) | (go_simp; with_reducible rfl))
          try simp only [Act.put, List.getElem_toArray, List.getElem_cons_succ, List.getElem_cons_zero, List.setIfInBounds_toArray, List.set_cons_zero, List.set_cons_succ]
          refine wpAnyH_done (by kernel_rfl) ?_ _
          go_wp2_with fail
          go_roundg (la - (i + 1))
          case measure => omega
          case rel => exact ⟨i + 1, g5, g7, n + 1, cap5, cap7, _, _, by go_num, by omega, Nat.le_refl _, rfl, rfl, by omega, Lib.hid ⟨TT.out, RR.out, by rw [List.map_append, List.map_append, HEQ.out]; rfl⟩, BW⟩
      · have e : la = i := by omega
        subst e
        have t1 : ¬ (la : Int) < (la : Int) := by omega
        go_wp2
        refine bodyPost_ret (v := .tuple #[.slice (some ⟨gT, 0, none⟩) n cp, .slice (some ⟨gR, 0, none⟩) n cq, .bool true]) (by simp [results, Try.results9, go_sem]) rfl ?_
        exact ⟨gT, gR, n, cp, cq, l, lr, rfl, HT.out, hn, HB.out⟩
end Go.Proofs.Ytpghehckojdgeaa

/- What a Put leaves of a key. No function of the program is walked here. -/
set_option linter.unusedVariables false
set_option linter.unusedSimpArgs false
namespace Go.Proofs.Ytpghehckojdgeaa
open Go

theorem isKeyB_iff {k : ByteArray} {e : Ent} : isKeyB k e = true ↔ e.key = k := by unfold isKeyB; simp
theorem isKeyB_no {k : ByteArray} {e : Ent} : isKeyB k e = false ↔ e.key ≠ k := by unfold isKeyB; simp
theorem rem_all {T : Tab} {k : ByteArray} {e : Ent} (h : e ∈ (remT T k).L) : isKeyB k e = false := isKeyB_no.2 (mem_rem.1 h).2
theorem filter_none {l : List Ent} {p : Ent → Bool} (h : ∀ e ∈ l, p e = false) : l.filter p = [] := List.filter_eq_nil_iff.2 fun e he => by simp [h e he]
theorem get_put (T : Tab) (i : Nat) (hi : i < 8) (k v : ByteArray) : getL (putT T i hi k v).L k = [v] := by
  unfold getL putT insE
  rw [List.filter_append, List.filter_cons, filter_none (fun e he => rem_all ((List.takeWhile_prefix _).subset he)), filter_none (fun e he => rem_all ((List.dropWhile_suffix _).subset he)), if_pos (show isKeyB k ⟨k, v, i, T.seen i + 1, hi⟩ = true from isKeyB_iff.2 rfl)]
  rfl
theorem get_rem (T : Tab) (k : ByteArray) : getL (remT T k).L k = [] := by
  unfold getL
  rw [filter_none (fun e he => rem_all he)]; rfl
theorem rem_put (T : Tab) (i : Nat) (hi : i < 8) (k v : ByteArray) : (remT (putT T i hi k v) k).L = (remT T k).L := by
  show ((putT T i hi k v).L.filter fun e => !(decide (e.key = k))) = (remT T k).L
  have hall : ∀ l : List Ent, (∀ e ∈ l, e.key ≠ k) → (l.filter fun e => !(decide (e.key = k))) = l := fun l h => List.filter_eq_self.2 fun e he => by simp [h e he]
  unfold putT insE
  rw [List.filter_append, List.filter_cons, hall _ (fun e he => (mem_rem.1 ((List.takeWhile_prefix _).subset he)).2), hall _ (fun e he => (mem_rem.1 ((List.dropWhile_suffix _).subset he)).2)]
  simp only [decide_true, Bool.not_true, Bool.false_eq_true, if_false]
  exact List.takeWhile_append_dropWhile
theorem room_of_get {xs : List Ent} {k : ByteArray} (h : 0 < (getL xs k).length) : room xs k = true := by unfold room; simp [h]
theorem two_get' {T U M : Tab} {i j : Nat} {hi : i < 8} {hj : j < 8} {k v u : ByteArray} (hij : j < i) (hk : 1 ≤ k.size ∧ k.size ≤ 64) (hv : v.size ≤ 64) (hu : u.size ≤ 64) (hT : T = putT Tab.none i hi k v) (hU : U = putT Tab.none j hj k u) (hM : M = merT T U) : getL M.L k = [u, v] := by
  subst hT hU hM
  rw [mer_two_gt hi hj hij k v u hk hv hu]
  exact getL_two _ _ k rfl rfl
/-- a later write that saw both replaces them -/
theorem last_left {T U M Z : Tab} {m i : Nat} {hi : i < 8} {k x : ByteArray} (hT : T.Ok m) (hU : U.Ok m) (hk : 1 ≤ k.size ∧ k.size ≤ 64) (hx : x.size ≤ 64) (hM : M = merT T U) (hZ : Z = putT M i hi k x) : merT Z T = Z ∧ merT U Z = Z := by
  have hMo : M.Ok m := by rw [hM]; exact mer_ok hT hU (Nat.le_refl _) (Nat.le_refl _)
  have hZo : Z.Ok (m + 1) := by rw [hZ]; exact put_ok hMo hi hk hx
  have c1 : Cov Z M := by rw [hZ]; exact put_cov hMo hk hx
  have c2 : Cov M T := by rw [hM]; exact cov_left hT hU
  have c3 : Cov M U := by rw [hM]; exact cov_right hT hU
  have hT' := hT.more (Nat.le_succ m)
  have hU' := hU.more (Nat.le_succ m)
  have hM' := hMo.more (Nat.le_succ m)
  exact ⟨cov_trans hZo hM' hT' c1 c2, by rw [mer_comm hU' hZo]; exact cov_trans hZo hM' hU' c1 c3⟩
end Go.Proofs.Ytpghehckojdgeaa

/- The law's comparison of two lists of strings that are the same; of two lists of entries that are the same. -/
set_option linter.unusedVariables false
set_option linter.unusedSimpArgs false
namespace Go.Proofs.Ytpghehckojdgeaa
open Go.RowKit Go.Shelf Go.Sort

theorem Sl.at {w : World} {ao : Option Addr} {n : Nat} {ss : List ByteArray} (h : Sl w ao n ss) {i : Nat} (hi : i < n) : ∃ g, ao = some ⟨g, 0, none⟩ ∧ w.cell? ⟨g, i, none⟩ = some (.string ss[i]!) := by
  rcases h.2 with ⟨_, h0⟩ | ⟨g, hg, _, hc⟩
  · omega
  · exact ⟨g, hg, hc i hi⟩
set_option maxRecDepth 100000 in
set_option maxHeartbeats 4000000 in
theorem strings_same (a b : Option Addr) (n c c' : Nat) (ss : List ByteArray) (W : World) (h1 : Sl W a n ss) (h2 : Sl W b n ss) (hn : n ≤ 900000) :
    Calls Try.prog 11 #[.slice a n c, .slice b n c'] W fun e w' => e = .returned (.bool true) ∧ Below W.heap.size W w' := by
  have H1 := Lib.hid h1
  have H2 := Lib.hid h2
  have pn : (n : Int) ≤ 900000 := by omega
  clear h1 h2
  go_enter Try.func11, Try.ntmps11
  go_wp2
  go_loopg [5] n (fun gg s5 wr => ∃ j : Nat, s5 = .int .i64 (j : Int) ∧ j ≤ n ∧ n - j ≤ gg ∧ Hid (Below W.heap.size W wr))
  case atStart => exact ⟨0, rfl, Nat.zero_le _, by omega, Lib.hid (Below.refl _ _)⟩
  case round =>
    obtain ⟨j, rfl, hj, hgg, HB⟩ := hrel
    by_cases hlt : j < n
    · have hltz : (j : Int) < (n : Int) := by omega
      obtain ⟨g1, hg1, c1⟩ := (H1.out.keep HB.out).at hlt
      obtain ⟨g2, hg2, c2⟩ := (H2.out.keep HB.out).at hlt
      subst hg1 hg2
      generalize ss[j]! = z at c1 c2
      have q := str_eq (rfl : z = z)
      have j0 : (0 : Int) ≤ (j : Int) := by omega
      go_wp2_with fail
      go_quiet (fail)
      go_wp2
      go_roundg (n - (j + 1))
      case measure => omega
      case rel => exact ⟨j + 1, by go_num, by omega, Nat.le_refl _, Lib.hid (below_drewN HB.out _)⟩
    · obtain rfl : j = n := by omega
      have hltz : ¬ (j : Int) < (j : Int) := by omega
      go_wp2
      go_ret
      exact ⟨rfl, HB.out⟩
end Go.Proofs.Ytpghehckojdgeaa

/- SyncTables, walked. (By gen_rstables.py.) -/
set_option linter.unusedVariables false
set_option linter.unusedSimpArgs false
namespace Go.Proofs.Ytpghehckojdgeaa
open Go.RowKit Go.Shelf Go.Sort


set_option maxRecDepth 100000 in
set_option maxHeartbeats 4000000 in
theorem stab_bad1 (ao : Option Addr) (la ca : Nat) (xs : List ActD) (key : ByteArray) (W : World) (h : Acts W ao la xs) (hla : la ≤ 9223372036854775807) (hs : isShort xs la 60 = false) :
    Calls Try.prog 3 #[.slice ao la ca, .string key] W fun e w' => e = .returned (.bool true) ∧ Below W.heap.size W w' := by
  have HA := Lib.hid h
  have HL := Lib.hid hla
  have BW : Hid (Below W.heap.size W W) := Lib.hid (Below.refl _ _)
  clear h hla
  go_enter Try.func3, Try.ntmps3
  go_wp2_with (first | (go_at_call 7; refine (short_any ao la ca 60 xs _ HA.out HL.out (by omega)).mono ?_; rintro e w1 ⟨rfl, rfl⟩; rw [hs]) | (go_at_call 8; refine (awake_any _).mono ?_; rintro e w6 ⟨rfl, hb⟩; replace BW := Lib.hid (BW.out.trans (hb.mono BW.out.size)); clear hb))
  go_ret
  exact ⟨rfl, BW.out⟩

set_option maxRecDepth 100000 in
set_option maxHeartbeats 4000000 in
theorem stab_bad2 (ao : Option Addr) (la ca : Nat) (xs : List ActD) (key : ByteArray) (W : World) (h : Acts W ao la xs) (hla : la ≤ 9223372036854775807) (hs : isShort xs la 60 = true) (hk : 200 < key.size) :
    Calls Try.prog 3 #[.slice ao la ca, .string key] W fun e w' => e = .returned (.bool true) ∧ Below W.heap.size W w' := by
  have q1 : decide ((200 : Int) < (key.size : Int)) = true := by simp; omega
  have HA := Lib.hid h
  have HL := Lib.hid hla
  have BW : Hid (Below W.heap.size W W) := Lib.hid (Below.refl _ _)
  clear h hla
  go_enter Try.func3, Try.ntmps3
  go_wp2_with (first | (go_at_call 7; refine (short_any ao la ca 60 xs _ HA.out HL.out (by omega)).mono ?_; rintro e w1 ⟨rfl, rfl⟩; rw [hs]) | (go_at_call 8; refine (awake_any _).mono ?_; rintro e w6 ⟨rfl, hb⟩; replace BW := Lib.hid (BW.out.trans (hb.mono BW.out.size)); clear hb))
  go_ret
  exact ⟨rfl, BW.out⟩

set_option maxRecDepth 100000 in
set_option maxHeartbeats 16000000 in
theorem stab_good (ao : Option Addr) (la ca : Nat) (xs : List ActD) (key : ByteArray) (W : World) (h : Acts W ao la xs) (hl6 : la ≤ 60) (hs : isShort xs la 60 = true) (hk : key.size ≤ 200) :
    Calls Try.prog 3 #[.slice ao la ca, .string key] W fun e w' => e = .returned (.bool true) ∧ Below W.heap.size W w' := by
  have q1 : decide ((200 : Int) < (key.size : Int)) = false := by simp; omega
  have HA := Lib.hid h
  have hla : la ≤ 9223372036854775807 := by omega
  have HL := Lib.hid hla
  have hl9 : la ≤ 900 := by omega
  clear h hla hk
  go_enter Try.func3, Try.ntmps3
  go_wp2_with (first | (go_at_call 7; refine (short_any ao la ca 60 xs _ HA.out HL.out (by omega)).mono ?_; rintro e w1 ⟨rfl, rfl⟩; rw [hs]) | (go_at_call 9; refine (grown_any ao la ca xs _ HA.out hl9).mono ?_; rintro e w1 ⟨gT, gR, n, cp, cq, l, lr, rfl, ht, hn, hb⟩; have HT := Lib.hid ht; have HB0 := Lib.hid hb; clear ht hb))
  have pn : (n : Int) ≤ 61 := by omega
  clear q1 hs
  go_loopg [8] n (fun gg s8 wr => ∃ i : Nat, s8 = .int .i64 (i : Int) ∧ i ≤ n ∧ n - i ≤ gg ∧ Hid (Below w1.heap.size w1 wr))
  case atStart => exact ⟨0, rfl, Nat.zero_le _, by omega, Lib.hid (Below.refl _ _)⟩
  case round =>
    obtain ⟨i, rfl, hi, hgg, HBr⟩ := hrel
    have t0 : (0 : Int) ≤ (i : Int) := by omega
    by_cases hlt : i < n
    · have t1 : (i : Int) < (n : Int) := by omega
      have A1 := (HT.out.keep HBr.out).at hlt
      obtain ⟨ta, hta⟩ : ∃ ta, ta = l[i]! := ⟨_, rfl⟩
      obtain ⟨ra, hra⟩ : ∃ ra, ra = lr[i]! := ⟨_, rfl⟩
      rw [← hta, ← hra] at A1
      clear hta hra
      obtain ⟨s1, s2, s3, s4⟩ := A1
      have J1 := Lib.hid s2
      have J2 := Lib.hid s4
      obtain ⟨p0, p1, p2, p3, p4, p5, p6, p7, p8⟩ := s1
      obtain ⟨r0, r1, r2, r3, r4, r5, r6, r7, r8⟩ := s3
      have le1 : la ≤ 10000 := by omega
      have le2 : ta.n ≤ 900000 := by have := J1.out.len; omega
      have le3 : ra.n ≤ 900000 := by have := J2.out.len; omega
      have le4 : (getL ta.T.L key).length ≤ 900000 := by have h1 := getL_len ta.T.L key; have h2 := J1.out.el.1; omega
      clear s2 s4
      go_upto_region 9 with fail
      go_cut [57] (fun v wx => v = .bool false ∧ Hid (Below wr.heap.size wr wx))
      · refine wp_region_held_drew (S := fun w' => w'.cell? ⟨gT, i * 9, none⟩ = some (.int .i64 (ta.T.seen 0 : Int)) ∧ w'.cell? ⟨gT, i * 9 + 1, none⟩ = some (.int .i64 (ta.T.seen 1 : Int)) ∧ w'.cell? ⟨gT, i * 9 + 2, none⟩ = some (.int .i64 (ta.T.seen 2 : Int)) ∧ w'.cell? ⟨gT, i * 9 + 3, none⟩ = some (.int .i64 (ta.T.seen 3 : Int)) ∧ w'.cell? ⟨gT, i * 9 + 4, none⟩ = some (.int .i64 (ta.T.seen 4 : Int)) ∧ w'.cell? ⟨gT, i * 9 + 5, none⟩ = some (.int .i64 (ta.T.seen 5 : Int)) ∧ w'.cell? ⟨gT, i * 9 + 6, none⟩ = some (.int .i64 (ta.T.seen 6 : Int)) ∧ w'.cell? ⟨gT, i * 9 + 7, none⟩ = some (.int .i64 (ta.T.seen 7 : Int)) ∧ w'.cell? ⟨gT, i * 9 + 8, none⟩ = some (.slice ta.ao ta.n ta.c) ∧ w'.cell? ⟨gR, i * 9, none⟩ = some (.int .i64 (ta.T.seen 0 : Int)) ∧ w'.cell? ⟨gR, i * 9 + 1, none⟩ = some (.int .i64 (ta.T.seen 1 : Int)) ∧ w'.cell? ⟨gR, i * 9 + 2, none⟩ = some (.int .i64 (ta.T.seen 2 : Int)) ∧ w'.cell? ⟨gR, i * 9 + 3, none⟩ = some (.int .i64 (ta.T.seen 3 : Int)) ∧ w'.cell? ⟨gR, i * 9 + 4, none⟩ = some (.int .i64 (ta.T.seen 4 : Int)) ∧ w'.cell? ⟨gR, i * 9 + 5, none⟩ = some (.int .i64 (ta.T.seen 5 : Int)) ∧ w'.cell? ⟨gR, i * 9 + 6, none⟩ = some (.int .i64 (ta.T.seen 6 : Int)) ∧ w'.cell? ⟨gR, i * 9 + 7, none⟩ = some (.int .i64 (ta.T.seen 7 : Int)) ∧ w'.cell? ⟨gR, i * 9 + 8, none⟩ = some (.slice ra.ao ra.n ra.c)) (by kernel_rfl) ⟨p0, p1, p2, p3, p4, p5, p6, p7, p8, r0, r1, r2, r3, r4, r5, r6, r7, r8⟩ (fun hS => ?_)
        clear p0 p1 p2 p3 p4 p5 p6 p7 p8 r0 r1 r2 r3 r4 r5 r6 r7 r8
        refine wpAnyH_take (i := 0) (v := ?vs0) rfl (by kernel_rfl) (by kernel_rfl) (by kernel_rfl) (fun _ _ _ h => h) (Or.inl ⟨by rfl, ?hys0⟩) hS ?rests0
        case hys0 => (intro w hSw; (try dsimp only at hSw); (first | (go_simp; done) | (go_simp; with_reducible rfl)))
        try simp only [Act.put, List.getElem_toArray, List.getElem_cons_succ, List.getElem_cons_zero, List.setIfInBounds_toArray, List.set_cons_zero, List.set_cons_succ]
        refine wpAnyH_take (i := 1) (v := ?vs1) rfl (by kernel_rfl) (by kernel_rfl) (by kernel_rfl) (fun _ _ _ h => h) (Or.inl ⟨by rfl, ?hys1⟩) hS ?rests1
        case hys1 => (intro w hSw; (try dsimp only at hSw); (first | (go_simp; done) | (go_simp; with_reducible rfl)))
        try simp only [Act.put, List.getElem_toArray, List.getElem_cons_succ, List.getElem_cons_zero, List.setIfInBounds_toArray, List.set_cons_zero, List.set_cons_succ]
        refine wpAnyH_take (i := 2) (v := ?vs2) rfl (by kernel_rfl) (by kernel_rfl) (by kernel_rfl) (fun _ _ _ h => h) (Or.inl ⟨by rfl, ?hys2⟩) hS ?rests2
        case hys2 => (intro w hSw; (try dsimp only at hSw); (first | (go_simp; done) | (go_simp; with_reducible rfl)))
        try simp only [Act.put, List.getElem_toArray, List.getElem_cons_succ, List.getElem_cons_zero, List.setIfInBounds_toArray, List.set_cons_zero, List.set_cons_succ]
        refine wpAnyH_take (i := 3) (v := ?vs3) rfl (by kernel_rfl) (by kernel_rfl) (by kernel_rfl) (fun _ _ _ h => h) (Or.inl ⟨by rfl, ?hys3⟩) hS ?rests3
        case hys3 => (intro w hSw; (try dsimp only at hSw); (first | (go_simp; done) | (go_simp; with_reducible rfl)))
        try simp only [Act.put, List.getElem_toArray, List.getElem_cons_succ, List.getElem_cons_zero, List.setIfInBounds_toArray, List.set_cons_zero, List.set_cons_succ]
        refine wpAnyH_take (i := 4) (v := ?vs4) rfl (by kernel_rfl) (by kernel_rfl) (by kernel_rfl) (fun _ _ _ h => h) (Or.inl ⟨by rfl, ?hys4⟩) hS ?rests4
        case hys4 => (intro w hSw; (try dsimp only at hSw); (first | (go_simp; done) | (go_simp; with_reducible rfl)))
        try simp only [Act.put, List.getElem_toArray, List.getElem_cons_succ, List.getElem_cons_zero, List.setIfInBounds_toArray, List.set_cons_zero, List.set_cons_succ]
        refine wpAnyH_take (i := 5) (v := ?vs5) rfl (by kernel_rfl) (by kernel_rfl) (by kernel_rfl) (fun _ _ _ h => h) (Or.inl ⟨by rfl, ?hys5⟩) hS ?rests5
        case hys5 => (intro w hSw; (try dsimp only at hSw); (first | (go_simp; done) | (go_simp; with_reducible rfl)))
        try simp only [Act.put, List.getElem_toArray, List.getElem_cons_succ, List.getElem_cons_zero, List.setIfInBounds_toArray, List.set_cons_zero, List.set_cons_succ]
        refine wpAnyH_take (i := 6) (v := ?vs6) rfl (by kernel_rfl) (by kernel_rfl) (by kernel_rfl) (fun _ _ _ h => h) (Or.inl ⟨by rfl, ?hys6⟩) hS ?rests6
        case hys6 => (intro w hSw; (try dsimp only at hSw); (first | (go_simp; done) | (go_simp; with_reducible rfl)))
        try simp only [Act.put, List.getElem_toArray, List.getElem_cons_succ, List.getElem_cons_zero, List.setIfInBounds_toArray, List.set_cons_zero, List.set_cons_succ]
        refine wpAnyH_take (i := 7) (v := ?vs7) rfl (by kernel_rfl) (by kernel_rfl) (by kernel_rfl) (fun _ _ _ h => h) (Or.inl ⟨by rfl, ?hys7⟩) hS ?rests7
        case hys7 => (intro w hSw; (try dsimp only at hSw); (first | (go_simp; done) | (go_simp; with_reducible rfl)))
        try simp only [Act.put, List.getElem_toArray, List.getElem_cons_succ, List.getElem_cons_zero, List.setIfInBounds_toArray, List.set_cons_zero, List.set_cons_succ]
        refine wpAnyH_ready (rs := [8]) (by kernel_rfl) (by simp) ?_
        refine AllReadyH.cons rfl (fun K hK => ?_) AllReadyH.nil
        try go_simp
        go_at_call 10
        refine (sameA ta.c ra.c (J1.out.keep (drew_below wr)) (J2.out.keep (drew_below wr)) le1).mono ?_
        rintro e w1 ⟨rfl, hb⟩
        obtain ⟨z0, z1, z2, z3, z4, z5, z6, z7, z8, z9, z10, z11, z12, z13, z14, z15, z16, z17⟩ := hS
        have B1 := Lib.hid ((drew_below wr).trans hb)
        have x0 := cell_later hb z0
        have x1 := cell_later hb z1
        have x2 := cell_later hb z2
        have x3 := cell_later hb z3
        have x4 := cell_later hb z4
        have x5 := cell_later hb z5
        have x6 := cell_later hb z6
        have x7 := cell_later hb z7
        have x8 := cell_later hb z8
        have x9 := cell_later hb z9
        have x10 := cell_later hb z10
        have x11 := cell_later hb z11
        have x12 := cell_later hb z12
        have x13 := cell_later hb z13
        have x14 := cell_later hb z14
        have x15 := cell_later hb z15
        have x16 := cell_later hb z16
        have x17 := cell_later hb z17
        clear hb z0 z1 z2 z3 z4 z5 z6 z7 z8 z9 z10 z11 z12 z13 z14 z15 z16 z17
        refine hK.out _ _ ⟨x0, x1, x2, x3, x4, x5, x6, x7, x8, x9, x10, x11, x12, x13, x14, x15, x16, x17⟩ (fun hS => ?_)
        clear hK K
        try simp only [Act.put, List.getElem_toArray, List.getElem_cons_succ, List.getElem_cons_zero, List.setIfInBounds_toArray, List.set_cons_zero, List.set_cons_succ]
        clear x0 x1 x2 x3 x4 x5 x6 x7 x8 x9 x10 x11 x12 x13 x14 x15 x16 x17
        refine wpAnyH_take (i := 9) (v := ?vs9) rfl (by kernel_rfl) (by kernel_rfl) (by kernel_rfl) (fun _ _ _ h => h) (Or.inl ⟨by rfl, ?hys9⟩) hS ?rests9
        case hys9 => (intro w hSw; (try dsimp only at hSw); (first | (go_simp; done) | (go_simp; with_reducible rfl)))
        try simp only [Act.put, List.getElem_toArray, List.getElem_cons_succ, List.getElem_cons_zero, List.setIfInBounds_toArray, List.set_cons_zero, List.set_cons_succ]
        refine wpAnyH_take (i := 10) (v := ?vs10) rfl (by kernel_rfl) (by kernel_rfl) (by kernel_rfl) (fun _ _ _ h => h) (Or.inl ⟨by rfl, ?hys10⟩) hS ?rests10
        case hys10 => (intro w hSw; (try dsimp only at hSw); (first | (go_simp; done) | (go_simp; with_reducible rfl)))
        try simp only [Act.put, List.getElem_toArray, List.getElem_cons_succ, List.getElem_cons_zero, List.setIfInBounds_toArray, List.set_cons_zero, List.set_cons_succ]
        refine wpAnyH_take (i := 11) (v := ?vs11) rfl (by kernel_rfl) (by kernel_rfl) (by kernel_rfl) (fun _ _ _ h => h) (Or.inl ⟨by rfl, ?hys11⟩) hS ?rests11
        case hys11 => (intro w hSw; (try dsimp only at hSw); (first | (go_simp; done) | (go_simp; with_reducible rfl)))
        try simp only [Act.put, List.getElem_toArray, List.getElem_cons_succ, List.getElem_cons_zero, List.setIfInBounds_toArray, List.set_cons_zero, List.set_cons_succ]
        refine wpAnyH_take (i := 12) (v := ?vs12) rfl (by kernel_rfl) (by kernel_rfl) (by kernel_rfl) (fun _ _ _ h => h) (Or.inl ⟨by rfl, ?hys12⟩) hS ?rests12
        case hys12 => (intro w hSw; (try dsimp only at hSw); (first | (go_simp; done) | (go_simp; with_reducible rfl)))
        try simp only [Act.put, List.getElem_toArray, List.getElem_cons_succ, List.getElem_cons_zero, List.setIfInBounds_toArray, List.set_cons_zero, List.set_cons_succ]
        refine wpAnyH_take (i := 13) (v := ?vs13) rfl (by kernel_rfl) (by kernel_rfl) (by kernel_rfl) (fun _ _ _ h => h) (Or.inl ⟨by rfl, ?hys13⟩) hS ?rests13
        case hys13 => (intro w hSw; (try dsimp only at hSw); (first | (go_simp; done) | (go_simp; with_reducible rfl)))
        try simp only [Act.put, List.getElem_toArray, List.getElem_cons_succ, List.getElem_cons_zero, List.setIfInBounds_toArray, List.set_cons_zero, List.set_cons_succ]
        refine wpAnyH_take (i := 14) (v := ?vs14) rfl (by kernel_rfl) (by kernel_rfl) (by kernel_rfl) (fun _ _ _ h => h) (Or.inl ⟨by rfl, ?hys14⟩) hS ?rests14
        case hys14 => (intro w hSw; (try dsimp only at hSw); (first | (go_simp; done) | (go_simp; with_reducible rfl)))
        try simp only [Act.put, List.getElem_toArray, List.getElem_cons_succ, List.getElem_cons_zero, List.setIfInBounds_toArray, List.set_cons_zero, List.set_cons_succ]
        refine wpAnyH_take (i := 15) (v := ?vs15) rfl (by kernel_rfl) (by kernel_rfl) (by kernel_rfl) (fun _ _ _ h => h) (Or.inl ⟨by rfl, ?hys15⟩) hS ?rests15
        case hys15 => (intro w hSw; (try dsimp only at hSw); (first | (go_simp; done) | (go_simp; with_reducible rfl)))
        try simp only [Act.put, List.getElem_toArray, List.getElem_cons_succ, List.getElem_cons_zero, List.setIfInBounds_toArray, List.set_cons_zero, List.set_cons_succ]
        refine wpAnyH_take (i := 17) (v := ?vs17) rfl (by kernel_rfl) (by kernel_rfl) (by kernel_rfl) (fun _ _ _ h => h) (Or.inl ⟨by rfl, ?hys17⟩) hS ?rests17
        case hys17 => (intro w hSw; (try dsimp only at hSw); (first | (go_simp; done) | (go_simp; with_reducible rfl)))
        try simp only [Act.put, List.getElem_toArray, List.getElem_cons_succ, List.getElem_cons_zero, List.setIfInBounds_toArray, List.set_cons_zero, List.set_cons_succ]
        refine wpAnyH_take (i := 18) (v := ?vs18) rfl (by kernel_rfl) (by kernel_rfl) (by kernel_rfl) (fun _ _ _ h => h) (Or.inl ⟨by rfl, ?hys18⟩) hS ?rests18
        case hys18 => (intro w hSw; (try dsimp only at hSw); (first | (go_simp; done) | (go_simp; with_reducible rfl)))
        try simp only [Act.put, List.getElem_toArray, List.getElem_cons_succ, List.getElem_cons_zero, List.setIfInBounds_toArray, List.set_cons_zero, List.set_cons_succ]
        refine wpAnyH_take (i := 19) (v := ?vs19) rfl (by kernel_rfl) (by kernel_rfl) (by kernel_rfl) (fun _ _ _ h => h) (Or.inl ⟨by rfl, ?hys19⟩) hS ?rests19
        case hys19 => (intro w hSw; (try dsimp only at hSw); (first | (go_simp; done) | (go_simp; with_reducible rfl)))
        try simp only [Act.put, List.getElem_toArray, List.getElem_cons_succ, List.getElem_cons_zero, List.setIfInBounds_toArray, List.set_cons_zero, List.set_cons_succ]
        refine wpAnyH_take (i := 20) (v := ?vs20) rfl (by kernel_rfl) (by kernel_rfl) (by kernel_rfl) (fun _ _ _ h => h) (Or.inl ⟨by rfl, ?hys20⟩) hS ?rests20
        case hys20 => (intro w hSw; (try dsimp only at hSw); (first | (go_simp; done) | (go_simp; with_reducible rfl)))
        try simp only [Act.put, List.getElem_toArray, List.getElem_cons_succ, List.getElem_cons_zero, List.setIfInBounds_toArray, List.set_cons_zero, List.set_cons_succ]
        refine wpAnyH_take (i := 21) (v := ?vs21) rfl (by kernel_rfl) (by kernel_rfl) (by kernel_rfl) (fun _ _ _ h => h) (Or.inl ⟨by rfl, ?hys21⟩) hS ?rests21
        case hys21 => (intro w hSw; (try dsimp only at hSw); (first | (go_simp; done) | (go_simp; with_reducible rfl)))
        try simp only [Act.put, List.getElem_toArray, List.getElem_cons_succ, List.getElem_cons_zero, List.setIfInBounds_toArray, List.set_cons_zero, List.set_cons_succ]
        refine wpAnyH_ready (rs := [16]) (by kernel_rfl) (by simp) ?_
        refine AllReadyH.cons rfl (fun K hK => ?_) AllReadyH.nil
        try go_simp
        go_at_call 12
        refine (get_any ta.T.seen ta.ao ta.n ta.c ta.T.L key _ (J1.out.keep B1.out).el le2).mono ?_
        rintro e w1 ⟨a1, k1, rfl, hs1, hb⟩
        obtain ⟨z0, z1, z2, z3, z4, z5, z6, z7, z8, z9, z10, z11, z12, z13, z14, z15, z16, z17⟩ := hS
        replace B1 := Lib.hid (below_then B1.out hb)
        have x0 := cell_later hb z0
        have x1 := cell_later hb z1
        have x2 := cell_later hb z2
        have x3 := cell_later hb z3
        have x4 := cell_later hb z4
        have x5 := cell_later hb z5
        have x6 := cell_later hb z6
        have x7 := cell_later hb z7
        have x8 := cell_later hb z8
        have x9 := cell_later hb z9
        have x10 := cell_later hb z10
        have x11 := cell_later hb z11
        have x12 := cell_later hb z12
        have x13 := cell_later hb z13
        have x14 := cell_later hb z14
        have x15 := cell_later hb z15
        have x16 := cell_later hb z16
        have x17 := cell_later hb z17
        have SL1 := Lib.hid hs1
        clear hs1
        clear hb z0 z1 z2 z3 z4 z5 z6 z7 z8 z9 z10 z11 z12 z13 z14 z15 z16 z17
        refine hK.out _ _ ⟨x0, x1, x2, x3, x4, x5, x6, x7, x8, x9, x10, x11, x12, x13, x14, x15, x16, x17⟩ (fun hS => ?_)
        clear hK K
        try simp only [Act.put, List.getElem_toArray, List.getElem_cons_succ, List.getElem_cons_zero, List.setIfInBounds_toArray, List.set_cons_zero, List.set_cons_succ]
        clear x0 x1 x2 x3 x4 x5 x6 x7 x8 x9 x10 x11 x12 x13 x14 x15 x16 x17
        refine wpAnyH_ready (rs := [22]) (by kernel_rfl) (by simp) ?_
        refine AllReadyH.cons rfl (fun K hK => ?_) AllReadyH.nil
        try go_simp
        go_at_call 13
        refine (refget_any ta.T.seen ra.ao ra.n ra.c ta.T.L key _ (J2.out.keep B1.out).el le3).mono ?_
        rintro e w1 ⟨a2, k2, rfl, hs2, hb⟩
        obtain ⟨z0, z1, z2, z3, z4, z5, z6, z7, z8, z9, z10, z11, z12, z13, z14, z15, z16, z17⟩ := hS
        replace B1 := Lib.hid (below_then B1.out hb)
        have x0 := cell_later hb z0
        have x1 := cell_later hb z1
        have x2 := cell_later hb z2
        have x3 := cell_later hb z3
        have x4 := cell_later hb z4
        have x5 := cell_later hb z5
        have x6 := cell_later hb z6
        have x7 := cell_later hb z7
        have x8 := cell_later hb z8
        have x9 := cell_later hb z9
        have x10 := cell_later hb z10
        have x11 := cell_later hb z11
        have x12 := cell_later hb z12
        have x13 := cell_later hb z13
        have x14 := cell_later hb z14
        have x15 := cell_later hb z15
        have x16 := cell_later hb z16
        have x17 := cell_later hb z17
        replace SL1 := Lib.hid (SL1.out.keep hb)
        have SL2 := Lib.hid hs2
        clear hs2
        clear hb z0 z1 z2 z3 z4 z5 z6 z7 z8 z9 z10 z11 z12 z13 z14 z15 z16 z17
        refine hK.out _ _ ⟨x0, x1, x2, x3, x4, x5, x6, x7, x8, x9, x10, x11, x12, x13, x14, x15, x16, x17⟩ (fun hS => ?_)
        clear hK K
        try simp only [Act.put, List.getElem_toArray, List.getElem_cons_succ, List.getElem_cons_zero, List.setIfInBounds_toArray, List.set_cons_zero, List.set_cons_succ]
        clear x0 x1 x2 x3 x4 x5 x6 x7 x8 x9 x10 x11 x12 x13 x14 x15 x16 x17
        refine wpAnyH_ready (rs := [23]) (by kernel_rfl) (by simp) ?_
        refine AllReadyH.cons rfl (fun K hK => ?_) AllReadyH.nil
        try go_simp
        go_at_call 11
        refine (strings_same a1 a2 _ k1 k2 _ _ SL1.out SL2.out le4).mono ?_
        rintro e w1 ⟨rfl, hb⟩
        obtain ⟨z0, z1, z2, z3, z4, z5, z6, z7, z8, z9, z10, z11, z12, z13, z14, z15, z16, z17⟩ := hS
        replace B1 := Lib.hid (below_then B1.out hb)
        have x0 := cell_later hb z0
        have x1 := cell_later hb z1
        have x2 := cell_later hb z2
        have x3 := cell_later hb z3
        have x4 := cell_later hb z4
        have x5 := cell_later hb z5
        have x6 := cell_later hb z6
        have x7 := cell_later hb z7
        have x8 := cell_later hb z8
        have x9 := cell_later hb z9
        have x10 := cell_later hb z10
        have x11 := cell_later hb z11
        have x12 := cell_later hb z12
        have x13 := cell_later hb z13
        have x14 := cell_later hb z14
        have x15 := cell_later hb z15
        have x16 := cell_later hb z16
        have x17 := cell_later hb z17
        clear SL1 SL2
        clear hb z0 z1 z2 z3 z4 z5 z6 z7 z8 z9 z10 z11 z12 z13 z14 z15 z16 z17
        refine hK.out _ _ ⟨x0, x1, x2, x3, x4, x5, x6, x7, x8, x9, x10, x11, x12, x13, x14, x15, x16, x17⟩ (fun hS => ?_)
        clear hK K
        try simp only [Act.put, List.getElem_toArray, List.getElem_cons_succ, List.getElem_cons_zero, List.setIfInBounds_toArray, List.set_cons_zero, List.set_cons_succ]
        clear x0 x1 x2 x3 x4 x5 x6 x7 x8 x9 x10 x11 x12 x13 x14 x15 x16 x17
        refine wpAnyH_take (i := 24) (v := ?vs24) rfl (by kernel_rfl) (by kernel_rfl) (by kernel_rfl) (fun _ _ _ h => h) (Or.inl ⟨by rfl, ?hys24⟩) hS ?rests24
        case hys24 => (intro w hSw; (try dsimp only at hSw); (first | (go_simp; done) | (go_simp; with_reducible rfl)))
        try simp only [Act.put, List.getElem_toArray, List.getElem_cons_succ, List.getElem_cons_zero, List.setIfInBounds_toArray, List.set_cons_zero, List.set_cons_succ]
        refine wpAnyH_take (i := 25) (v := ?vs25) rfl (by kernel_rfl) (by kernel_rfl) (by kernel_rfl) (fun _ _ _ h => h) (Or.inl ⟨by rfl, ?hys25⟩) hS ?rests25
        case hys25 => (intro w hSw; (try dsimp only at hSw); (first | (go_simp; done) | (go_simp; with_reducible rfl)))
        try simp only [Act.put, List.getElem_toArray, List.getElem_cons_succ, List.getElem_cons_zero, List.setIfInBounds_toArray, List.set_cons_zero, List.set_cons_succ]
        refine wpAnyH_done (by kernel_rfl) ?_ _
        all_goals go_wp2_with fail
        all_goals go_meet
        all_goals exact ⟨rfl, B1⟩
      · obtain ⟨rfl, BC⟩ := hcut
        clear p0 p1 p2 p3 p4 p5 p6 p7 p8 r0 r1 r2 r3 r4 r5 r6 r7 r8
        go_wp2
        go_roundg (n - (i + 1))
        case measure => omega
        case rel => exact ⟨i + 1, by go_num, by omega, Nat.le_refl _, Lib.hid (HBr.out.trans (BC.out.mono HBr.out.size))⟩
    · have e : n = i := by omega
      subst e
      have t1 : ¬ (n : Int) < (n : Int) := by omega
      have BW := Lib.hid (HB0.out.trans (HBr.out.mono HB0.out.size))
      go_wp2_with (go_at_call 8; refine (awake_any _).mono ?_; rintro e w6 ⟨rfl, hb⟩; replace BW := Lib.hid (BW.out.trans (hb.mono BW.out.size)); clear hb)
      go_ret
      exact ⟨rfl, BW.out⟩
theorem stab_walk (ao : Option Addr) (la ca : Nat) (xs : List ActD) (key : ByteArray) (W : World) (h : Acts W ao la xs) (hla : la ≤ 9223372036854775807) :
    Calls Try.prog 3 #[.slice ao la ca, .string key] W fun e w' => e = .returned (.bool true) ∧ Below W.heap.size W w' := by
  cases hs : isShort xs la 60 with
  | false => exact stab_bad1 ao la ca xs key W h hla hs
  | true =>
    have hl : la ≤ 60 := by
      unfold isShort at hs
      rw [Bool.and_eq_true] at hs
      exact of_decide_eq_true hs.2
    by_cases hk : key.size ≤ 200
    · exact stab_good ao la ca xs key W h hl hs hk
    · exact stab_bad2 ao la ca xs key W h hla hs (by omega)
end Go.Proofs.Ytpghehckojdgeaa
