/- Part 8 of the contracts: DCommW. -/
import Derived.Test.YthjmiimkplhffaaPart7

/- DigestCommutes, where both digests are built. (By gen_comm.py.) -/
set_option linter.unusedVariables false
set_option linter.unusedSimpArgs false
namespace Go.Proofs.Ythjmiimkplhffaa
open Go.RowKit Go.Maps

set_option maxRecDepth 100000 in
set_option maxHeartbeats 8000000 in
theorem comm_main (L : Nat) (F : Int) (ao bo : Option Addr) (la ca lb cb : Nat) (xs ys : List (Int × Int)) (W : World) (hR : Right L F) (hs : Al W ao la xs) (ht : Al W bo lb ys) (h1 : la ≤ 60) (h2 : lb ≤ 60) :
    Calls Try.prog 10 #[.int .i64 (L : Int), .int .i64 F, .slice ao la ca, .slice bo lb cb] W (fun e w' => e = .returned (.bool true) ∧ Below W.heap.size W w') := by
  have HS := Lib.hid hs
  have HT := Lib.hid ht
  have g1 : ¬ (60 : Int) < (la : Int) := by omega
  have g2 : ¬ (60 : Int) < (lb : Int) := by omega
  clear hs ht
  go_enter Try.func10, Try.ntmps10
  go_wp2_with (go_at_call 17; refine (right_yes _ _ _ hR).mono ?_; rintro e w0 ⟨rfl, hw0⟩; subst hw0)
  refine (built_any L F ao la ca xs _ hR HS.out (by omega)).mono ?_
  rintro e w1 ⟨ta, c, dn, va, rfl, hd, _, _, hb1⟩
  have HB := Lib.hid hb1
  have DA := Lib.hid hd
  replace HT := Lib.hid (HT.out.keep hb1)
  clear hd hb1
  go_upto_region 4 with fail
  have K := box_below w1 (.cells #[.int .i64 (L : Int), .int .i64 F, .pointer (some ⟨ta, 0, none⟩)] 28)
  have RA := Lib.hid (cells_new w1 #[.int .i64 (L : Int), .int .i64 F, .pointer (some ⟨ta, 0, none⟩)] 28)
  replace HB := Lib.hid (HB.out.trans (K.mono HB.out.size))
  replace DA := Lib.hid (DA.out.keep K)
  replace HT := Lib.hid (HT.out.keep K)
  clear K
  generalize w1.alloc (.cells #[.int .i64 (L : Int), .int .i64 F, .pointer (some ⟨ta, 0, none⟩)] 28) = V1 at HB DA HT RA ⊢
  generalize w1.heap.size = A at RA ⊢
  go_wp2_with fail
  refine (built_any L F bo lb cb ys _ hR HT.out (by omega)).mono ?_
  rintro e w2 ⟨tb, k, em, vb, rfl, hd, _, _, hb1⟩
  have DB := Lib.hid hd
  replace HB := Lib.hid (HB.out.trans (hb1.mono HB.out.size))
  replace RA := Lib.hid (row_keep hb1 RA.out)
  replace DA := Lib.hid (DA.out.keep hb1)
  clear hd hb1 HT HS
  go_upto_region 5 with fail
  have K := box_below w2 (.cells #[.int .i64 (L : Int), .int .i64 F, .pointer (some ⟨tb, 0, none⟩)] 28)
  have RB := Lib.hid (cells_new w2 #[.int .i64 (L : Int), .int .i64 F, .pointer (some ⟨tb, 0, none⟩)] 28)
  replace HB := Lib.hid (HB.out.trans (K.mono HB.out.size))
  replace RA := Lib.hid (row_keep K RA.out)
  replace DA := Lib.hid (DA.out.keep K)
  replace DB := Lib.hid (DB.out.keep K)
  clear K
  generalize w2.alloc (.cells #[.int .i64 (L : Int), .int .i64 F, .pointer (some ⟨tb, 0, none⟩)] 28) = V2 at HB RA DA DB RB ⊢
  generalize w2.heap.size = B at RB ⊢
  by_cases hf : 1099511627776 - tot L k < tot L c
  · skip
    have hf2 : 1099511627776 - tot L c < tot L k := by omega
    have a0 := (three_cells RA.out).1
    have a1 := (three_cells RA.out).2.1
    have a2 := (three_cells RA.out).2.2.1
    have b0 := (three_cells RB.out).1
    have b1 := (three_cells RB.out).2.1
    have b2 := (three_cells RB.out).2.2.1
    go_wp2_with fail
    refine (merge_full ta tb L F c k _ DA.out DB.out hf).mono ?_
    rintro e w3 ⟨rfl, hb1⟩
    unfold zeroD
    clear a0 a1 a2 b0 b1 b2
    replace HB := Lib.hid (HB.out.trans (hb1.mono HB.out.size))
    replace RA := Lib.hid (row_keep hb1 RA.out)
    replace RB := Lib.hid (row_keep hb1 RB.out)
    replace DA := Lib.hid (DA.out.keep hb1)
    replace DB := Lib.hid (DB.out.keep hb1)
    clear hb1
    go_upto_region 6 with fail
    have K := box_below w3 (.cells #[.int .i64 0, .int .i64 0, .pointer none] 28)
    have RC := Lib.hid (cells_new w3 #[.int .i64 0, .int .i64 0, .pointer none] 28)
    replace HB := Lib.hid (HB.out.trans (K.mono HB.out.size))
    replace RA := Lib.hid (row_keep K RA.out)
    replace RB := Lib.hid (row_keep K RB.out)
    replace DA := Lib.hid (DA.out.keep K)
    replace DB := Lib.hid (DB.out.keep K)
    clear K
    generalize w3.alloc (.cells #[.int .i64 0, .int .i64 0, .pointer none] 28) = V3 at HB RA RB DA DB RC ⊢
    generalize w3.heap.size = C at RC ⊢
    have a0 := (three_cells RA.out).1
    have a1 := (three_cells RA.out).2.1
    have a2 := (three_cells RA.out).2.2.1
    have b0 := (three_cells RB.out).1
    have b1 := (three_cells RB.out).2.1
    have b2 := (three_cells RB.out).2.2.1
    go_wp2_with fail
    refine (merge_full tb ta L F k c _ DB.out DA.out hf2).mono ?_
    rintro e w4 ⟨rfl, hb1⟩
    unfold zeroD
    clear a0 a1 a2 b0 b1 b2
    replace HB := Lib.hid (HB.out.trans (hb1.mono HB.out.size))
    replace RC := Lib.hid (row_keep hb1 RC.out)
    clear hb1 DA DB RA RB
    go_upto_region 7 with fail
    have K := box_below w4 (.cells #[.int .i64 0, .int .i64 0, .pointer none] 28)
    have RE := Lib.hid (cells_new w4 #[.int .i64 0, .int .i64 0, .pointer none] 28)
    replace HB := Lib.hid (HB.out.trans (K.mono HB.out.size))
    replace RC := Lib.hid (row_keep K RC.out)
    clear K
    generalize w4.alloc (.cells #[.int .i64 0, .int .i64 0, .pointer none] 28) = V4 at HB RC RE ⊢
    generalize w4.heap.size = E at RE ⊢
    have m0 := (three_cells RC.out).1
    have m1 := (three_cells RC.out).2.1
    have m2 := (three_cells RC.out).2.2.1
    have m3 := (three_cells RE.out).1
    have m4 := (three_cells RE.out).2.1
    have m5 := (three_cells RE.out).2.2.1
    go_wp2_with fail
    go_region_held3 (fun w' => w'.cell? ⟨C, 0, none⟩ = some (.int .i64 0) ∧ w'.cell? ⟨C, 1, none⟩ = some (.int .i64 0) ∧ w'.cell? ⟨C, 2, none⟩ = some (.pointer none) ∧ w'.cell? ⟨E, 0, none⟩ = some (.int .i64 0) ∧ w'.cell? ⟨E, 1, none⟩ = some (.int .i64 0) ∧ w'.cell? ⟨E, 2, none⟩ = some (.pointer none)) (go_keep)
      (first | (go_at_call 29; have _t := n0; refine (nodes_no _).mono ?_; rintro e w6 ⟨rfl, hb6⟩; have B6 := Lib.hid (below_then B5.out hb6); have o0 := cell_later hb6 n0; have o1 := cell_later hb6 n1; have o2 := cell_later hb6 n2; have o3 := cell_later hb6 n3; have o4 := cell_later hb6 n4; have o5 := cell_later hb6 n5; clear hb6) | (go_at_call 29; refine (nodes_no _).mono ?_; rintro e w5 ⟨rfl, hb5⟩; have B5 := Lib.hid (below_then (below_drewN (Below.refl V4.heap.size V4) 1) hb5); have n0 := cell_later B5.out m0; have n1 := cell_later B5.out m1; have n2 := cell_later B5.out m2; have n3 := cell_later B5.out m3; have n4 := cell_later B5.out m4; have n5 := cell_later B5.out m5; clear hb5))
    clear _t n0 n1 n2 n3 n4 n5 m0 m1 m2 m3 m4 m5
    go_wp2
    refine wp_loop_rounds 1 ?_
    rw [rounds_succ]
    go_wp2_with fail
    go_region_held3 (fun w' => w'.cell? ⟨C, 0, none⟩ = some (.int .i64 0) ∧ w'.cell? ⟨C, 1, none⟩ = some (.int .i64 0) ∧ w'.cell? ⟨C, 2, none⟩ = some (.pointer none) ∧ w'.cell? ⟨E, 0, none⟩ = some (.int .i64 0) ∧ w'.cell? ⟨E, 1, none⟩ = some (.int .i64 0) ∧ w'.cell? ⟨E, 2, none⟩ = some (.pointer none)) (go_keep)
      (first | (go_at_call 12; refine (awake_any _).mono ?_; rintro e w9 ⟨rfl, hb9⟩; have B9 := Lib.hid (below_then B8.out hb9); have t0 := cell_later hb9 s0; have t1 := cell_later hb9 s1; have t2 := cell_later hb9 s2; have t3 := cell_later hb9 s3; have t4 := cell_later hb9 s4; have t5 := cell_later hb9 s5; clear hb9) | (go_at_call 28; have _t := r0; refine (count_no _).mono ?_; rintro e w8 ⟨rfl, hb8⟩; have B8 := Lib.hid (below_then B7.out hb8); have s0 := cell_later hb8 r0; have s1 := cell_later hb8 r1; have s2 := cell_later hb8 r2; have s3 := cell_later hb8 r3; have s4 := cell_later hb8 r4; have s5 := cell_later hb8 r5; clear hb8) | (go_at_call 28; refine (count_no _).mono ?_; rintro e w7 ⟨rfl, hb7⟩; have B7 := Lib.hid (below_then (below_drewN (Below.refl w6.heap.size w6) 1) hb7); have r0 := cell_later B7.out o0; have r1 := cell_later B7.out o1; have r2 := cell_later B7.out o2; have r3 := cell_later B7.out o3; have r4 := cell_later B7.out o4; have r5 := cell_later B7.out o5; clear hb7))
    go_wp2
    go_ret
    exact ⟨rfl, (HB.out.trans (B6.out.mono HB.out.size)).trans (B9.out.mono (HB.out.trans (B6.out.mono HB.out.size)).size)⟩

  · skip
    have hf1 : tot L c ≤ 1099511627776 - tot L k := by omega
    have hf2 : tot L k ≤ 1099511627776 - tot L c := by omega
    have a0 := (three_cells RA.out).1
    have a1 := (three_cells RA.out).2.1
    have a2 := (three_cells RA.out).2.2.1
    have b0 := (three_cells RB.out).1
    have b1 := (three_cells RB.out).2.1
    have b2 := (three_cells RB.out).2.2.1
    go_wp2_with fail
    refine (merge_ok ta tb L F c k _ DA.out DB.out hf1).mono ?_
    rintro e w3 ⟨T1, d, rfl, hc1, hd, _, hb1⟩
    have D1 := Lib.hid hd
    have HC1 := Lib.hid hc1
    clear a0 a1 a2 b0 b1 b2
    replace HB := Lib.hid (HB.out.trans (hb1.mono HB.out.size))
    replace RA := Lib.hid (row_keep hb1 RA.out)
    replace RB := Lib.hid (row_keep hb1 RB.out)
    replace DA := Lib.hid (DA.out.keep hb1)
    replace DB := Lib.hid (DB.out.keep hb1)
    clear hb1 hd hc1
    go_upto_region 6 with fail
    have K := box_below w3 (.cells #[.int .i64 (L : Int), .int .i64 F, .pointer (some ⟨T1, 0, none⟩)] 28)
    have RC := Lib.hid (cells_new w3 #[.int .i64 (L : Int), .int .i64 F, .pointer (some ⟨T1, 0, none⟩)] 28)
    replace HB := Lib.hid (HB.out.trans (K.mono HB.out.size))
    replace RA := Lib.hid (row_keep K RA.out)
    replace RB := Lib.hid (row_keep K RB.out)
    replace DA := Lib.hid (DA.out.keep K)
    replace DB := Lib.hid (DB.out.keep K)
    replace D1 := Lib.hid (D1.out.keep K)
    clear K
    generalize w3.alloc (.cells #[.int .i64 (L : Int), .int .i64 F, .pointer (some ⟨T1, 0, none⟩)] 28) = V3 at HB RA RB DA DB D1 RC ⊢
    generalize w3.heap.size = C at RC ⊢
    have a0 := (three_cells RA.out).1
    have a1 := (three_cells RA.out).2.1
    have a2 := (three_cells RA.out).2.2.1
    have b0 := (three_cells RB.out).1
    have b1 := (three_cells RB.out).2.1
    have b2 := (three_cells RB.out).2.2.1
    go_wp2_with fail
    refine (merge_ok tb ta L F k c _ DB.out DA.out hf2).mono ?_
    rintro e w4 ⟨T2, d2, rfl, hc2, hd, _, hb1⟩
    have D2 := Lib.hid hd
    have hdd := comp_comm HC1.out hc2
    clear a0 a1 a2 b0 b1 b2
    replace HB := Lib.hid (HB.out.trans (hb1.mono HB.out.size))
    replace RC := Lib.hid (row_keep hb1 RC.out)
    replace D1 := Lib.hid (D1.out.keep hb1)
    clear hb1 hd hc2 HC1 DA DB RA RB
    subst d2
    go_upto_region 7 with fail
    have K := box_below w4 (.cells #[.int .i64 (L : Int), .int .i64 F, .pointer (some ⟨T2, 0, none⟩)] 28)
    have RE := Lib.hid (cells_new w4 #[.int .i64 (L : Int), .int .i64 F, .pointer (some ⟨T2, 0, none⟩)] 28)
    replace HB := Lib.hid (HB.out.trans (K.mono HB.out.size))
    replace RC := Lib.hid (row_keep K RC.out)
    replace D1 := Lib.hid (D1.out.keep K)
    replace D2 := Lib.hid (D2.out.keep K)
    clear K
    generalize w4.alloc (.cells #[.int .i64 (L : Int), .int .i64 F, .pointer (some ⟨T2, 0, none⟩)] 28) = V4 at HB RC D1 D2 RE ⊢
    generalize w4.heap.size = E at RE ⊢
    have m0 := (three_cells RC.out).1
    have m1 := (three_cells RC.out).2.1
    have m2 := (three_cells RC.out).2.2.1
    have m3 := (three_cells RE.out).1
    have m4 := (three_cells RE.out).2.1
    have m5 := (three_cells RE.out).2.2.1
    have NOD : Hid (∀ p w', (p = T1 ∨ p = T2) → Below V4.heap.size V4 w' → Calls Try.prog 29 #[.agg #[.int .i64 (L : Int), .int .i64 F, .pointer (some ⟨p, 0, none⟩)]] w' (OutN w' (nodesL L d))) := Lib.hid (fun p w' hp hb => by
      rcases hp with rfl | rfl
      · exact nodesD_any p L F d w' (D1.out.keep hb)
      · exact nodesD_any p L F d w' (D2.out.keep hb))
    have CNT : Hid (∀ p w', (p = T1 ∨ p = T2) → Below V4.heap.size V4 w' → Calls Try.prog 28 #[.agg #[.int .i64 (L : Int), .int .i64 F, .pointer (some ⟨p, 0, none⟩)]] w' (fun e w'' => e = .returned (.int .i64 (tot L d)) ∧ Below w'.heap.size w' w'')) := Lib.hid (fun p w' hp hb => by
      rcases hp with rfl | rfl
      · exact count_any p L F d w' (D1.out.keep hb)
      · exact count_any p L F d w' (D2.out.keep hb))
    clear D1 D2
    obtain ⟨tt, htt⟩ : ∃ tt, tt = tot L d := ⟨_, rfl⟩
    rw [← htt] at CNT
    have hzl : (nodesL L d).length ≤ 2097152 := by
      have := Nat.le_trans (ids_len L d) (sz_le (by have := hR.2.1; omega))
      unfold nodesL
      simpa using this
    generalize nodesL L d = zs at NOD hzl
    clear htt
    go_wp2_with fail
    go_region_held3 (fun w' => w'.cell? ⟨C, 0, none⟩ = some (.int .i64 (L : Int)) ∧ w'.cell? ⟨C, 1, none⟩ = some (.int .i64 F) ∧ w'.cell? ⟨C, 2, none⟩ = some (.pointer (some ⟨T1, 0, none⟩)) ∧ w'.cell? ⟨E, 0, none⟩ = some (.int .i64 (L : Int)) ∧ w'.cell? ⟨E, 1, none⟩ = some (.int .i64 F) ∧ w'.cell? ⟨E, 2, none⟩ = some (.pointer (some ⟨T2, 0, none⟩))) (go_keep)
      (first | (go_at_call 29; have _t := n0; refine (NOD.out _ _ (by first | exact Or.inl rfl | exact Or.inr rfl) B5.out).mono ?_; rintro e w6 ⟨bo2, cap2, rfl, hcm2, hnl2, hb6⟩; have B6 := Lib.hid (below_then B5.out hb6); have N2 := Lib.hid hnl2; have N1 := Lib.hid (M1.out.keep hb6); have o0 := cell_later hb6 n0; have o1 := cell_later hb6 n1; have o2 := cell_later hb6 n2; have o3 := cell_later hb6 n3; have o4 := cell_later hb6 n4; have o5 := cell_later hb6 n5; clear hb6 hnl2) | (go_at_call 29; refine (NOD.out _ _ (by first | exact Or.inl rfl | exact Or.inr rfl) (below_drewN (Below.refl _ _) 1)).mono ?_; rintro e w5 ⟨bo1, cap1, rfl, hcm1, hnl1, hb5⟩; have B5 := Lib.hid (below_then (below_drewN (Below.refl V4.heap.size V4) 1) hb5); have M1 := Lib.hid hnl1; have n0 := cell_later B5.out m0; have n1 := cell_later B5.out m1; have n2 := cell_later B5.out m2; have n3 := cell_later B5.out m3; have n4 := cell_later B5.out m4; have n5 := cell_later B5.out m5; clear hb5 hnl1))
    clear _t n0 n1 n2 n3 n4 n5 m0 m1 m2 m3 m4 m5 o0 o1 o2 o3 o4 o5 M1 B5 NOD
    go_wp2_with fail
    go_loopg [21] (zs.length + 1) (fun g t21 wr => ∃ i : Nat, t21 = .int .i64 (i : Int) ∧ i ≤ zs.length ∧ i + g = zs.length + 1 ∧ Hid (Below w6.heap.size w6 wr))
    case atStart => exact ⟨0, rfl, by omega, by omega, Lib.hid (Below.refl _ _)⟩
    case round =>
      obtain ⟨i, rfl, hi, hg, HW⟩ := hrel
      by_cases hlt : i < zs.length
      · have hlt2 : (i : Int) < (zs.length : Int) := by omega
        obtain ⟨g1b, rfl, hn1⟩ := N1.out.at (by omega)
        obtain ⟨g2b, rfl, hn2⟩ := N2.out.at (by omega)
        have q0 := cell_later HW.out (hn1 i hlt).1
        have q1 := cell_later HW.out (hn1 i hlt).2
        have u0 := cell_later HW.out (hn2 i hlt).1
        have u1 := cell_later HW.out (hn2 i hlt).2
        have hq := run_neq_node (zs[i]?.getD (0, 0)).1 (zs[i]?.getD (0, 0)).2
        generalize (zs[i]?.getD (0, 0)).1 = z1 at q0 u0 hq
        generalize (zs[i]?.getD (0, 0)).2 = z2 at q1 u1 hq
        clear hn1 hn2
        go_wp2_with fail
        go_quiet (fail)
        go_wp2_with fail
        go_roundg (gk - 1)
        case measure => omega
        case rel => exact ⟨i + 1, rfl, by omega, by omega, Lib.hid (below_drewN HW.out _)⟩
      · obtain rfl : i = zs.length := by omega
        have hV := below_then B6.out HW.out
        have o0 := cell_later hV (three_cells RC.out).1
        have o1 := cell_later hV (three_cells RC.out).2.1
        have o2 := cell_later hV (three_cells RC.out).2.2.1
        have o3 := cell_later hV (three_cells RE.out).1
        have o4 := cell_later hV (three_cells RE.out).2.1
        have o5 := cell_later hV (three_cells RE.out).2.2.1
        have HV := Lib.hid hV
        clear hV
        go_wp2_with fail
        go_region_held3 (fun w' => w'.cell? ⟨C, 0, none⟩ = some (.int .i64 (L : Int)) ∧ w'.cell? ⟨C, 1, none⟩ = some (.int .i64 F) ∧ w'.cell? ⟨C, 2, none⟩ = some (.pointer (some ⟨T1, 0, none⟩)) ∧ w'.cell? ⟨E, 0, none⟩ = some (.int .i64 (L : Int)) ∧ w'.cell? ⟨E, 1, none⟩ = some (.int .i64 F) ∧ w'.cell? ⟨E, 2, none⟩ = some (.pointer (some ⟨T2, 0, none⟩))) (go_keep)
          (first | (go_at_call 12; refine (awake_any _).mono ?_; rintro e w9 ⟨rfl, hb9⟩; have B9 := Lib.hid (below_then B8.out hb9); have t0 := cell_later hb9 s0; have t1 := cell_later hb9 s1; have t2 := cell_later hb9 s2; have t3 := cell_later hb9 s3; have t4 := cell_later hb9 s4; have t5 := cell_later hb9 s5; clear hb9) | (go_at_call 28; have _t := r0; refine (CNT.out _ _ (by first | exact Or.inl rfl | exact Or.inr rfl) B7.out).mono ?_; rintro e w8 ⟨rfl, hb8⟩; have B8 := Lib.hid (below_then B7.out hb8); have s0 := cell_later hb8 r0; have s1 := cell_later hb8 r1; have s2 := cell_later hb8 r2; have s3 := cell_later hb8 r3; have s4 := cell_later hb8 r4; have s5 := cell_later hb8 r5; clear hb8) | (go_at_call 28; refine (CNT.out _ _ (by first | exact Or.inl rfl | exact Or.inr rfl) (below_drewN HV.out 1)).mono ?_; rintro e w7 ⟨rfl, hb7⟩; have B7 := Lib.hid (below_then (below_drewN HV.out 1) hb7); have r0 := cell_later hb7 o0; have r1 := cell_later hb7 o1; have r2 := cell_later hb7 o2; have r3 := cell_later hb7 o3; have r4 := cell_later hb7 o4; have r5 := cell_later hb7 o5; clear hb7))
        go_wp2
        go_ret
        exact ⟨rfl, HB.out.trans (B9.out.mono HB.out.size)⟩

theorem comm_walk (l f : Int) (ao bo : Option Addr) (la ca lb cb : Nat) (xs ys : List (Int × Int)) (W : World) (hs : Al W ao la xs) (ht : Al W bo lb ys) (hla : la ≤ 9223372036854775807) (hlb : lb ≤ 9223372036854775807) :
    Calls Try.prog 10 #[.int .i64 l, .int .i64 f, .slice ao la ca, .slice bo lb cb] W (fun e w' => e = .returned (.bool true) ∧ Below W.heap.size W w') := by
  by_cases h : 60 < la ∨ 60 < lb ∨ ¬ Right l f
  · exact comm_early l f ao bo la ca lb cb W h hla hlb
  · have h1 : la ≤ 60 := Nat.le_of_not_lt fun g => h (.inl g)
    have h2 : lb ≤ 60 := Nat.le_of_not_lt fun g => h (.inr (.inl g))
    have h3 : Right l f := Classical.byContradiction fun g => h (.inr (.inr g))
    obtain ⟨L, rfl⟩ := Int.eq_ofNat_of_zero_le (show 0 ≤ l by have := h3.1; omega)
    exact comm_main L f ao bo la ca lb cb xs ys W h3 hs ht h1 h2
end Go.Proofs.Ythjmiimkplhffaa
