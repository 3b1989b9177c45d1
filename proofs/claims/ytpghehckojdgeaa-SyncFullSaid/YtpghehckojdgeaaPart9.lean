/- Part 9 of the contracts: RMerge. -/
import Derived.Test.YtpghehckojdgeaaPart8

/- The document's Merge. (By gen_rmer.py.) -/
set_option linter.unusedVariables false
set_option linter.unusedSimpArgs false
namespace Go.Proofs.Ytpghehckojdgeaa
open Go.RowKit Go.Shelf Go.Sort

theorem upd_step (M : Nat → Nat) (i j : Nat) : upd (fun j => if j < i then M j else 0) i (M i) j = if j < i + 1 then M j else 0 := by
  unfold upd
  by_cases e : j = i
  · subst e; simp
  · by_cases e2 : j < i
    · have e3 : j < i + 1 := by omega
      simp [e, e2, e3]
    · have e3 : ¬ j < i + 1 := by omega
      simp [e, e2, e3]
theorem fold_take {xs : List Ent} {p : Ent → Bool} {j : Nat} {acc : List Ent} (h : j < xs.length) : ((xs.take (j + 1)).filter p).foldl insE acc = if p xs[j]! then insE (((xs.take j).filter p).foldl insE acc) xs[j]! else ((xs.take j).filter p).foldl insE acc := by
  rw [take_succ! h, List.filter_append]
  rw [List.foldl_append]
  generalize xs[j]! = y
  cases hp : p y <;> simp [hp]

set_option maxRecDepth 100000 in
set_option maxHeartbeats 16000000 in
theorem refmer_any (m q : Nat) (s t : Nat → Nat) (ao ao' : Option Addr) (n c n' c' : Nat) (xs ys : List Ent) (W : World) (h1 : El W ao n xs) (h2 : El W ao' n' ys) (hn : n ≤ 150000) (hn' : n' ≤ 150000) (ha : (Tab.mk s xs).Ok m) :
    Calls Try.prog 17 #[tabV s (.slice ao n c), tabV t (.slice ao' n' c')] W (OutR W (merT ⟨s, xs⟩ ⟨t, ys⟩)) := by
  obtain ⟨V, hV⟩ : ∃ V, V = (((W.alloc (.cells #[.int .i64 (s 0 : Int), .int .i64 (s 1 : Int), .int .i64 (s 2 : Int), .int .i64 (s 3 : Int), .int .i64 (s 4 : Int), .int .i64 (s 5 : Int), .int .i64 (s 6 : Int), .int .i64 (s 7 : Int), .slice ao n c] 36)).alloc (.cells #[.int .i64 (t 0 : Int), .int .i64 (t 1 : Int), .int .i64 (t 2 : Int), .int .i64 (t 3 : Int), .int .i64 (t 4 : Int), .int .i64 (t 5 : Int), .int .i64 (t 6 : Int), .int .i64 (t 7 : Int), .slice ao' n' c'] 36)).alloc (.cells #[.int .i64 0, .int .i64 0, .int .i64 0, .int .i64 0, .int .i64 0, .int .i64 0, .int .i64 0, .int .i64 0, .slice none 0 0] 36)).alloc (.cells #[.int .i64 0, .int .i64 0, .int .i64 0, .int .i64 0, .int .i64 0, .int .i64 0, .int .i64 0, .int .i64 0, .slice none 0 0] 36) := ⟨_, rfl⟩
  have HB : Hid (Below W.heap.size W V) := Lib.hid (by rw [hV]; exact (below3 W _ _ _).alloc (by simp; omega) _)
  have TA : Hid (RTab V (W.heap.size) s (.slice ao n c)) := Lib.hid (by unfold RTab; rw [hV, Below.heap_alloc _ _ _ (by simp; omega)]; exact block1of3 W _ _ _)
  have TB : Hid (RTab V (W.heap.size + 1) t (.slice ao' n' c')) := Lib.hid (by unfold RTab; rw [hV, Below.heap_alloc _ _ _ (by simp)]; exact block2of3 W _ _ _)
  have TR : Hid (V.heap[W.heap.size + 1 + 1]? = some (.cells #[.int .i64 0, .int .i64 0, .int .i64 0, .int .i64 0, .int .i64 0, .int .i64 0, .int .i64 0, .int .i64 0, .slice none 0 0] 36 (0, 0))) := Lib.hid (by rw [hV, Below.heap_alloc _ _ _ (by simp)]; exact block3 W _ _ _)
  have TO : Hid (RTab V (W.heap.size + 1 + 1 + 1) (fun _ => 0) (.slice none 0 0)) := Lib.hid (by
    unfold RTab
    have k := heap_alloc_new (((W.alloc (.cells #[.int .i64 (s 0 : Int), .int .i64 (s 1 : Int), .int .i64 (s 2 : Int), .int .i64 (s 3 : Int), .int .i64 (s 4 : Int), .int .i64 (s 5 : Int), .int .i64 (s 6 : Int), .int .i64 (s 7 : Int), .slice ao n c] 36)).alloc (.cells #[.int .i64 (t 0 : Int), .int .i64 (t 1 : Int), .int .i64 (t 2 : Int), .int .i64 (t 3 : Int), .int .i64 (t 4 : Int), .int .i64 (t 5 : Int), .int .i64 (t 6 : Int), .int .i64 (t 7 : Int), .slice ao' n' c'] 36)).alloc (.cells #[.int .i64 0, .int .i64 0, .int .i64 0, .int .i64 0, .int .i64 0, .int .i64 0, .int .i64 0, .int .i64 0, .slice none 0 0] 36)) (.cells #[.int .i64 0, .int .i64 0, .int .i64 0, .int .i64 0, .int .i64 0, .int .i64 0, .int .i64 0, .int .i64 0, .slice none 0 0] 36)
    rw [World.size_alloc, World.size_alloc, World.size_alloc] at k
    rw [hV]
    exact k)
  have HVS : Hid (W.heap.size + 1 + 1 + 1 < V.heap.size) := Lib.hid (Array.getElem?_eq_some_iff.1 TO.out).1
  have HEA := Lib.hid h1
  have HEB := Lib.hid h2
  have HNA := Lib.hid h1.1
  have HNB := Lib.hid h2.1
  have HV := Lib.hid hV
  have pn : (n : Int) ≤ 150000 := by omega
  have pn' : (n' : Int) ≤ 150000 := by omega
  obtain ⟨M, hM⟩ : ∃ M : Nat → Nat, M = fun i => max (s i) (t i) := ⟨_, rfl⟩
  obtain ⟨P2, hP2⟩ : ∃ P2 : Ent → Bool, P2 = fun y => hasE ys y || !(saw t y) := ⟨_, rfl⟩
  obtain ⟨P3, hP3⟩ : ∃ P3 : Ent → Bool, P3 = fun y => !(hasE xs y) && !(saw s y) := ⟨_, rfl⟩
  have HL : Hid ((merT ⟨s, xs⟩ ⟨t, ys⟩).L = (ys.filter P3).foldl insE ((xs.filter P2).foldl insE [])) := Lib.hid (by
    rw [hP2, hP3, ← List.foldl_append]
    unfold merT keptT addedT
    simp only
    congr 2
    refine List.filter_congr fun e _ => ?_
    cases hs : saw s e
    · have : hasE xs e = false := hasE_not fun i hi => by
        cases hx : sameE xs[i]! e
        · rfl
        · have := saw_own ha (e := e) (by rw [← sameE_eq hx]; rw [getElem!_pos xs i hi]; exact List.getElem_mem _)
          rw [hs] at this; cases this
      rw [this]; rfl
    · simp)
  have HS : Hid ((merT ⟨s, xs⟩ ⟨t, ys⟩).seen = M) := Lib.hid (by rw [hM]; rfl)
  have HP2 := Lib.hid hP2
  have HP3 := Lib.hid hP3
  have HM := Lib.hid hM
  clear hV h1 h2 hP2 hP3 hM ha
  show Calls _ _ _ _ (fun e w' => ∃ ao n cap, e = .returned (tabV (merT ⟨s, xs⟩ ⟨t, ys⟩).seen (.slice ao n cap)) ∧ El w' ao n (merT ⟨s, xs⟩ ⟨t, ys⟩).L ∧ n ≤ cap ∧ cap ≤ maxLen ∧ Below W.heap.size W w')
  rw [HS.out]
  unfold tabV
  go_enter Try.func17, Try.ntmps17
  go_upto_region 2 with fail
  rw [← HV.out]
  go_wp2
  go_loopg [6] 8 (fun gg s6 wr => ∃ i : Nat, s6 = .int .i64 (i : Int) ∧ i ≤ 8 ∧ 8 - i ≤ gg ∧ Hid (RTab wr (W.heap.size + 1 + 1 + 1) (fun j => if j < i then M j else 0) (.slice none 0 0)) ∧ Hid (Below (W.heap.size + 1 + 1 + 1) V wr))
  case atStart => exact ⟨0, rfl, by omega, by omega, TO, Lib.hid (Below.refl _ _)⟩
  case round =>
    obtain ⟨i, rfl, hi, hgg, HT, HBr⟩ := hrel
    by_cases hlt : i < 8
    · have i0 : (0 : Int) ≤ (i : Int) := by omega
      have i8 : (i : Int) < 8 := by omega
      have ca := nine_at (TA.out.later HBr.out (by omega)) i hlt
      have cb := nine_at (TB.out.later HBr.out (by omega)) i hlt
      have co := nine_at (s := fun j => if j < i then M j else 0) HT.out i hlt
      have fo := free_nine HT.out i
      have HMI : Hid (max (s i : Int) (t i : Int) = (M i : Int)) := Lib.hid (by rw [HM.out]; exact (max_cast _ _).symm)
      go_upto_region 5 with fail
      go_region
      all_goals go_wp2_with fail
      all_goals go_roundg (8 - (i + 1))
      all_goals first
        | omega
        | exact ⟨i + 1, by go_num, by omega, Nat.le_refl _, Lib.hid (by rw [HMI.out]; exact RTab.congr (RTab.put (v := M i) HT.out hlt) (fun j _ => upd_step M i j)), Lib.hid (HBr.out.setCell (p := ⟨W.heap.size + 1 + 1 + 1, i, none⟩) (Nat.le_refl _) _).drew⟩
    · obtain rfl : i = 8 := by omega
      have i8 : ¬ (8 : Int) < 8 := by omega
      go_wp2
      have HT := Lib.hid (RTab.congr (t := M) HT.out (fun j hj => if_pos hj))
      clear hgg hi hlt i8
      go_loopg [7] n (fun gg si wr => ∃ (j : Nat) (a1 : Option Addr) (n1 c1 : Nat), si = .int .i64 (j : Int) ∧ j ≤ n ∧ n - j ≤ gg ∧ n1 ≤ j ∧ Hid (RTab wr (W.heap.size + 1 + 1 + 1) M (.slice a1 n1 c1)) ∧ Hid (El wr a1 n1 (((xs.take j).filter P2).foldl insE [])) ∧ Hid (n1 ≤ c1 ∧ c1 ≤ maxLen) ∧ Hid (Below (W.heap.size + 1 + 1 + 1) V wr))
      case atStart => exact ⟨0, _, _, _, rfl, Nat.zero_le _, by omega, Nat.le_refl _, HT, Lib.hid (El.nil _), Lib.hid ⟨Nat.le_refl _, Nat.zero_le _⟩, HBr⟩
      case round =>
        obtain ⟨j, a1, n1, c1, rfl, hj, hgg, hn1, HT, HE1, HC1, HBr⟩ := hrel
        have j0 : (0 : Int) ≤ (j : Int) := by omega
        have BW := Lib.hid (HB.out.trans (HBr.out.mono (show W.heap.size ≤ W.heap.size + 1 + 1 + 1 by omega)))
        obtain ⟨p0, p1, p2, p3, p4, p5, p6, p7, p8⟩ := cell_nine (TA.out.later HBr.out (by omega))
        by_cases hlt : j < n
        · have hltz : (j : Int) < (n : Int) := by omega
          obtain ⟨g, hg, hc⟩ : ∃ g, ao = some ⟨g, 0, none⟩ ∧ At4 wr g (j * 4) xs[j]! := by
            have he := HEA.out.keep BW.out
            rcases he.2 with ⟨_, h0⟩ | ⟨g, hg, hr⟩
            · omega
            · exact ⟨g, hg, hr.2 j (by rw [HNA.out]; exact hlt)⟩
          have HFT : Hid (((xs.take (j + 1)).filter P2).foldl insE [] = if P2 xs[j]! then insE (((xs.take j).filter P2).foldl insE []) xs[j]! else ((xs.take j).filter P2).foldl insE []) := Lib.hid (fold_take (by rw [HNA.out]; exact hlt))
          obtain ⟨y, hy⟩ : ∃ y, y = xs[j]! := ⟨_, rfl⟩
          rw [← hy] at hc HFT
          clear hy
          obtain ⟨c0, c1', c2, c3⟩ := hc
          have HAS : Hid (∀ w, Below wr.heap.size wr w → Calls Try.prog 33 #[.agg #[.int .i64 (t 0 : Int), .int .i64 (t 1 : Int), .int .i64 (t 2 : Int), .int .i64 (t 3 : Int), .int .i64 (t 4 : Int), .int .i64 (t 5 : Int), .int .i64 (t 6 : Int), .int .i64 (t 7 : Int), .slice ao' n' c'], .agg #[.string y.key, .string y.val, .int .i64 (y.site : Int), .int .i64 (y.count : Int)]] w fun e w' => e = .returned (.bool (hasE ys y)) ∧ Below w.heap.size w w') := Lib.hid fun w hw => by have k := refhas_any t ao' n' c' ys y w ((HEB.out.keep BW.out).keep hw) (by omega); exact k
          have SAW : Hid (∀ w, Calls Try.prog 34 #[.agg #[.int .i64 (t 0 : Int), .int .i64 (t 1 : Int), .int .i64 (t 2 : Int), .int .i64 (t 3 : Int), .int .i64 (t 4 : Int), .int .i64 (t 5 : Int), .int .i64 (t 6 : Int), .int .i64 (t 7 : Int), .slice ao' n' c'], .agg #[.int .i64 (y.site : Int), .int .i64 (y.count : Int)]] w fun e w' => e = .returned (.bool (saw t y)) ∧ Below w.heap.size w w') := Lib.hid fun w => refsaw_any t (.slice ao' n' c') rfl y w
          obtain ⟨q0, q1, q2, q3, q4, q5, q6, q7, q8⟩ := cell_nine (TB.out.later HBr.out (by omega))
          have HPY : Hid (P2 y = ((hasE ys y) || !(saw t y))) := Lib.hid (by rw [HP2.out])
          subst hg
          generalize hbh : hasE ys y = bh at HAS HPY
          generalize hbs : saw t y = bs at SAW HPY
          clear hbh hbs
          clear p0 p1 p2 p3 p4 p5 p6 p7
          go_upto_region 9 with fail
          go_cut [49] (fun v wx => v = .bool (bh || !bs) ∧ Hid (Below wr.heap.size wr wx))
          · cases bh
            · cases bs
              · refine wp_region_held_drew (S := fun w' => w'.cell? ⟨W.heap.size + 1, 0, none⟩ = some (.int .i64 (t 0 : Int)) ∧ w'.cell? ⟨W.heap.size + 1, 1, none⟩ = some (.int .i64 (t 1 : Int)) ∧ w'.cell? ⟨W.heap.size + 1, 2, none⟩ = some (.int .i64 (t 2 : Int)) ∧ w'.cell? ⟨W.heap.size + 1, 3, none⟩ = some (.int .i64 (t 3 : Int)) ∧ w'.cell? ⟨W.heap.size + 1, 4, none⟩ = some (.int .i64 (t 4 : Int)) ∧ w'.cell? ⟨W.heap.size + 1, 5, none⟩ = some (.int .i64 (t 5 : Int)) ∧ w'.cell? ⟨W.heap.size + 1, 6, none⟩ = some (.int .i64 (t 6 : Int)) ∧ w'.cell? ⟨W.heap.size + 1, 7, none⟩ = some (.int .i64 (t 7 : Int)) ∧ w'.cell? ⟨W.heap.size + 1, 8, none⟩ = some (.slice ao' n' c') ∧ w'.cell? ⟨W.heap.size, 8, none⟩ = some (.slice (some ⟨g, 0, none⟩) n c) ∧ w'.cell? ⟨g, j * 4, none⟩ = some (.string y.key) ∧ w'.cell? ⟨g, j * 4 + 1, none⟩ = some (.string y.val) ∧ w'.cell? ⟨g, j * 4 + 2, none⟩ = some (.int .i64 (y.site : Int)) ∧ w'.cell? ⟨g, j * 4 + 3, none⟩ = some (.int .i64 (y.count : Int))) (by kernel_rfl) ⟨q0, q1, q2, q3, q4, q5, q6, q7, q8, p8, c0, c1', c2, c3⟩ (fun hS => ?_)
                clear q0 q1 q2 q3 q4 q5 q6 q7 q8 p8 c0 c1' c2 c3
                refine wpAnyH_take (i := 0) (v := ?v2ff0) rfl (by kernel_rfl) (by kernel_rfl) (by kernel_rfl) (fun _ _ _ h => h) (Or.inl ⟨by rfl, ?hy2ff0⟩) hS ?rest2ff0
                case hy2ff0 => (intro w hSw; (try dsimp only at hSw); (first | (go_simp; done) | (go_simp; with_reducible rfl)))
                try simp only [Act.put, List.getElem_toArray, List.getElem_cons_succ, List.getElem_cons_zero, List.setIfInBounds_toArray, List.set_cons_zero, List.set_cons_succ]
                refine wpAnyH_take (i := 1) (v := ?v2ff1) rfl (by kernel_rfl) (by kernel_rfl) (by kernel_rfl) (fun _ _ _ h => h) (Or.inl ⟨by rfl, ?hy2ff1⟩) hS ?rest2ff1
                case hy2ff1 => (intro w hSw; (try dsimp only at hSw); (first | (go_simp; done) | (go_simp; with_reducible rfl)))
                try simp only [Act.put, List.getElem_toArray, List.getElem_cons_succ, List.getElem_cons_zero, List.setIfInBounds_toArray, List.set_cons_zero, List.set_cons_succ]
                refine wpAnyH_take (i := 2) (v := ?v2ff2) rfl (by kernel_rfl) (by kernel_rfl) (by kernel_rfl) (fun _ _ _ h => h) (Or.inl ⟨by rfl, ?hy2ff2⟩) hS ?rest2ff2
                case hy2ff2 => (intro w hSw; (try dsimp only at hSw); (first | (go_simp; done) | (go_simp; with_reducible rfl)))
                try simp only [Act.put, List.getElem_toArray, List.getElem_cons_succ, List.getElem_cons_zero, List.setIfInBounds_toArray, List.set_cons_zero, List.set_cons_succ]
                refine wpAnyH_take (i := 3) (v := ?v2ff3) rfl (by kernel_rfl) (by kernel_rfl) (by kernel_rfl) (fun _ _ _ h => h) (Or.inl ⟨by rfl, ?hy2ff3⟩) hS ?rest2ff3
                case hy2ff3 => (intro w hSw; (try dsimp only at hSw); (first | (go_simp; done) | (go_simp; with_reducible rfl)))
                try simp only [Act.put, List.getElem_toArray, List.getElem_cons_succ, List.getElem_cons_zero, List.setIfInBounds_toArray, List.set_cons_zero, List.set_cons_succ]
                refine wpAnyH_take (i := 4) (v := ?v2ff4) rfl (by kernel_rfl) (by kernel_rfl) (by kernel_rfl) (fun _ _ _ h => h) (Or.inl ⟨by rfl, ?hy2ff4⟩) hS ?rest2ff4
                case hy2ff4 => (intro w hSw; (try dsimp only at hSw); (first | (go_simp; done) | (go_simp; with_reducible rfl)))
                try simp only [Act.put, List.getElem_toArray, List.getElem_cons_succ, List.getElem_cons_zero, List.setIfInBounds_toArray, List.set_cons_zero, List.set_cons_succ]
                refine wpAnyH_take (i := 5) (v := ?v2ff5) rfl (by kernel_rfl) (by kernel_rfl) (by kernel_rfl) (fun _ _ _ h => h) (Or.inl ⟨by rfl, ?hy2ff5⟩) hS ?rest2ff5
                case hy2ff5 => (intro w hSw; (try dsimp only at hSw); (first | (go_simp; done) | (go_simp; with_reducible rfl)))
                try simp only [Act.put, List.getElem_toArray, List.getElem_cons_succ, List.getElem_cons_zero, List.setIfInBounds_toArray, List.set_cons_zero, List.set_cons_succ]
                refine wpAnyH_ready (rs := [6]) (by kernel_rfl) (by simp) ?_
                refine AllReadyH.cons rfl (fun K hK => ?_) AllReadyH.nil
                try go_simp
                go_at_call 33
                refine (HAS.out _ (drew_below wr)).mono ?_
                rintro e w1 ⟨rfl, hb1⟩
                obtain ⟨z0, z1, z2, z3, z4, z5, z6, z7, z8, z9, z10, z11, z12, z13⟩ := hS
                have B1 := Lib.hid ((drew_below wr).trans hb1)
                have x0 := cell_later hb1 z0
                have x1 := cell_later hb1 z1
                have x2 := cell_later hb1 z2
                have x3 := cell_later hb1 z3
                have x4 := cell_later hb1 z4
                have x5 := cell_later hb1 z5
                have x6 := cell_later hb1 z6
                have x7 := cell_later hb1 z7
                have x8 := cell_later hb1 z8
                have x9 := cell_later hb1 z9
                have x10 := cell_later hb1 z10
                have x11 := cell_later hb1 z11
                have x12 := cell_later hb1 z12
                have x13 := cell_later hb1 z13
                clear hb1 z0 z1 z2 z3 z4 z5 z6 z7 z8 z9 z10 z11 z12 z13
                refine hK.out _ _ ⟨x0, x1, x2, x3, x4, x5, x6, x7, x8, x9, x10, x11, x12, x13⟩ (fun hS => ?_)
                clear hK K
                try simp only [Act.put, List.getElem_toArray, List.getElem_cons_succ, List.getElem_cons_zero, List.setIfInBounds_toArray, List.set_cons_zero, List.set_cons_succ]
                clear x0 x1 x2 x3 x4 x5 x6 x7 x8 x9 x10 x11 x12 x13
                refine wpAnyH_take (i := 7) (v := ?v2ff7) rfl (by kernel_rfl) (by kernel_rfl) (by kernel_rfl) (fun _ _ _ h => h) (Or.inl ⟨by rfl, ?hy2ff7⟩) hS ?rest2ff7
                case hy2ff7 => (intro w hSw; (try dsimp only at hSw); (first | (go_simp; done) | (go_simp; with_reducible rfl)))
                try simp only [Act.put, List.getElem_toArray, List.getElem_cons_succ, List.getElem_cons_zero, List.setIfInBounds_toArray, List.set_cons_zero, List.set_cons_succ]
                refine wpAnyH_take (i := 8) (v := ?v2ff8) rfl (by kernel_rfl) (by kernel_rfl) (by kernel_rfl) (fun _ _ _ h => h) (Or.inl ⟨by rfl, ?hy2ff8⟩) hS ?rest2ff8
                case hy2ff8 => (intro w hSw; (try dsimp only at hSw); (first | (go_simp; done) | (go_simp; with_reducible rfl)))
                try simp only [Act.put, List.getElem_toArray, List.getElem_cons_succ, List.getElem_cons_zero, List.setIfInBounds_toArray, List.set_cons_zero, List.set_cons_succ]
                refine wpAnyH_take (i := 9) (v := ?v2ff9) rfl (by kernel_rfl) (by kernel_rfl) (by kernel_rfl) (fun _ _ _ h => h) (Or.inl ⟨by rfl, ?hy2ff9⟩) hS ?rest2ff9
                case hy2ff9 => (intro w hSw; (try dsimp only at hSw); (first | (go_simp; done) | (go_simp; with_reducible rfl)))
                try simp only [Act.put, List.getElem_toArray, List.getElem_cons_succ, List.getElem_cons_zero, List.setIfInBounds_toArray, List.set_cons_zero, List.set_cons_succ]
                refine wpAnyH_take (i := 10) (v := ?v2ff10) rfl (by kernel_rfl) (by kernel_rfl) (by kernel_rfl) (fun _ _ _ h => h) (Or.inl ⟨by rfl, ?hy2ff10⟩) hS ?rest2ff10
                case hy2ff10 => (intro w hSw; (try dsimp only at hSw); (first | (go_simp; done) | (go_simp; with_reducible rfl)))
                try simp only [Act.put, List.getElem_toArray, List.getElem_cons_succ, List.getElem_cons_zero, List.setIfInBounds_toArray, List.set_cons_zero, List.set_cons_succ]
                refine wpAnyH_take (i := 11) (v := ?v2ff11) rfl (by kernel_rfl) (by kernel_rfl) (by kernel_rfl) (fun _ _ _ h => h) (Or.inl ⟨by rfl, ?hy2ff11⟩) hS ?rest2ff11
                case hy2ff11 => (intro w hSw; (try dsimp only at hSw); (first | (go_simp; done) | (go_simp; with_reducible rfl)))
                try simp only [Act.put, List.getElem_toArray, List.getElem_cons_succ, List.getElem_cons_zero, List.setIfInBounds_toArray, List.set_cons_zero, List.set_cons_succ]
                refine wpAnyH_take (i := 12) (v := ?v2ff12) rfl (by kernel_rfl) (by kernel_rfl) (by kernel_rfl) (fun _ _ _ h => h) (Or.inl ⟨by rfl, ?hy2ff12⟩) hS ?rest2ff12
                case hy2ff12 => (intro w hSw; (try dsimp only at hSw); (first | (go_simp; done) | (go_simp; with_reducible rfl)))
                try simp only [Act.put, List.getElem_toArray, List.getElem_cons_succ, List.getElem_cons_zero, List.setIfInBounds_toArray, List.set_cons_zero, List.set_cons_succ]
                refine wpAnyH_take (i := 13) (v := ?v2ff13) rfl (by kernel_rfl) (by kernel_rfl) (by kernel_rfl) (fun _ _ _ h => h) (Or.inl ⟨by rfl, ?hy2ff13⟩) hS ?rest2ff13
                case hy2ff13 => (intro w hSw; (try dsimp only at hSw); (first | (go_simp; done) | (go_simp; with_reducible rfl)))
                try simp only [Act.put, List.getElem_toArray, List.getElem_cons_succ, List.getElem_cons_zero, List.setIfInBounds_toArray, List.set_cons_zero, List.set_cons_succ]
                refine wpAnyH_take (i := 14) (v := ?v2ff14) rfl (by kernel_rfl) (by kernel_rfl) (by kernel_rfl) (fun _ _ _ h => h) (Or.inl ⟨by rfl, ?hy2ff14⟩) hS ?rest2ff14
                case hy2ff14 => (intro w hSw; (try dsimp only at hSw); (first | (go_simp; done) | (go_simp; with_reducible rfl)))
                try simp only [Act.put, List.getElem_toArray, List.getElem_cons_succ, List.getElem_cons_zero, List.setIfInBounds_toArray, List.set_cons_zero, List.set_cons_succ]
                refine wpAnyH_ready (rs := [15]) (by kernel_rfl) (by simp) ?_
                refine AllReadyH.cons rfl (fun K hK => ?_) AllReadyH.nil
                try go_simp
                go_at_call 34
                refine (SAW.out _).mono ?_
                rintro e w1 ⟨rfl, hb1⟩
                obtain ⟨z0, z1, z2, z3, z4, z5, z6, z7, z8, z9, z10, z11, z12, z13⟩ := hS
                replace B1 := Lib.hid (below_then B1.out hb1)
                have x0 := cell_later hb1 z0
                have x1 := cell_later hb1 z1
                have x2 := cell_later hb1 z2
                have x3 := cell_later hb1 z3
                have x4 := cell_later hb1 z4
                have x5 := cell_later hb1 z5
                have x6 := cell_later hb1 z6
                have x7 := cell_later hb1 z7
                have x8 := cell_later hb1 z8
                have x9 := cell_later hb1 z9
                have x10 := cell_later hb1 z10
                have x11 := cell_later hb1 z11
                have x12 := cell_later hb1 z12
                have x13 := cell_later hb1 z13
                clear hb1 z0 z1 z2 z3 z4 z5 z6 z7 z8 z9 z10 z11 z12 z13
                refine hK.out _ _ ⟨x0, x1, x2, x3, x4, x5, x6, x7, x8, x9, x10, x11, x12, x13⟩ (fun hS => ?_)
                clear hK K
                try simp only [Act.put, List.getElem_toArray, List.getElem_cons_succ, List.getElem_cons_zero, List.setIfInBounds_toArray, List.set_cons_zero, List.set_cons_succ]
                clear x0 x1 x2 x3 x4 x5 x6 x7 x8 x9 x10 x11 x12 x13
                refine wpAnyH_take (i := 16) (v := ?v2ff16) rfl (by kernel_rfl) (by kernel_rfl) (by kernel_rfl) (fun _ _ _ h => h) (Or.inl ⟨by rfl, ?hy2ff16⟩) hS ?rest2ff16
                case hy2ff16 => (intro w hSw; (try dsimp only at hSw); (first | (go_simp; done) | (go_simp; with_reducible rfl)))
                try simp only [Act.put, List.getElem_toArray, List.getElem_cons_succ, List.getElem_cons_zero, List.setIfInBounds_toArray, List.set_cons_zero, List.set_cons_succ]
                refine wpAnyH_take (i := 17) (v := ?v2ff17) rfl (by kernel_rfl) (by kernel_rfl) (by kernel_rfl) (fun _ _ _ h => h) (Or.inl ⟨by rfl, ?hy2ff17⟩) hS ?rest2ff17
                case hy2ff17 => (intro w hSw; (try dsimp only at hSw); (first | (go_simp; done) | (go_simp; with_reducible rfl)))
                try simp only [Act.put, List.getElem_toArray, List.getElem_cons_succ, List.getElem_cons_zero, List.setIfInBounds_toArray, List.set_cons_zero, List.set_cons_succ]
                refine wpAnyH_done (by kernel_rfl) ?_ _
                all_goals go_wp2_with fail
                all_goals go_meet
                all_goals exact ⟨rfl, B1⟩
              · refine wp_region_held_drew (S := fun w' => w'.cell? ⟨W.heap.size + 1, 0, none⟩ = some (.int .i64 (t 0 : Int)) ∧ w'.cell? ⟨W.heap.size + 1, 1, none⟩ = some (.int .i64 (t 1 : Int)) ∧ w'.cell? ⟨W.heap.size + 1, 2, none⟩ = some (.int .i64 (t 2 : Int)) ∧ w'.cell? ⟨W.heap.size + 1, 3, none⟩ = some (.int .i64 (t 3 : Int)) ∧ w'.cell? ⟨W.heap.size + 1, 4, none⟩ = some (.int .i64 (t 4 : Int)) ∧ w'.cell? ⟨W.heap.size + 1, 5, none⟩ = some (.int .i64 (t 5 : Int)) ∧ w'.cell? ⟨W.heap.size + 1, 6, none⟩ = some (.int .i64 (t 6 : Int)) ∧ w'.cell? ⟨W.heap.size + 1, 7, none⟩ = some (.int .i64 (t 7 : Int)) ∧ w'.cell? ⟨W.heap.size + 1, 8, none⟩ = some (.slice ao' n' c') ∧ w'.cell? ⟨W.heap.size, 8, none⟩ = some (.slice (some ⟨g, 0, none⟩) n c) ∧ w'.cell? ⟨g, j * 4, none⟩ = some (.string y.key) ∧ w'.cell? ⟨g, j * 4 + 1, none⟩ = some (.string y.val) ∧ w'.cell? ⟨g, j * 4 + 2, none⟩ = some (.int .i64 (y.site : Int)) ∧ w'.cell? ⟨g, j * 4 + 3, none⟩ = some (.int .i64 (y.count : Int))) (by kernel_rfl) ⟨q0, q1, q2, q3, q4, q5, q6, q7, q8, p8, c0, c1', c2, c3⟩ (fun hS => ?_)
                clear q0 q1 q2 q3 q4 q5 q6 q7 q8 p8 c0 c1' c2 c3
                refine wpAnyH_take (i := 0) (v := ?v2ft0) rfl (by kernel_rfl) (by kernel_rfl) (by kernel_rfl) (fun _ _ _ h => h) (Or.inl ⟨by rfl, ?hy2ft0⟩) hS ?rest2ft0
                case hy2ft0 => (intro w hSw; (try dsimp only at hSw); (first | (go_simp; done) | (go_simp; with_reducible rfl)))
                try simp only [Act.put, List.getElem_toArray, List.getElem_cons_succ, List.getElem_cons_zero, List.setIfInBounds_toArray, List.set_cons_zero, List.set_cons_succ]
                refine wpAnyH_take (i := 1) (v := ?v2ft1) rfl (by kernel_rfl) (by kernel_rfl) (by kernel_rfl) (fun _ _ _ h => h) (Or.inl ⟨by rfl, ?hy2ft1⟩) hS ?rest2ft1
                case hy2ft1 => (intro w hSw; (try dsimp only at hSw); (first | (go_simp; done) | (go_simp; with_reducible rfl)))
                try simp only [Act.put, List.getElem_toArray, List.getElem_cons_succ, List.getElem_cons_zero, List.setIfInBounds_toArray, List.set_cons_zero, List.set_cons_succ]
                refine wpAnyH_take (i := 2) (v := ?v2ft2) rfl (by kernel_rfl) (by kernel_rfl) (by kernel_rfl) (fun _ _ _ h => h) (Or.inl ⟨by rfl, ?hy2ft2⟩) hS ?rest2ft2
                case hy2ft2 => (intro w hSw; (try dsimp only at hSw); (first | (go_simp; done) | (go_simp; with_reducible rfl)))
                try simp only [Act.put, List.getElem_toArray, List.getElem_cons_succ, List.getElem_cons_zero, List.setIfInBounds_toArray, List.set_cons_zero, List.set_cons_succ]
                refine wpAnyH_take (i := 3) (v := ?v2ft3) rfl (by kernel_rfl) (by kernel_rfl) (by kernel_rfl) (fun _ _ _ h => h) (Or.inl ⟨by rfl, ?hy2ft3⟩) hS ?rest2ft3
                case hy2ft3 => (intro w hSw; (try dsimp only at hSw); (first | (go_simp; done) | (go_simp; with_reducible rfl)))
                try simp only [Act.put, List.getElem_toArray, List.getElem_cons_succ, List.getElem_cons_zero, List.setIfInBounds_toArray, List.set_cons_zero, List.set_cons_succ]
                refine wpAnyH_take (i := 4) (v := ?v2ft4) rfl (by kernel_rfl) (by kernel_rfl) (by kernel_rfl) (fun _ _ _ h => h) (Or.inl ⟨by rfl, ?hy2ft4⟩) hS ?rest2ft4
                case hy2ft4 => (intro w hSw; (try dsimp only at hSw); (first | (go_simp; done) | (go_simp; with_reducible rfl)))
                try simp only [Act.put, List.getElem_toArray, List.getElem_cons_succ, List.getElem_cons_zero, List.setIfInBounds_toArray, List.set_cons_zero, List.set_cons_succ]
                refine wpAnyH_take (i := 5) (v := ?v2ft5) rfl (by kernel_rfl) (by kernel_rfl) (by kernel_rfl) (fun _ _ _ h => h) (Or.inl ⟨by rfl, ?hy2ft5⟩) hS ?rest2ft5
                case hy2ft5 => (intro w hSw; (try dsimp only at hSw); (first | (go_simp; done) | (go_simp; with_reducible rfl)))
                try simp only [Act.put, List.getElem_toArray, List.getElem_cons_succ, List.getElem_cons_zero, List.setIfInBounds_toArray, List.set_cons_zero, List.set_cons_succ]
                refine wpAnyH_ready (rs := [6]) (by kernel_rfl) (by simp) ?_
                refine AllReadyH.cons rfl (fun K hK => ?_) AllReadyH.nil
                try go_simp
                go_at_call 33
                refine (HAS.out _ (drew_below wr)).mono ?_
                rintro e w1 ⟨rfl, hb1⟩
                obtain ⟨z0, z1, z2, z3, z4, z5, z6, z7, z8, z9, z10, z11, z12, z13⟩ := hS
                have B1 := Lib.hid ((drew_below wr).trans hb1)
                have x0 := cell_later hb1 z0
                have x1 := cell_later hb1 z1
                have x2 := cell_later hb1 z2
                have x3 := cell_later hb1 z3
                have x4 := cell_later hb1 z4
                have x5 := cell_later hb1 z5
                have x6 := cell_later hb1 z6
                have x7 := cell_later hb1 z7
                have x8 := cell_later hb1 z8
                have x9 := cell_later hb1 z9
                have x10 := cell_later hb1 z10
                have x11 := cell_later hb1 z11
                have x12 := cell_later hb1 z12
                have x13 := cell_later hb1 z13
                clear hb1 z0 z1 z2 z3 z4 z5 z6 z7 z8 z9 z10 z11 z12 z13
                refine hK.out _ _ ⟨x0, x1, x2, x3, x4, x5, x6, x7, x8, x9, x10, x11, x12, x13⟩ (fun hS => ?_)
                clear hK K
                try simp only [Act.put, List.getElem_toArray, List.getElem_cons_succ, List.getElem_cons_zero, List.setIfInBounds_toArray, List.set_cons_zero, List.set_cons_succ]
                clear x0 x1 x2 x3 x4 x5 x6 x7 x8 x9 x10 x11 x12 x13
                refine wpAnyH_take (i := 7) (v := ?v2ft7) rfl (by kernel_rfl) (by kernel_rfl) (by kernel_rfl) (fun _ _ _ h => h) (Or.inl ⟨by rfl, ?hy2ft7⟩) hS ?rest2ft7
                case hy2ft7 => (intro w hSw; (try dsimp only at hSw); (first | (go_simp; done) | (go_simp; with_reducible rfl)))
                try simp only [Act.put, List.getElem_toArray, List.getElem_cons_succ, List.getElem_cons_zero, List.setIfInBounds_toArray, List.set_cons_zero, List.set_cons_succ]
                refine wpAnyH_take (i := 8) (v := ?v2ft8) rfl (by kernel_rfl) (by kernel_rfl) (by kernel_rfl) (fun _ _ _ h => h) (Or.inl ⟨by rfl, ?hy2ft8⟩) hS ?rest2ft8
                case hy2ft8 => (intro w hSw; (try dsimp only at hSw); (first | (go_simp; done) | (go_simp; with_reducible rfl)))
                try simp only [Act.put, List.getElem_toArray, List.getElem_cons_succ, List.getElem_cons_zero, List.setIfInBounds_toArray, List.set_cons_zero, List.set_cons_succ]
                refine wpAnyH_take (i := 9) (v := ?v2ft9) rfl (by kernel_rfl) (by kernel_rfl) (by kernel_rfl) (fun _ _ _ h => h) (Or.inl ⟨by rfl, ?hy2ft9⟩) hS ?rest2ft9
                case hy2ft9 => (intro w hSw; (try dsimp only at hSw); (first | (go_simp; done) | (go_simp; with_reducible rfl)))
                try simp only [Act.put, List.getElem_toArray, List.getElem_cons_succ, List.getElem_cons_zero, List.setIfInBounds_toArray, List.set_cons_zero, List.set_cons_succ]
                refine wpAnyH_take (i := 10) (v := ?v2ft10) rfl (by kernel_rfl) (by kernel_rfl) (by kernel_rfl) (fun _ _ _ h => h) (Or.inl ⟨by rfl, ?hy2ft10⟩) hS ?rest2ft10
                case hy2ft10 => (intro w hSw; (try dsimp only at hSw); (first | (go_simp; done) | (go_simp; with_reducible rfl)))
                try simp only [Act.put, List.getElem_toArray, List.getElem_cons_succ, List.getElem_cons_zero, List.setIfInBounds_toArray, List.set_cons_zero, List.set_cons_succ]
                refine wpAnyH_take (i := 11) (v := ?v2ft11) rfl (by kernel_rfl) (by kernel_rfl) (by kernel_rfl) (fun _ _ _ h => h) (Or.inl ⟨by rfl, ?hy2ft11⟩) hS ?rest2ft11
                case hy2ft11 => (intro w hSw; (try dsimp only at hSw); (first | (go_simp; done) | (go_simp; with_reducible rfl)))
                try simp only [Act.put, List.getElem_toArray, List.getElem_cons_succ, List.getElem_cons_zero, List.setIfInBounds_toArray, List.set_cons_zero, List.set_cons_succ]
                refine wpAnyH_take (i := 12) (v := ?v2ft12) rfl (by kernel_rfl) (by kernel_rfl) (by kernel_rfl) (fun _ _ _ h => h) (Or.inl ⟨by rfl, ?hy2ft12⟩) hS ?rest2ft12
                case hy2ft12 => (intro w hSw; (try dsimp only at hSw); (first | (go_simp; done) | (go_simp; with_reducible rfl)))
                try simp only [Act.put, List.getElem_toArray, List.getElem_cons_succ, List.getElem_cons_zero, List.setIfInBounds_toArray, List.set_cons_zero, List.set_cons_succ]
                refine wpAnyH_take (i := 13) (v := ?v2ft13) rfl (by kernel_rfl) (by kernel_rfl) (by kernel_rfl) (fun _ _ _ h => h) (Or.inl ⟨by rfl, ?hy2ft13⟩) hS ?rest2ft13
                case hy2ft13 => (intro w hSw; (try dsimp only at hSw); (first | (go_simp; done) | (go_simp; with_reducible rfl)))
                try simp only [Act.put, List.getElem_toArray, List.getElem_cons_succ, List.getElem_cons_zero, List.setIfInBounds_toArray, List.set_cons_zero, List.set_cons_succ]
                refine wpAnyH_take (i := 14) (v := ?v2ft14) rfl (by kernel_rfl) (by kernel_rfl) (by kernel_rfl) (fun _ _ _ h => h) (Or.inl ⟨by rfl, ?hy2ft14⟩) hS ?rest2ft14
                case hy2ft14 => (intro w hSw; (try dsimp only at hSw); (first | (go_simp; done) | (go_simp; with_reducible rfl)))
                try simp only [Act.put, List.getElem_toArray, List.getElem_cons_succ, List.getElem_cons_zero, List.setIfInBounds_toArray, List.set_cons_zero, List.set_cons_succ]
                refine wpAnyH_ready (rs := [15]) (by kernel_rfl) (by simp) ?_
                refine AllReadyH.cons rfl (fun K hK => ?_) AllReadyH.nil
                try go_simp
                go_at_call 34
                refine (SAW.out _).mono ?_
                rintro e w1 ⟨rfl, hb1⟩
                obtain ⟨z0, z1, z2, z3, z4, z5, z6, z7, z8, z9, z10, z11, z12, z13⟩ := hS
                replace B1 := Lib.hid (below_then B1.out hb1)
                have x0 := cell_later hb1 z0
                have x1 := cell_later hb1 z1
                have x2 := cell_later hb1 z2
                have x3 := cell_later hb1 z3
                have x4 := cell_later hb1 z4
                have x5 := cell_later hb1 z5
                have x6 := cell_later hb1 z6
                have x7 := cell_later hb1 z7
                have x8 := cell_later hb1 z8
                have x9 := cell_later hb1 z9
                have x10 := cell_later hb1 z10
                have x11 := cell_later hb1 z11
                have x12 := cell_later hb1 z12
                have x13 := cell_later hb1 z13
                clear hb1 z0 z1 z2 z3 z4 z5 z6 z7 z8 z9 z10 z11 z12 z13
                refine hK.out _ _ ⟨x0, x1, x2, x3, x4, x5, x6, x7, x8, x9, x10, x11, x12, x13⟩ (fun hS => ?_)
                clear hK K
                try simp only [Act.put, List.getElem_toArray, List.getElem_cons_succ, List.getElem_cons_zero, List.setIfInBounds_toArray, List.set_cons_zero, List.set_cons_succ]
                clear x0 x1 x2 x3 x4 x5 x6 x7 x8 x9 x10 x11 x12 x13
                refine wpAnyH_take (i := 16) (v := ?v2ft16) rfl (by kernel_rfl) (by kernel_rfl) (by kernel_rfl) (fun _ _ _ h => h) (Or.inl ⟨by rfl, ?hy2ft16⟩) hS ?rest2ft16
                case hy2ft16 => (intro w hSw; (try dsimp only at hSw); (first | (go_simp; done) | (go_simp; with_reducible rfl)))
                try simp only [Act.put, List.getElem_toArray, List.getElem_cons_succ, List.getElem_cons_zero, List.setIfInBounds_toArray, List.set_cons_zero, List.set_cons_succ]
                refine wpAnyH_take (i := 17) (v := ?v2ft17) rfl (by kernel_rfl) (by kernel_rfl) (by kernel_rfl) (fun _ _ _ h => h) (Or.inl ⟨by rfl, ?hy2ft17⟩) hS ?rest2ft17
                case hy2ft17 => (intro w hSw; (try dsimp only at hSw); (first | (go_simp; done) | (go_simp; with_reducible rfl)))
                try simp only [Act.put, List.getElem_toArray, List.getElem_cons_succ, List.getElem_cons_zero, List.setIfInBounds_toArray, List.set_cons_zero, List.set_cons_succ]
                refine wpAnyH_done (by kernel_rfl) ?_ _
                all_goals go_wp2_with fail
                all_goals go_meet
                all_goals exact ⟨rfl, B1⟩
            · refine wp_region_held_drew (S := fun w' => w'.cell? ⟨W.heap.size + 1, 0, none⟩ = some (.int .i64 (t 0 : Int)) ∧ w'.cell? ⟨W.heap.size + 1, 1, none⟩ = some (.int .i64 (t 1 : Int)) ∧ w'.cell? ⟨W.heap.size + 1, 2, none⟩ = some (.int .i64 (t 2 : Int)) ∧ w'.cell? ⟨W.heap.size + 1, 3, none⟩ = some (.int .i64 (t 3 : Int)) ∧ w'.cell? ⟨W.heap.size + 1, 4, none⟩ = some (.int .i64 (t 4 : Int)) ∧ w'.cell? ⟨W.heap.size + 1, 5, none⟩ = some (.int .i64 (t 5 : Int)) ∧ w'.cell? ⟨W.heap.size + 1, 6, none⟩ = some (.int .i64 (t 6 : Int)) ∧ w'.cell? ⟨W.heap.size + 1, 7, none⟩ = some (.int .i64 (t 7 : Int)) ∧ w'.cell? ⟨W.heap.size + 1, 8, none⟩ = some (.slice ao' n' c') ∧ w'.cell? ⟨W.heap.size, 8, none⟩ = some (.slice (some ⟨g, 0, none⟩) n c) ∧ w'.cell? ⟨g, j * 4, none⟩ = some (.string y.key) ∧ w'.cell? ⟨g, j * 4 + 1, none⟩ = some (.string y.val) ∧ w'.cell? ⟨g, j * 4 + 2, none⟩ = some (.int .i64 (y.site : Int)) ∧ w'.cell? ⟨g, j * 4 + 3, none⟩ = some (.int .i64 (y.count : Int))) (by kernel_rfl) ⟨q0, q1, q2, q3, q4, q5, q6, q7, q8, p8, c0, c1', c2, c3⟩ (fun hS => ?_)
              clear q0 q1 q2 q3 q4 q5 q6 q7 q8 p8 c0 c1' c2 c3
              refine wpAnyH_take (i := 0) (v := ?v2t0) rfl (by kernel_rfl) (by kernel_rfl) (by kernel_rfl) (fun _ _ _ h => h) (Or.inl ⟨by rfl, ?hy2t0⟩) hS ?rest2t0
              case hy2t0 => (intro w hSw; (try dsimp only at hSw); (first | (go_simp; done) | (go_simp; with_reducible rfl)))
              try simp only [Act.put, List.getElem_toArray, List.getElem_cons_succ, List.getElem_cons_zero, List.setIfInBounds_toArray, List.set_cons_zero, List.set_cons_succ]
              refine wpAnyH_take (i := 1) (v := ?v2t1) rfl (by kernel_rfl) (by kernel_rfl) (by kernel_rfl) (fun _ _ _ h => h) (Or.inl ⟨by rfl, ?hy2t1⟩) hS ?rest2t1
              case hy2t1 => (intro w hSw; (try dsimp only at hSw); (first | (go_simp; done) | (go_simp; with_reducible rfl)))
              try simp only [Act.put, List.getElem_toArray, List.getElem_cons_succ, List.getElem_cons_zero, List.setIfInBounds_toArray, List.set_cons_zero, List.set_cons_succ]
              refine wpAnyH_take (i := 2) (v := ?v2t2) rfl (by kernel_rfl) (by kernel_rfl) (by kernel_rfl) (fun _ _ _ h => h) (Or.inl ⟨by rfl, ?hy2t2⟩) hS ?rest2t2
              case hy2t2 => (intro w hSw; (try dsimp only at hSw); (first | (go_simp; done) | (go_simp; with_reducible rfl)))
              try simp only [Act.put, List.getElem_toArray, List.getElem_cons_succ, List.getElem_cons_zero, List.setIfInBounds_toArray, List.set_cons_zero, List.set_cons_succ]
              refine wpAnyH_take (i := 3) (v := ?v2t3) rfl (by kernel_rfl) (by kernel_rfl) (by kernel_rfl) (fun _ _ _ h => h) (Or.inl ⟨by rfl, ?hy2t3⟩) hS ?rest2t3
              case hy2t3 => (intro w hSw; (try dsimp only at hSw); (first | (go_simp; done) | (go_simp; with_reducible rfl)))
              try simp only [Act.put, List.getElem_toArray, List.getElem_cons_succ, List.getElem_cons_zero, List.setIfInBounds_toArray, List.set_cons_zero, List.set_cons_succ]
              refine wpAnyH_take (i := 4) (v := ?v2t4) rfl (by kernel_rfl) (by kernel_rfl) (by kernel_rfl) (fun _ _ _ h => h) (Or.inl ⟨by rfl, ?hy2t4⟩) hS ?rest2t4
              case hy2t4 => (intro w hSw; (try dsimp only at hSw); (first | (go_simp; done) | (go_simp; with_reducible rfl)))
              try simp only [Act.put, List.getElem_toArray, List.getElem_cons_succ, List.getElem_cons_zero, List.setIfInBounds_toArray, List.set_cons_zero, List.set_cons_succ]
              refine wpAnyH_take (i := 5) (v := ?v2t5) rfl (by kernel_rfl) (by kernel_rfl) (by kernel_rfl) (fun _ _ _ h => h) (Or.inl ⟨by rfl, ?hy2t5⟩) hS ?rest2t5
              case hy2t5 => (intro w hSw; (try dsimp only at hSw); (first | (go_simp; done) | (go_simp; with_reducible rfl)))
              try simp only [Act.put, List.getElem_toArray, List.getElem_cons_succ, List.getElem_cons_zero, List.setIfInBounds_toArray, List.set_cons_zero, List.set_cons_succ]
              refine wpAnyH_ready (rs := [6]) (by kernel_rfl) (by simp) ?_
              refine AllReadyH.cons rfl (fun K hK => ?_) AllReadyH.nil
              try go_simp
              go_at_call 33
              refine (HAS.out _ (drew_below wr)).mono ?_
              rintro e w1 ⟨rfl, hb1⟩
              obtain ⟨z0, z1, z2, z3, z4, z5, z6, z7, z8, z9, z10, z11, z12, z13⟩ := hS
              have B1 := Lib.hid ((drew_below wr).trans hb1)
              have x0 := cell_later hb1 z0
              have x1 := cell_later hb1 z1
              have x2 := cell_later hb1 z2
              have x3 := cell_later hb1 z3
              have x4 := cell_later hb1 z4
              have x5 := cell_later hb1 z5
              have x6 := cell_later hb1 z6
              have x7 := cell_later hb1 z7
              have x8 := cell_later hb1 z8
              have x9 := cell_later hb1 z9
              have x10 := cell_later hb1 z10
              have x11 := cell_later hb1 z11
              have x12 := cell_later hb1 z12
              have x13 := cell_later hb1 z13
              clear hb1 z0 z1 z2 z3 z4 z5 z6 z7 z8 z9 z10 z11 z12 z13
              refine hK.out _ _ ⟨x0, x1, x2, x3, x4, x5, x6, x7, x8, x9, x10, x11, x12, x13⟩ (fun hS => ?_)
              clear hK K
              try simp only [Act.put, List.getElem_toArray, List.getElem_cons_succ, List.getElem_cons_zero, List.setIfInBounds_toArray, List.set_cons_zero, List.set_cons_succ]
              clear x0 x1 x2 x3 x4 x5 x6 x7 x8 x9 x10 x11 x12 x13
              refine wpAnyH_take (i := 7) (v := ?v2t7) rfl (by kernel_rfl) (by kernel_rfl) (by kernel_rfl) (fun _ _ _ h => h) (Or.inl ⟨by rfl, ?hy2t7⟩) hS ?rest2t7
              case hy2t7 => (intro w hSw; (try dsimp only at hSw); (first | (go_simp; done) | (go_simp; with_reducible rfl)))
              try simp only [Act.put, List.getElem_toArray, List.getElem_cons_succ, List.getElem_cons_zero, List.setIfInBounds_toArray, List.set_cons_zero, List.set_cons_succ]
              refine wpAnyH_take (i := 8) (v := undef) rfl (by kernel_rfl) (by kernel_rfl) (by kernel_rfl) (fun _ _ _ h => h) (Or.inr ⟨by rfl, rfl⟩) hS ?_
              try simp only [Act.put, List.getElem_toArray, List.getElem_cons_succ, List.getElem_cons_zero, List.setIfInBounds_toArray, List.set_cons_zero, List.set_cons_succ]
              refine wpAnyH_take (i := 9) (v := undef) rfl (by kernel_rfl) (by kernel_rfl) (by kernel_rfl) (fun _ _ _ h => h) (Or.inr ⟨by rfl, rfl⟩) hS ?_
              try simp only [Act.put, List.getElem_toArray, List.getElem_cons_succ, List.getElem_cons_zero, List.setIfInBounds_toArray, List.set_cons_zero, List.set_cons_succ]
              refine wpAnyH_take (i := 10) (v := undef) rfl (by kernel_rfl) (by kernel_rfl) (by kernel_rfl) (fun _ _ _ h => h) (Or.inr ⟨by rfl, rfl⟩) hS ?_
              try simp only [Act.put, List.getElem_toArray, List.getElem_cons_succ, List.getElem_cons_zero, List.setIfInBounds_toArray, List.set_cons_zero, List.set_cons_succ]
              refine wpAnyH_take (i := 11) (v := undef) rfl (by kernel_rfl) (by kernel_rfl) (by kernel_rfl) (fun _ _ _ h => h) (Or.inr ⟨by rfl, rfl⟩) hS ?_
              try simp only [Act.put, List.getElem_toArray, List.getElem_cons_succ, List.getElem_cons_zero, List.setIfInBounds_toArray, List.set_cons_zero, List.set_cons_succ]
              refine wpAnyH_take (i := 12) (v := undef) rfl (by kernel_rfl) (by kernel_rfl) (by kernel_rfl) (fun _ _ _ h => h) (Or.inr ⟨by rfl, rfl⟩) hS ?_
              try simp only [Act.put, List.getElem_toArray, List.getElem_cons_succ, List.getElem_cons_zero, List.setIfInBounds_toArray, List.set_cons_zero, List.set_cons_succ]
              refine wpAnyH_take (i := 13) (v := undef) rfl (by kernel_rfl) (by kernel_rfl) (by kernel_rfl) (fun _ _ _ h => h) (Or.inr ⟨by rfl, rfl⟩) hS ?_
              try simp only [Act.put, List.getElem_toArray, List.getElem_cons_succ, List.getElem_cons_zero, List.setIfInBounds_toArray, List.set_cons_zero, List.set_cons_succ]
              refine wpAnyH_take (i := 14) (v := undef) rfl (by kernel_rfl) (by kernel_rfl) (by kernel_rfl) (fun _ _ _ h => h) (Or.inr ⟨by rfl, rfl⟩) hS ?_
              try simp only [Act.put, List.getElem_toArray, List.getElem_cons_succ, List.getElem_cons_zero, List.setIfInBounds_toArray, List.set_cons_zero, List.set_cons_succ]
              refine wpAnyH_take (i := 15) (v := undef) rfl (by kernel_rfl) (by kernel_rfl) (by kernel_rfl) (fun _ _ _ h => h) (Or.inr ⟨by rfl, rfl⟩) hS ?_
              try simp only [Act.put, List.getElem_toArray, List.getElem_cons_succ, List.getElem_cons_zero, List.setIfInBounds_toArray, List.set_cons_zero, List.set_cons_succ]
              refine wpAnyH_take (i := 16) (v := undef) rfl (by kernel_rfl) (by kernel_rfl) (by kernel_rfl) (fun _ _ _ h => h) (Or.inr ⟨by rfl, rfl⟩) hS ?_
              try simp only [Act.put, List.getElem_toArray, List.getElem_cons_succ, List.getElem_cons_zero, List.setIfInBounds_toArray, List.set_cons_zero, List.set_cons_succ]
              refine wpAnyH_take (i := 17) (v := ?v2t17) rfl (by kernel_rfl) (by kernel_rfl) (by kernel_rfl) (fun _ _ _ h => h) (Or.inl ⟨by rfl, ?hy2t17⟩) hS ?rest2t17
              case hy2t17 => (intro w hSw; (try dsimp only at hSw); (first | (go_simp; done) | (go_simp; with_reducible rfl)))
              try simp only [Act.put, List.getElem_toArray, List.getElem_cons_succ, List.getElem_cons_zero, List.setIfInBounds_toArray, List.set_cons_zero, List.set_cons_succ]
              refine wpAnyH_done (by kernel_rfl) ?_ _
              all_goals go_wp2_with fail
              all_goals go_meet
              all_goals exact ⟨rfl, B1⟩
          · obtain ⟨rfl, B1⟩ := hcut
            have TC := Lib.hid (HT.out.keep B1.out)
            have EC := Lib.hid (HE1.out.keep B1.out)
            have BD := Lib.hid (HBr.out.trans (B1.out.mono (by have := HBr.out.size; have := HVS.out; omega)))
            have k8 := (cell_nine TC.out).2.2.2.2.2.2.2.2
            have l8 := cell_later B1.out p8
            have d0 := cell_later B1.out c0
            have d1 := cell_later B1.out c1'
            have d2 := cell_later B1.out c2
            have d3 := cell_later B1.out c3
            clear c0 c1' c2 c3 p8 q0 q1 q2 q3 q4 q5 q6 q7 q8
            generalize hcd : (bh || !bs) = cd at HPY ⊢
            clear hcd
            cases cd with
            | true =>
              have PU : Hid (∀ w, Below wc.heap.size wc w → Calls Try.prog 35 #[.slice a1 n1 c1, .agg #[.string y.key, .string y.val, .int .i64 (y.site : Int), .int .i64 (y.count : Int)]] w fun e w' => ∃ ao' c', e = .returned (.slice ao' (n1 + 1) c') ∧ El w' ao' (n1 + 1) (insE (((xs.take j).filter P2).foldl insE []) y) ∧ n1 + 1 ≤ c' ∧ c' ≤ maxLen ∧ Below w.heap.size w w') := Lib.hid fun w hw => refput_any a1 n1 c1 _ y w (EC.out.keep hw) (by omega) HC1.out.1 (Nat.le_trans HC1.out.2 (by decide))
              go_upto_region 10 with fail
              refine wp_region_late (S := fun w' => w'.cell? ⟨W.heap.size + 1 + 1 + 1, 8, none⟩ = some (.slice a1 n1 c1) ∧ w'.cell? ⟨W.heap.size, 8, none⟩ = some (.slice (some ⟨g, 0, none⟩) n c) ∧ w'.cell? ⟨g, j * 4, none⟩ = some (.string y.key) ∧ w'.cell? ⟨g, j * 4 + 1, none⟩ = some (.string y.val) ∧ w'.cell? ⟨g, j * 4 + 2, none⟩ = some (.int .i64 (y.site : Int)) ∧ w'.cell? ⟨g, j * 4 + 3, none⟩ = some (.int .i64 (y.count : Int))) 9 (by kernel_rfl) ⟨k8, l8, d0, d1, d2, d3⟩ (fun hS => ?_)
              refine wpAnyT_take (i := 0) (v := ?vp20) rfl (by kernel_rfl) (by kernel_rfl) (by kernel_rfl) (by kernel_rfl) (fun _ _ _ h => h) (Or.inl ⟨by rfl, ?hyp20⟩) hS ?restp20
              case hyp20 => (intro w hSw; (try dsimp only at hSw); (first | (go_simp; done) | (go_simp; with_reducible rfl)))
              try simp only [Act.put, List.getElem_toArray, List.getElem_cons_succ, List.getElem_cons_zero, List.setIfInBounds_toArray, List.set_cons_zero, List.set_cons_succ]
              refine wpAnyT_take (i := 1) (v := ?vp21) rfl (by kernel_rfl) (by kernel_rfl) (by kernel_rfl) (by kernel_rfl) (fun _ _ _ h => h) (Or.inl ⟨by rfl, ?hyp21⟩) hS ?restp21
              case hyp21 => (intro w hSw; (try dsimp only at hSw); (first | (go_simp; done) | (go_simp; with_reducible rfl)))
              try simp only [Act.put, List.getElem_toArray, List.getElem_cons_succ, List.getElem_cons_zero, List.setIfInBounds_toArray, List.set_cons_zero, List.set_cons_succ]
              refine wpAnyT_take (i := 2) (v := ?vp22) rfl (by kernel_rfl) (by kernel_rfl) (by kernel_rfl) (by kernel_rfl) (fun _ _ _ h => h) (Or.inl ⟨by rfl, ?hyp22⟩) hS ?restp22
              case hyp22 => (intro w hSw; (try dsimp only at hSw); (first | (go_simp; done) | (go_simp; with_reducible rfl)))
              try simp only [Act.put, List.getElem_toArray, List.getElem_cons_succ, List.getElem_cons_zero, List.setIfInBounds_toArray, List.set_cons_zero, List.set_cons_succ]
              refine wpAnyT_take (i := 3) (v := ?vp23) rfl (by kernel_rfl) (by kernel_rfl) (by kernel_rfl) (by kernel_rfl) (fun _ _ _ h => h) (Or.inl ⟨by rfl, ?hyp23⟩) hS ?restp23
              case hyp23 => (intro w hSw; (try dsimp only at hSw); (first | (go_simp; done) | (go_simp; with_reducible rfl)))
              try simp only [Act.put, List.getElem_toArray, List.getElem_cons_succ, List.getElem_cons_zero, List.setIfInBounds_toArray, List.set_cons_zero, List.set_cons_succ]
              refine wpAnyT_take (i := 4) (v := ?vp24) rfl (by kernel_rfl) (by kernel_rfl) (by kernel_rfl) (by kernel_rfl) (fun _ _ _ h => h) (Or.inl ⟨by rfl, ?hyp24⟩) hS ?restp24
              case hyp24 => (intro w hSw; (try dsimp only at hSw); (first | (go_simp; done) | (go_simp; with_reducible rfl)))
              try simp only [Act.put, List.getElem_toArray, List.getElem_cons_succ, List.getElem_cons_zero, List.setIfInBounds_toArray, List.set_cons_zero, List.set_cons_succ]
              refine wpAnyT_take (i := 5) (v := ?vp25) rfl (by kernel_rfl) (by kernel_rfl) (by kernel_rfl) (by kernel_rfl) (fun _ _ _ h => h) (Or.inl ⟨by rfl, ?hyp25⟩) hS ?restp25
              case hyp25 => (intro w hSw; (try dsimp only at hSw); (first | (go_simp; done) | (go_simp; with_reducible rfl)))
              try simp only [Act.put, List.getElem_toArray, List.getElem_cons_succ, List.getElem_cons_zero, List.setIfInBounds_toArray, List.set_cons_zero, List.set_cons_succ]
              refine wpAnyT_take (i := 6) (v := ?vp26) rfl (by kernel_rfl) (by kernel_rfl) (by kernel_rfl) (by kernel_rfl) (fun _ _ _ h => h) (Or.inl ⟨by rfl, ?hyp26⟩) hS ?restp26
              case hyp26 => (intro w hSw; (try dsimp only at hSw); (first | (go_simp; done) | (go_simp; with_reducible rfl)))
              try simp only [Act.put, List.getElem_toArray, List.getElem_cons_succ, List.getElem_cons_zero, List.setIfInBounds_toArray, List.set_cons_zero, List.set_cons_succ]
              refine wpAnyT_step 7 rfl (by kernel_rfl) (by decide) (fun K hK => ?_)
              try go_simp
              go_at_call 35
              refine (PU.out wc.drew (drew_below wc)).mono ?_
              rintro e w6 ⟨a6, c6, rfl, hel6, h61, h62, hb6⟩
              have B6 := Lib.hid ((drew_below wc).trans hb6)
              have E6 := Lib.hid hel6
              have H6 := Lib.hid (And.intro h61 h62)
              have m8 := cell_later B6.out k8
              have o8 := cell_later B6.out l8
              have b0 := cell_later B6.out d0
              have b1 := cell_later B6.out d1
              have b2 := cell_later B6.out d2
              have b3 := cell_later B6.out d3
              have T6 := Lib.hid (TC.out.keep B6.out)
              have f8 := free_nine T6.out 8
              clear hel6 h61 h62 hb6
              refine hK.out _ _ ⟨m8, o8, b0, b1, b2, b3⟩ (fun hS => ?_)
              clear hK K
              try simp only [Act.put, List.setIfInBounds_toArray, List.set_cons_zero, List.set_cons_succ]
              refine wpAnyT_take (i := 8) (v := ?vp28) rfl (by kernel_rfl) (by kernel_rfl) (by kernel_rfl) (by kernel_rfl) (fun _ _ _ h => h) (Or.inl ⟨by rfl, ?hyp28⟩) hS ?restp28
              case hyp28 => (intro w hSw; (try dsimp only at hSw); (first | (go_simp; done) | (go_simp; with_reducible rfl)))
              try simp only [Act.put, List.getElem_toArray, List.getElem_cons_succ, List.getElem_cons_zero, List.setIfInBounds_toArray, List.set_cons_zero, List.set_cons_succ]
              refine wpAnyT_last rfl (by kernel_rfl) (by kernel_rfl) (fun K hK => ?_)
              go_simp
              refine hK.out _ _ ?_
              clear hK K
              all_goals go_wp2_with fail
              all_goals go_roundg (n - (j + 1))
              all_goals first
                | omega
                | exact ⟨j + 1, a6, n1 + 1, c6, by go_num, by omega, Nat.le_refl _, by omega, Lib.hid T6.out.slice, Lib.hid (by rw [HFT.out, HPY.out]; exact El.only E6.out (cell_nine T6.out).1 (fun b q hb => only_set b q hb) (by simp)), H6, Lib.hid ((BD.out.trans (B6.out.mono (by have := BD.out.size; have := HVS.out; omega))).setCell (p := ⟨W.heap.size + 1 + 1 + 1, 8, none⟩) (Nat.le_refl _) _)⟩
            | false =>
              go_wp2
              go_roundg (n - (j + 1))
              case measure => omega
              case rel => exact ⟨j + 1, a1, n1, c1, by go_num, by omega, Nat.le_refl _, by omega, TC, Lib.hid (by rw [HFT.out, HPY.out]; exact EC.out), HC1, BD⟩
        · have ejn : n = j := by omega
          subst ejn
          have hltz : ¬ (n : Int) < (n : Int) := by omega
          rw [List.take_of_length_le (by rw [HNA.out]; exact Nat.le_refl _)] at HE1
          have HT2 := HT
          have HE2 := HE1
          have HC2 := HC1
          have HB2 := HBr
          go_wp2
          clear HT HE1 HC1 HBr BW p0 p1 p2 p3 p4 p5 p6 p7 p8
          go_loopg [8] n' (fun gg si wr => ∃ (j : Nat) (a1 : Option Addr) (n1 c1 : Nat), si = .int .i64 (j : Int) ∧ j ≤ n' ∧ n' - j ≤ gg ∧ n1 ≤ n + j ∧ Hid (RTab wr (W.heap.size + 1 + 1 + 1) M (.slice a1 n1 c1)) ∧ Hid (El wr a1 n1 (((ys.take j).filter P3).foldl insE ((xs.filter P2).foldl insE []))) ∧ Hid (n1 ≤ c1 ∧ c1 ≤ maxLen) ∧ Hid (Below (W.heap.size + 1 + 1 + 1) V wr))
          case atStart => exact ⟨0, _, _, _, rfl, Nat.zero_le _, by omega, by omega, HT2, HE2, HC2, HB2⟩
          case round =>
            obtain ⟨j, a1, n1, c1, rfl, hj, hgg, hn1, HT, HE1, HC1, HBr⟩ := hrel
            have j0 : (0 : Int) ≤ (j : Int) := by omega
            have BW := Lib.hid (HB.out.trans (HBr.out.mono (show W.heap.size ≤ W.heap.size + 1 + 1 + 1 by omega)))
            obtain ⟨p0, p1, p2, p3, p4, p5, p6, p7, p8⟩ := cell_nine (TB.out.later HBr.out (by omega))
            by_cases hlt : j < n'
            · have hltz : (j : Int) < (n' : Int) := by omega
              obtain ⟨g, hg, hc⟩ : ∃ g, ao' = some ⟨g, 0, none⟩ ∧ At4 wr g (j * 4) ys[j]! := by
                have he := HEB.out.keep BW.out
                rcases he.2 with ⟨_, h0⟩ | ⟨g, hg, hr⟩
                · omega
                · exact ⟨g, hg, hr.2 j (by rw [HNB.out]; exact hlt)⟩
              have HFT : Hid (((ys.take (j + 1)).filter P3).foldl insE ((xs.filter P2).foldl insE []) = if P3 ys[j]! then insE (((ys.take j).filter P3).foldl insE ((xs.filter P2).foldl insE [])) ys[j]! else ((ys.take j).filter P3).foldl insE ((xs.filter P2).foldl insE [])) := Lib.hid (fold_take (by rw [HNB.out]; exact hlt))
              obtain ⟨y, hy⟩ : ∃ y, y = ys[j]! := ⟨_, rfl⟩
              rw [← hy] at hc HFT
              clear hy
              obtain ⟨c0, c1', c2, c3⟩ := hc
              have HAS : Hid (∀ w, Below wr.heap.size wr w → Calls Try.prog 33 #[.agg #[.int .i64 (s 0 : Int), .int .i64 (s 1 : Int), .int .i64 (s 2 : Int), .int .i64 (s 3 : Int), .int .i64 (s 4 : Int), .int .i64 (s 5 : Int), .int .i64 (s 6 : Int), .int .i64 (s 7 : Int), .slice ao n c], .agg #[.string y.key, .string y.val, .int .i64 (y.site : Int), .int .i64 (y.count : Int)]] w fun e w' => e = .returned (.bool (hasE xs y)) ∧ Below w.heap.size w w') := Lib.hid fun w hw => by have k := refhas_any s ao n c xs y w ((HEA.out.keep BW.out).keep hw) (by omega); exact k
              have SAW : Hid (∀ w, Calls Try.prog 34 #[.agg #[.int .i64 (s 0 : Int), .int .i64 (s 1 : Int), .int .i64 (s 2 : Int), .int .i64 (s 3 : Int), .int .i64 (s 4 : Int), .int .i64 (s 5 : Int), .int .i64 (s 6 : Int), .int .i64 (s 7 : Int), .slice ao n c], .agg #[.int .i64 (y.site : Int), .int .i64 (y.count : Int)]] w fun e w' => e = .returned (.bool (saw s y)) ∧ Below w.heap.size w w') := Lib.hid fun w => refsaw_any s (.slice ao n c) rfl y w
              obtain ⟨q0, q1, q2, q3, q4, q5, q6, q7, q8⟩ := cell_nine (TA.out.later HBr.out (by omega))
              have HPY : Hid (P3 y = (!(hasE xs y) && !(saw s y))) := Lib.hid (by rw [HP3.out])
              subst hg
              generalize hbh : hasE xs y = bh at HAS HPY
              generalize hbs : saw s y = bs at SAW HPY
              clear hbh hbs
              clear p0 p1 p2 p3 p4 p5 p6 p7
              go_upto_region 14 with fail
              go_cut [84] (fun v wx => v = .bool (!bh && !bs) ∧ Hid (Below wr.heap.size wr wx))
              · cases bh
                · cases bs
                  · refine wp_region_held_drew (S := fun w' => w'.cell? ⟨W.heap.size, 0, none⟩ = some (.int .i64 (s 0 : Int)) ∧ w'.cell? ⟨W.heap.size, 1, none⟩ = some (.int .i64 (s 1 : Int)) ∧ w'.cell? ⟨W.heap.size, 2, none⟩ = some (.int .i64 (s 2 : Int)) ∧ w'.cell? ⟨W.heap.size, 3, none⟩ = some (.int .i64 (s 3 : Int)) ∧ w'.cell? ⟨W.heap.size, 4, none⟩ = some (.int .i64 (s 4 : Int)) ∧ w'.cell? ⟨W.heap.size, 5, none⟩ = some (.int .i64 (s 5 : Int)) ∧ w'.cell? ⟨W.heap.size, 6, none⟩ = some (.int .i64 (s 6 : Int)) ∧ w'.cell? ⟨W.heap.size, 7, none⟩ = some (.int .i64 (s 7 : Int)) ∧ w'.cell? ⟨W.heap.size, 8, none⟩ = some (.slice ao n c) ∧ w'.cell? ⟨W.heap.size + 1, 8, none⟩ = some (.slice (some ⟨g, 0, none⟩) n' c') ∧ w'.cell? ⟨g, j * 4, none⟩ = some (.string y.key) ∧ w'.cell? ⟨g, j * 4 + 1, none⟩ = some (.string y.val) ∧ w'.cell? ⟨g, j * 4 + 2, none⟩ = some (.int .i64 (y.site : Int)) ∧ w'.cell? ⟨g, j * 4 + 3, none⟩ = some (.int .i64 (y.count : Int))) (by kernel_rfl) ⟨q0, q1, q2, q3, q4, q5, q6, q7, q8, p8, c0, c1', c2, c3⟩ (fun hS => ?_)
                    clear q0 q1 q2 q3 q4 q5 q6 q7 q8 p8 c0 c1' c2 c3
                    refine wpAnyH_take (i := 0) (v := ?v3ff0) rfl (by kernel_rfl) (by kernel_rfl) (by kernel_rfl) (fun _ _ _ h => h) (Or.inl ⟨by rfl, ?hy3ff0⟩) hS ?rest3ff0
                    case hy3ff0 => (intro w hSw; (try dsimp only at hSw); (first | (go_simp; done) | (go_simp; with_reducible rfl)))
                    try simp only [Act.put, List.getElem_toArray, List.getElem_cons_succ, List.getElem_cons_zero, List.setIfInBounds_toArray, List.set_cons_zero, List.set_cons_succ]
                    refine wpAnyH_take (i := 1) (v := ?v3ff1) rfl (by kernel_rfl) (by kernel_rfl) (by kernel_rfl) (fun _ _ _ h => h) (Or.inl ⟨by rfl, ?hy3ff1⟩) hS ?rest3ff1
                    case hy3ff1 => (intro w hSw; (try dsimp only at hSw); (first | (go_simp; done) | (go_simp; with_reducible rfl)))
                    try simp only [Act.put, List.getElem_toArray, List.getElem_cons_succ, List.getElem_cons_zero, List.setIfInBounds_toArray, List.set_cons_zero, List.set_cons_succ]
                    refine wpAnyH_take (i := 2) (v := ?v3ff2) rfl (by kernel_rfl) (by kernel_rfl) (by kernel_rfl) (fun _ _ _ h => h) (Or.inl ⟨by rfl, ?hy3ff2⟩) hS ?rest3ff2
                    case hy3ff2 => (intro w hSw; (try dsimp only at hSw); (first | (go_simp; done) | (go_simp; with_reducible rfl)))
                    try simp only [Act.put, List.getElem_toArray, List.getElem_cons_succ, List.getElem_cons_zero, List.setIfInBounds_toArray, List.set_cons_zero, List.set_cons_succ]
                    refine wpAnyH_take (i := 3) (v := ?v3ff3) rfl (by kernel_rfl) (by kernel_rfl) (by kernel_rfl) (fun _ _ _ h => h) (Or.inl ⟨by rfl, ?hy3ff3⟩) hS ?rest3ff3
                    case hy3ff3 => (intro w hSw; (try dsimp only at hSw); (first | (go_simp; done) | (go_simp; with_reducible rfl)))
                    try simp only [Act.put, List.getElem_toArray, List.getElem_cons_succ, List.getElem_cons_zero, List.setIfInBounds_toArray, List.set_cons_zero, List.set_cons_succ]
                    refine wpAnyH_take (i := 4) (v := ?v3ff4) rfl (by kernel_rfl) (by kernel_rfl) (by kernel_rfl) (fun _ _ _ h => h) (Or.inl ⟨by rfl, ?hy3ff4⟩) hS ?rest3ff4
                    case hy3ff4 => (intro w hSw; (try dsimp only at hSw); (first | (go_simp; done) | (go_simp; with_reducible rfl)))
                    try simp only [Act.put, List.getElem_toArray, List.getElem_cons_succ, List.getElem_cons_zero, List.setIfInBounds_toArray, List.set_cons_zero, List.set_cons_succ]
                    refine wpAnyH_take (i := 5) (v := ?v3ff5) rfl (by kernel_rfl) (by kernel_rfl) (by kernel_rfl) (fun _ _ _ h => h) (Or.inl ⟨by rfl, ?hy3ff5⟩) hS ?rest3ff5
                    case hy3ff5 => (intro w hSw; (try dsimp only at hSw); (first | (go_simp; done) | (go_simp; with_reducible rfl)))
                    try simp only [Act.put, List.getElem_toArray, List.getElem_cons_succ, List.getElem_cons_zero, List.setIfInBounds_toArray, List.set_cons_zero, List.set_cons_succ]
                    refine wpAnyH_ready (rs := [6]) (by kernel_rfl) (by simp) ?_
                    refine AllReadyH.cons rfl (fun K hK => ?_) AllReadyH.nil
                    try go_simp
                    go_at_call 33
                    refine (HAS.out _ (drew_below wr)).mono ?_
                    rintro e w1 ⟨rfl, hb1⟩
                    obtain ⟨z0, z1, z2, z3, z4, z5, z6, z7, z8, z9, z10, z11, z12, z13⟩ := hS
                    have B1 := Lib.hid ((drew_below wr).trans hb1)
                    have x0 := cell_later hb1 z0
                    have x1 := cell_later hb1 z1
                    have x2 := cell_later hb1 z2
                    have x3 := cell_later hb1 z3
                    have x4 := cell_later hb1 z4
                    have x5 := cell_later hb1 z5
                    have x6 := cell_later hb1 z6
                    have x7 := cell_later hb1 z7
                    have x8 := cell_later hb1 z8
                    have x9 := cell_later hb1 z9
                    have x10 := cell_later hb1 z10
                    have x11 := cell_later hb1 z11
                    have x12 := cell_later hb1 z12
                    have x13 := cell_later hb1 z13
                    clear hb1 z0 z1 z2 z3 z4 z5 z6 z7 z8 z9 z10 z11 z12 z13
                    refine hK.out _ _ ⟨x0, x1, x2, x3, x4, x5, x6, x7, x8, x9, x10, x11, x12, x13⟩ (fun hS => ?_)
                    clear hK K
                    try simp only [Act.put, List.getElem_toArray, List.getElem_cons_succ, List.getElem_cons_zero, List.setIfInBounds_toArray, List.set_cons_zero, List.set_cons_succ]
                    clear x0 x1 x2 x3 x4 x5 x6 x7 x8 x9 x10 x11 x12 x13
                    refine wpAnyH_take (i := 7) (v := ?v3ff7) rfl (by kernel_rfl) (by kernel_rfl) (by kernel_rfl) (fun _ _ _ h => h) (Or.inl ⟨by rfl, ?hy3ff7⟩) hS ?rest3ff7
                    case hy3ff7 => (intro w hSw; (try dsimp only at hSw); (first | (go_simp; done) | (go_simp; with_reducible rfl)))
                    try simp only [Act.put, List.getElem_toArray, List.getElem_cons_succ, List.getElem_cons_zero, List.setIfInBounds_toArray, List.set_cons_zero, List.set_cons_succ]
                    refine wpAnyH_take (i := 8) (v := ?v3ff8) rfl (by kernel_rfl) (by kernel_rfl) (by kernel_rfl) (fun _ _ _ h => h) (Or.inl ⟨by rfl, ?hy3ff8⟩) hS ?rest3ff8
                    case hy3ff8 => (intro w hSw; (try dsimp only at hSw); (first | (go_simp; done) | (go_simp; with_reducible rfl)))
                    try simp only [Act.put, List.getElem_toArray, List.getElem_cons_succ, List.getElem_cons_zero, List.setIfInBounds_toArray, List.set_cons_zero, List.set_cons_succ]
                    refine wpAnyH_take (i := 9) (v := ?v3ff9) rfl (by kernel_rfl) (by kernel_rfl) (by kernel_rfl) (fun _ _ _ h => h) (Or.inl ⟨by rfl, ?hy3ff9⟩) hS ?rest3ff9
                    case hy3ff9 => (intro w hSw; (try dsimp only at hSw); (first | (go_simp; done) | (go_simp; with_reducible rfl)))
                    try simp only [Act.put, List.getElem_toArray, List.getElem_cons_succ, List.getElem_cons_zero, List.setIfInBounds_toArray, List.set_cons_zero, List.set_cons_succ]
                    refine wpAnyH_take (i := 10) (v := ?v3ff10) rfl (by kernel_rfl) (by kernel_rfl) (by kernel_rfl) (fun _ _ _ h => h) (Or.inl ⟨by rfl, ?hy3ff10⟩) hS ?rest3ff10
                    case hy3ff10 => (intro w hSw; (try dsimp only at hSw); (first | (go_simp; done) | (go_simp; with_reducible rfl)))
                    try simp only [Act.put, List.getElem_toArray, List.getElem_cons_succ, List.getElem_cons_zero, List.setIfInBounds_toArray, List.set_cons_zero, List.set_cons_succ]
                    refine wpAnyH_take (i := 11) (v := ?v3ff11) rfl (by kernel_rfl) (by kernel_rfl) (by kernel_rfl) (fun _ _ _ h => h) (Or.inl ⟨by rfl, ?hy3ff11⟩) hS ?rest3ff11
                    case hy3ff11 => (intro w hSw; (try dsimp only at hSw); (first | (go_simp; done) | (go_simp; with_reducible rfl)))
                    try simp only [Act.put, List.getElem_toArray, List.getElem_cons_succ, List.getElem_cons_zero, List.setIfInBounds_toArray, List.set_cons_zero, List.set_cons_succ]
                    refine wpAnyH_take (i := 12) (v := ?v3ff12) rfl (by kernel_rfl) (by kernel_rfl) (by kernel_rfl) (fun _ _ _ h => h) (Or.inl ⟨by rfl, ?hy3ff12⟩) hS ?rest3ff12
                    case hy3ff12 => (intro w hSw; (try dsimp only at hSw); (first | (go_simp; done) | (go_simp; with_reducible rfl)))
                    try simp only [Act.put, List.getElem_toArray, List.getElem_cons_succ, List.getElem_cons_zero, List.setIfInBounds_toArray, List.set_cons_zero, List.set_cons_succ]
                    refine wpAnyH_take (i := 13) (v := ?v3ff13) rfl (by kernel_rfl) (by kernel_rfl) (by kernel_rfl) (fun _ _ _ h => h) (Or.inl ⟨by rfl, ?hy3ff13⟩) hS ?rest3ff13
                    case hy3ff13 => (intro w hSw; (try dsimp only at hSw); (first | (go_simp; done) | (go_simp; with_reducible rfl)))
                    try simp only [Act.put, List.getElem_toArray, List.getElem_cons_succ, List.getElem_cons_zero, List.setIfInBounds_toArray, List.set_cons_zero, List.set_cons_succ]
                    refine wpAnyH_take (i := 14) (v := ?v3ff14) rfl (by kernel_rfl) (by kernel_rfl) (by kernel_rfl) (fun _ _ _ h => h) (Or.inl ⟨by rfl, ?hy3ff14⟩) hS ?rest3ff14
                    case hy3ff14 => (intro w hSw; (try dsimp only at hSw); (first | (go_simp; done) | (go_simp; with_reducible rfl)))
                    try simp only [Act.put, List.getElem_toArray, List.getElem_cons_succ, List.getElem_cons_zero, List.setIfInBounds_toArray, List.set_cons_zero, List.set_cons_succ]
                    refine wpAnyH_take (i := 15) (v := ?v3ff15) rfl (by kernel_rfl) (by kernel_rfl) (by kernel_rfl) (fun _ _ _ h => h) (Or.inl ⟨by rfl, ?hy3ff15⟩) hS ?rest3ff15
                    case hy3ff15 => (intro w hSw; (try dsimp only at hSw); (first | (go_simp; done) | (go_simp; with_reducible rfl)))
                    try simp only [Act.put, List.getElem_toArray, List.getElem_cons_succ, List.getElem_cons_zero, List.setIfInBounds_toArray, List.set_cons_zero, List.set_cons_succ]
                    refine wpAnyH_ready (rs := [16]) (by kernel_rfl) (by simp) ?_
                    refine AllReadyH.cons rfl (fun K hK => ?_) AllReadyH.nil
                    try go_simp
                    go_at_call 34
                    refine (SAW.out _).mono ?_
                    rintro e w1 ⟨rfl, hb1⟩
                    obtain ⟨z0, z1, z2, z3, z4, z5, z6, z7, z8, z9, z10, z11, z12, z13⟩ := hS
                    replace B1 := Lib.hid (below_then B1.out hb1)
                    have x0 := cell_later hb1 z0
                    have x1 := cell_later hb1 z1
                    have x2 := cell_later hb1 z2
                    have x3 := cell_later hb1 z3
                    have x4 := cell_later hb1 z4
                    have x5 := cell_later hb1 z5
                    have x6 := cell_later hb1 z6
                    have x7 := cell_later hb1 z7
                    have x8 := cell_later hb1 z8
                    have x9 := cell_later hb1 z9
                    have x10 := cell_later hb1 z10
                    have x11 := cell_later hb1 z11
                    have x12 := cell_later hb1 z12
                    have x13 := cell_later hb1 z13
                    clear hb1 z0 z1 z2 z3 z4 z5 z6 z7 z8 z9 z10 z11 z12 z13
                    refine hK.out _ _ ⟨x0, x1, x2, x3, x4, x5, x6, x7, x8, x9, x10, x11, x12, x13⟩ (fun hS => ?_)
                    clear hK K
                    try simp only [Act.put, List.getElem_toArray, List.getElem_cons_succ, List.getElem_cons_zero, List.setIfInBounds_toArray, List.set_cons_zero, List.set_cons_succ]
                    clear x0 x1 x2 x3 x4 x5 x6 x7 x8 x9 x10 x11 x12 x13
                    refine wpAnyH_take (i := 17) (v := ?v3ff17) rfl (by kernel_rfl) (by kernel_rfl) (by kernel_rfl) (fun _ _ _ h => h) (Or.inl ⟨by rfl, ?hy3ff17⟩) hS ?rest3ff17
                    case hy3ff17 => (intro w hSw; (try dsimp only at hSw); (first | (go_simp; done) | (go_simp; with_reducible rfl)))
                    try simp only [Act.put, List.getElem_toArray, List.getElem_cons_succ, List.getElem_cons_zero, List.setIfInBounds_toArray, List.set_cons_zero, List.set_cons_succ]
                    refine wpAnyH_take (i := 18) (v := ?v3ff18) rfl (by kernel_rfl) (by kernel_rfl) (by kernel_rfl) (fun _ _ _ h => h) (Or.inl ⟨by rfl, ?hy3ff18⟩) hS ?rest3ff18
                    case hy3ff18 => (intro w hSw; (try dsimp only at hSw); (first | (go_simp; done) | (go_simp; with_reducible rfl)))
                    try simp only [Act.put, List.getElem_toArray, List.getElem_cons_succ, List.getElem_cons_zero, List.setIfInBounds_toArray, List.set_cons_zero, List.set_cons_succ]
                    refine wpAnyH_done (by kernel_rfl) ?_ _
                    all_goals go_wp2_with fail
                    all_goals go_meet
                    all_goals exact ⟨rfl, B1⟩
                  · refine wp_region_held_drew (S := fun w' => w'.cell? ⟨W.heap.size, 0, none⟩ = some (.int .i64 (s 0 : Int)) ∧ w'.cell? ⟨W.heap.size, 1, none⟩ = some (.int .i64 (s 1 : Int)) ∧ w'.cell? ⟨W.heap.size, 2, none⟩ = some (.int .i64 (s 2 : Int)) ∧ w'.cell? ⟨W.heap.size, 3, none⟩ = some (.int .i64 (s 3 : Int)) ∧ w'.cell? ⟨W.heap.size, 4, none⟩ = some (.int .i64 (s 4 : Int)) ∧ w'.cell? ⟨W.heap.size, 5, none⟩ = some (.int .i64 (s 5 : Int)) ∧ w'.cell? ⟨W.heap.size, 6, none⟩ = some (.int .i64 (s 6 : Int)) ∧ w'.cell? ⟨W.heap.size, 7, none⟩ = some (.int .i64 (s 7 : Int)) ∧ w'.cell? ⟨W.heap.size, 8, none⟩ = some (.slice ao n c) ∧ w'.cell? ⟨W.heap.size + 1, 8, none⟩ = some (.slice (some ⟨g, 0, none⟩) n' c') ∧ w'.cell? ⟨g, j * 4, none⟩ = some (.string y.key) ∧ w'.cell? ⟨g, j * 4 + 1, none⟩ = some (.string y.val) ∧ w'.cell? ⟨g, j * 4 + 2, none⟩ = some (.int .i64 (y.site : Int)) ∧ w'.cell? ⟨g, j * 4 + 3, none⟩ = some (.int .i64 (y.count : Int))) (by kernel_rfl) ⟨q0, q1, q2, q3, q4, q5, q6, q7, q8, p8, c0, c1', c2, c3⟩ (fun hS => ?_)
                    clear q0 q1 q2 q3 q4 q5 q6 q7 q8 p8 c0 c1' c2 c3
                    refine wpAnyH_take (i := 0) (v := ?v3ft0) rfl (by kernel_rfl) (by kernel_rfl) (by kernel_rfl) (fun _ _ _ h => h) (Or.inl ⟨by rfl, ?hy3ft0⟩) hS ?rest3ft0
                    case hy3ft0 => (intro w hSw; (try dsimp only at hSw); (first | (go_simp; done) | (go_simp; with_reducible rfl)))
                    try simp only [Act.put, List.getElem_toArray, List.getElem_cons_succ, List.getElem_cons_zero, List.setIfInBounds_toArray, List.set_cons_zero, List.set_cons_succ]
                    refine wpAnyH_take (i := 1) (v := ?v3ft1) rfl (by kernel_rfl) (by kernel_rfl) (by kernel_rfl) (fun _ _ _ h => h) (Or.inl ⟨by rfl, ?hy3ft1⟩) hS ?rest3ft1
                    case hy3ft1 => (intro w hSw; (try dsimp only at hSw); (first | (go_simp; done) | (go_simp; with_reducible rfl)))
                    try simp only [Act.put, List.getElem_toArray, List.getElem_cons_succ, List.getElem_cons_zero, List.setIfInBounds_toArray, List.set_cons_zero, List.set_cons_succ]
                    refine wpAnyH_take (i := 2) (v := ?v3ft2) rfl (by kernel_rfl) (by kernel_rfl) (by kernel_rfl) (fun _ _ _ h => h) (Or.inl ⟨by rfl, ?hy3ft2⟩) hS ?rest3ft2
                    case hy3ft2 => (intro w hSw; (try dsimp only at hSw); (first | (go_simp; done) | (go_simp; with_reducible rfl)))
                    try simp only [Act.put, List.getElem_toArray, List.getElem_cons_succ, List.getElem_cons_zero, List.setIfInBounds_toArray, List.set_cons_zero, List.set_cons_succ]
                    refine wpAnyH_take (i := 3) (v := ?v3ft3) rfl (by kernel_rfl) (by kernel_rfl) (by kernel_rfl) (fun _ _ _ h => h) (Or.inl ⟨by rfl, ?hy3ft3⟩) hS ?rest3ft3
                    case hy3ft3 => (intro w hSw; (try dsimp only at hSw); (first | (go_simp; done) | (go_simp; with_reducible rfl)))
                    try simp only [Act.put, List.getElem_toArray, List.getElem_cons_succ, List.getElem_cons_zero, List.setIfInBounds_toArray, List.set_cons_zero, List.set_cons_succ]
                    refine wpAnyH_take (i := 4) (v := ?v3ft4) rfl (by kernel_rfl) (by kernel_rfl) (by kernel_rfl) (fun _ _ _ h => h) (Or.inl ⟨by rfl, ?hy3ft4⟩) hS ?rest3ft4
                    case hy3ft4 => (intro w hSw; (try dsimp only at hSw); (first | (go_simp; done) | (go_simp; with_reducible rfl)))
                    try simp only [Act.put, List.getElem_toArray, List.getElem_cons_succ, List.getElem_cons_zero, List.setIfInBounds_toArray, List.set_cons_zero, List.set_cons_succ]
                    refine wpAnyH_take (i := 5) (v := ?v3ft5) rfl (by kernel_rfl) (by kernel_rfl) (by kernel_rfl) (fun _ _ _ h => h) (Or.inl ⟨by rfl, ?hy3ft5⟩) hS ?rest3ft5
                    case hy3ft5 => (intro w hSw; (try dsimp only at hSw); (first | (go_simp; done) | (go_simp; with_reducible rfl)))
                    try simp only [Act.put, List.getElem_toArray, List.getElem_cons_succ, List.getElem_cons_zero, List.setIfInBounds_toArray, List.set_cons_zero, List.set_cons_succ]
                    refine wpAnyH_ready (rs := [6]) (by kernel_rfl) (by simp) ?_
                    refine AllReadyH.cons rfl (fun K hK => ?_) AllReadyH.nil
                    try go_simp
                    go_at_call 33
                    refine (HAS.out _ (drew_below wr)).mono ?_
                    rintro e w1 ⟨rfl, hb1⟩
                    obtain ⟨z0, z1, z2, z3, z4, z5, z6, z7, z8, z9, z10, z11, z12, z13⟩ := hS
                    have B1 := Lib.hid ((drew_below wr).trans hb1)
                    have x0 := cell_later hb1 z0
                    have x1 := cell_later hb1 z1
                    have x2 := cell_later hb1 z2
                    have x3 := cell_later hb1 z3
                    have x4 := cell_later hb1 z4
                    have x5 := cell_later hb1 z5
                    have x6 := cell_later hb1 z6
                    have x7 := cell_later hb1 z7
                    have x8 := cell_later hb1 z8
                    have x9 := cell_later hb1 z9
                    have x10 := cell_later hb1 z10
                    have x11 := cell_later hb1 z11
                    have x12 := cell_later hb1 z12
                    have x13 := cell_later hb1 z13
                    clear hb1 z0 z1 z2 z3 z4 z5 z6 z7 z8 z9 z10 z11 z12 z13
                    refine hK.out _ _ ⟨x0, x1, x2, x3, x4, x5, x6, x7, x8, x9, x10, x11, x12, x13⟩ (fun hS => ?_)
                    clear hK K
                    try simp only [Act.put, List.getElem_toArray, List.getElem_cons_succ, List.getElem_cons_zero, List.setIfInBounds_toArray, List.set_cons_zero, List.set_cons_succ]
                    clear x0 x1 x2 x3 x4 x5 x6 x7 x8 x9 x10 x11 x12 x13
                    refine wpAnyH_take (i := 7) (v := ?v3ft7) rfl (by kernel_rfl) (by kernel_rfl) (by kernel_rfl) (fun _ _ _ h => h) (Or.inl ⟨by rfl, ?hy3ft7⟩) hS ?rest3ft7
                    case hy3ft7 => (intro w hSw; (try dsimp only at hSw); (first | (go_simp; done) | (go_simp; with_reducible rfl)))
                    try simp only [Act.put, List.getElem_toArray, List.getElem_cons_succ, List.getElem_cons_zero, List.setIfInBounds_toArray, List.set_cons_zero, List.set_cons_succ]
                    refine wpAnyH_take (i := 8) (v := ?v3ft8) rfl (by kernel_rfl) (by kernel_rfl) (by kernel_rfl) (fun _ _ _ h => h) (Or.inl ⟨by rfl, ?hy3ft8⟩) hS ?rest3ft8
                    case hy3ft8 => (intro w hSw; (try dsimp only at hSw); (first | (go_simp; done) | (go_simp; with_reducible rfl)))
                    try simp only [Act.put, List.getElem_toArray, List.getElem_cons_succ, List.getElem_cons_zero, List.setIfInBounds_toArray, List.set_cons_zero, List.set_cons_succ]
                    refine wpAnyH_take (i := 9) (v := ?v3ft9) rfl (by kernel_rfl) (by kernel_rfl) (by kernel_rfl) (fun _ _ _ h => h) (Or.inl ⟨by rfl, ?hy3ft9⟩) hS ?rest3ft9
                    case hy3ft9 => (intro w hSw; (try dsimp only at hSw); (first | (go_simp; done) | (go_simp; with_reducible rfl)))
                    try simp only [Act.put, List.getElem_toArray, List.getElem_cons_succ, List.getElem_cons_zero, List.setIfInBounds_toArray, List.set_cons_zero, List.set_cons_succ]
                    refine wpAnyH_take (i := 10) (v := ?v3ft10) rfl (by kernel_rfl) (by kernel_rfl) (by kernel_rfl) (fun _ _ _ h => h) (Or.inl ⟨by rfl, ?hy3ft10⟩) hS ?rest3ft10
                    case hy3ft10 => (intro w hSw; (try dsimp only at hSw); (first | (go_simp; done) | (go_simp; with_reducible rfl)))
                    try simp only [Act.put, List.getElem_toArray, List.getElem_cons_succ, List.getElem_cons_zero, List.setIfInBounds_toArray, List.set_cons_zero, List.set_cons_succ]
                    refine wpAnyH_take (i := 11) (v := ?v3ft11) rfl (by kernel_rfl) (by kernel_rfl) (by kernel_rfl) (fun _ _ _ h => h) (Or.inl ⟨by rfl, ?hy3ft11⟩) hS ?rest3ft11
                    case hy3ft11 => (intro w hSw; (try dsimp only at hSw); (first | (go_simp; done) | (go_simp; with_reducible rfl)))
                    try simp only [Act.put, List.getElem_toArray, List.getElem_cons_succ, List.getElem_cons_zero, List.setIfInBounds_toArray, List.set_cons_zero, List.set_cons_succ]
                    refine wpAnyH_take (i := 12) (v := ?v3ft12) rfl (by kernel_rfl) (by kernel_rfl) (by kernel_rfl) (fun _ _ _ h => h) (Or.inl ⟨by rfl, ?hy3ft12⟩) hS ?rest3ft12
                    case hy3ft12 => (intro w hSw; (try dsimp only at hSw); (first | (go_simp; done) | (go_simp; with_reducible rfl)))
                    try simp only [Act.put, List.getElem_toArray, List.getElem_cons_succ, List.getElem_cons_zero, List.setIfInBounds_toArray, List.set_cons_zero, List.set_cons_succ]
                    refine wpAnyH_take (i := 13) (v := ?v3ft13) rfl (by kernel_rfl) (by kernel_rfl) (by kernel_rfl) (fun _ _ _ h => h) (Or.inl ⟨by rfl, ?hy3ft13⟩) hS ?rest3ft13
                    case hy3ft13 => (intro w hSw; (try dsimp only at hSw); (first | (go_simp; done) | (go_simp; with_reducible rfl)))
                    try simp only [Act.put, List.getElem_toArray, List.getElem_cons_succ, List.getElem_cons_zero, List.setIfInBounds_toArray, List.set_cons_zero, List.set_cons_succ]
                    refine wpAnyH_take (i := 14) (v := ?v3ft14) rfl (by kernel_rfl) (by kernel_rfl) (by kernel_rfl) (fun _ _ _ h => h) (Or.inl ⟨by rfl, ?hy3ft14⟩) hS ?rest3ft14
                    case hy3ft14 => (intro w hSw; (try dsimp only at hSw); (first | (go_simp; done) | (go_simp; with_reducible rfl)))
                    try simp only [Act.put, List.getElem_toArray, List.getElem_cons_succ, List.getElem_cons_zero, List.setIfInBounds_toArray, List.set_cons_zero, List.set_cons_succ]
                    refine wpAnyH_take (i := 15) (v := ?v3ft15) rfl (by kernel_rfl) (by kernel_rfl) (by kernel_rfl) (fun _ _ _ h => h) (Or.inl ⟨by rfl, ?hy3ft15⟩) hS ?rest3ft15
                    case hy3ft15 => (intro w hSw; (try dsimp only at hSw); (first | (go_simp; done) | (go_simp; with_reducible rfl)))
                    try simp only [Act.put, List.getElem_toArray, List.getElem_cons_succ, List.getElem_cons_zero, List.setIfInBounds_toArray, List.set_cons_zero, List.set_cons_succ]
                    refine wpAnyH_ready (rs := [16]) (by kernel_rfl) (by simp) ?_
                    refine AllReadyH.cons rfl (fun K hK => ?_) AllReadyH.nil
                    try go_simp
                    go_at_call 34
                    refine (SAW.out _).mono ?_
                    rintro e w1 ⟨rfl, hb1⟩
                    obtain ⟨z0, z1, z2, z3, z4, z5, z6, z7, z8, z9, z10, z11, z12, z13⟩ := hS
                    replace B1 := Lib.hid (below_then B1.out hb1)
                    have x0 := cell_later hb1 z0
                    have x1 := cell_later hb1 z1
                    have x2 := cell_later hb1 z2
                    have x3 := cell_later hb1 z3
                    have x4 := cell_later hb1 z4
                    have x5 := cell_later hb1 z5
                    have x6 := cell_later hb1 z6
                    have x7 := cell_later hb1 z7
                    have x8 := cell_later hb1 z8
                    have x9 := cell_later hb1 z9
                    have x10 := cell_later hb1 z10
                    have x11 := cell_later hb1 z11
                    have x12 := cell_later hb1 z12
                    have x13 := cell_later hb1 z13
                    clear hb1 z0 z1 z2 z3 z4 z5 z6 z7 z8 z9 z10 z11 z12 z13
                    refine hK.out _ _ ⟨x0, x1, x2, x3, x4, x5, x6, x7, x8, x9, x10, x11, x12, x13⟩ (fun hS => ?_)
                    clear hK K
                    try simp only [Act.put, List.getElem_toArray, List.getElem_cons_succ, List.getElem_cons_zero, List.setIfInBounds_toArray, List.set_cons_zero, List.set_cons_succ]
                    clear x0 x1 x2 x3 x4 x5 x6 x7 x8 x9 x10 x11 x12 x13
                    refine wpAnyH_take (i := 17) (v := ?v3ft17) rfl (by kernel_rfl) (by kernel_rfl) (by kernel_rfl) (fun _ _ _ h => h) (Or.inl ⟨by rfl, ?hy3ft17⟩) hS ?rest3ft17
                    case hy3ft17 => (intro w hSw; (try dsimp only at hSw); (first | (go_simp; done) | (go_simp; with_reducible rfl)))
                    try simp only [Act.put, List.getElem_toArray, List.getElem_cons_succ, List.getElem_cons_zero, List.setIfInBounds_toArray, List.set_cons_zero, List.set_cons_succ]
                    refine wpAnyH_take (i := 18) (v := ?v3ft18) rfl (by kernel_rfl) (by kernel_rfl) (by kernel_rfl) (fun _ _ _ h => h) (Or.inl ⟨by rfl, ?hy3ft18⟩) hS ?rest3ft18
                    case hy3ft18 => (intro w hSw; (try dsimp only at hSw); (first | (go_simp; done) | (go_simp; with_reducible rfl)))
                    try simp only [Act.put, List.getElem_toArray, List.getElem_cons_succ, List.getElem_cons_zero, List.setIfInBounds_toArray, List.set_cons_zero, List.set_cons_succ]
                    refine wpAnyH_done (by kernel_rfl) ?_ _
                    all_goals go_wp2_with fail
                    all_goals go_meet
                    all_goals exact ⟨rfl, B1⟩
                · refine wp_region_held_drew (S := fun w' => w'.cell? ⟨W.heap.size, 0, none⟩ = some (.int .i64 (s 0 : Int)) ∧ w'.cell? ⟨W.heap.size, 1, none⟩ = some (.int .i64 (s 1 : Int)) ∧ w'.cell? ⟨W.heap.size, 2, none⟩ = some (.int .i64 (s 2 : Int)) ∧ w'.cell? ⟨W.heap.size, 3, none⟩ = some (.int .i64 (s 3 : Int)) ∧ w'.cell? ⟨W.heap.size, 4, none⟩ = some (.int .i64 (s 4 : Int)) ∧ w'.cell? ⟨W.heap.size, 5, none⟩ = some (.int .i64 (s 5 : Int)) ∧ w'.cell? ⟨W.heap.size, 6, none⟩ = some (.int .i64 (s 6 : Int)) ∧ w'.cell? ⟨W.heap.size, 7, none⟩ = some (.int .i64 (s 7 : Int)) ∧ w'.cell? ⟨W.heap.size, 8, none⟩ = some (.slice ao n c) ∧ w'.cell? ⟨W.heap.size + 1, 8, none⟩ = some (.slice (some ⟨g, 0, none⟩) n' c') ∧ w'.cell? ⟨g, j * 4, none⟩ = some (.string y.key) ∧ w'.cell? ⟨g, j * 4 + 1, none⟩ = some (.string y.val) ∧ w'.cell? ⟨g, j * 4 + 2, none⟩ = some (.int .i64 (y.site : Int)) ∧ w'.cell? ⟨g, j * 4 + 3, none⟩ = some (.int .i64 (y.count : Int))) (by kernel_rfl) ⟨q0, q1, q2, q3, q4, q5, q6, q7, q8, p8, c0, c1', c2, c3⟩ (fun hS => ?_)
                  clear q0 q1 q2 q3 q4 q5 q6 q7 q8 p8 c0 c1' c2 c3
                  refine wpAnyH_take (i := 0) (v := ?v3t0) rfl (by kernel_rfl) (by kernel_rfl) (by kernel_rfl) (fun _ _ _ h => h) (Or.inl ⟨by rfl, ?hy3t0⟩) hS ?rest3t0
                  case hy3t0 => (intro w hSw; (try dsimp only at hSw); (first | (go_simp; done) | (go_simp; with_reducible rfl)))
                  try simp only [Act.put, List.getElem_toArray, List.getElem_cons_succ, List.getElem_cons_zero, List.setIfInBounds_toArray, List.set_cons_zero, List.set_cons_succ]
                  refine wpAnyH_take (i := 1) (v := ?v3t1) rfl (by kernel_rfl) (by kernel_rfl) (by kernel_rfl) (fun _ _ _ h => h) (Or.inl ⟨by rfl, ?hy3t1⟩) hS ?rest3t1
                  case hy3t1 => (intro w hSw; (try dsimp only at hSw); (first | (go_simp; done) | (go_simp; with_reducible rfl)))
                  try simp only [Act.put, List.getElem_toArray, List.getElem_cons_succ, List.getElem_cons_zero, List.setIfInBounds_toArray, List.set_cons_zero, List.set_cons_succ]
                  refine wpAnyH_take (i := 2) (v := ?v3t2) rfl (by kernel_rfl) (by kernel_rfl) (by kernel_rfl) (fun _ _ _ h => h) (Or.inl ⟨by rfl, ?hy3t2⟩) hS ?rest3t2
                  case hy3t2 => (intro w hSw; (try dsimp only at hSw); (first | (go_simp; done) | (go_simp; with_reducible rfl)))
                  try simp only [Act.put, List.getElem_toArray, List.getElem_cons_succ, List.getElem_cons_zero, List.setIfInBounds_toArray, List.set_cons_zero, List.set_cons_succ]
                  refine wpAnyH_take (i := 3) (v := ?v3t3) rfl (by kernel_rfl) (by kernel_rfl) (by kernel_rfl) (fun _ _ _ h => h) (Or.inl ⟨by rfl, ?hy3t3⟩) hS ?rest3t3
                  case hy3t3 => (intro w hSw; (try dsimp only at hSw); (first | (go_simp; done) | (go_simp; with_reducible rfl)))
                  try simp only [Act.put, List.getElem_toArray, List.getElem_cons_succ, List.getElem_cons_zero, List.setIfInBounds_toArray, List.set_cons_zero, List.set_cons_succ]
                  refine wpAnyH_take (i := 4) (v := ?v3t4) rfl (by kernel_rfl) (by kernel_rfl) (by kernel_rfl) (fun _ _ _ h => h) (Or.inl ⟨by rfl, ?hy3t4⟩) hS ?rest3t4
                  case hy3t4 => (intro w hSw; (try dsimp only at hSw); (first | (go_simp; done) | (go_simp; with_reducible rfl)))
                  try simp only [Act.put, List.getElem_toArray, List.getElem_cons_succ, List.getElem_cons_zero, List.setIfInBounds_toArray, List.set_cons_zero, List.set_cons_succ]
                  refine wpAnyH_take (i := 5) (v := ?v3t5) rfl (by kernel_rfl) (by kernel_rfl) (by kernel_rfl) (fun _ _ _ h => h) (Or.inl ⟨by rfl, ?hy3t5⟩) hS ?rest3t5
                  case hy3t5 => (intro w hSw; (try dsimp only at hSw); (first | (go_simp; done) | (go_simp; with_reducible rfl)))
                  try simp only [Act.put, List.getElem_toArray, List.getElem_cons_succ, List.getElem_cons_zero, List.setIfInBounds_toArray, List.set_cons_zero, List.set_cons_succ]
                  refine wpAnyH_ready (rs := [6]) (by kernel_rfl) (by simp) ?_
                  refine AllReadyH.cons rfl (fun K hK => ?_) AllReadyH.nil
                  try go_simp
                  go_at_call 33
                  refine (HAS.out _ (drew_below wr)).mono ?_
                  rintro e w1 ⟨rfl, hb1⟩
                  obtain ⟨z0, z1, z2, z3, z4, z5, z6, z7, z8, z9, z10, z11, z12, z13⟩ := hS
                  have B1 := Lib.hid ((drew_below wr).trans hb1)
                  have x0 := cell_later hb1 z0
                  have x1 := cell_later hb1 z1
                  have x2 := cell_later hb1 z2
                  have x3 := cell_later hb1 z3
                  have x4 := cell_later hb1 z4
                  have x5 := cell_later hb1 z5
                  have x6 := cell_later hb1 z6
                  have x7 := cell_later hb1 z7
                  have x8 := cell_later hb1 z8
                  have x9 := cell_later hb1 z9
                  have x10 := cell_later hb1 z10
                  have x11 := cell_later hb1 z11
                  have x12 := cell_later hb1 z12
                  have x13 := cell_later hb1 z13
                  clear hb1 z0 z1 z2 z3 z4 z5 z6 z7 z8 z9 z10 z11 z12 z13
                  refine hK.out _ _ ⟨x0, x1, x2, x3, x4, x5, x6, x7, x8, x9, x10, x11, x12, x13⟩ (fun hS => ?_)
                  clear hK K
                  try simp only [Act.put, List.getElem_toArray, List.getElem_cons_succ, List.getElem_cons_zero, List.setIfInBounds_toArray, List.set_cons_zero, List.set_cons_succ]
                  clear x0 x1 x2 x3 x4 x5 x6 x7 x8 x9 x10 x11 x12 x13
                  refine wpAnyH_take (i := 7) (v := ?v3t7) rfl (by kernel_rfl) (by kernel_rfl) (by kernel_rfl) (fun _ _ _ h => h) (Or.inl ⟨by rfl, ?hy3t7⟩) hS ?rest3t7
                  case hy3t7 => (intro w hSw; (try dsimp only at hSw); (first | (go_simp; done) | (go_simp; with_reducible rfl)))
                  try simp only [Act.put, List.getElem_toArray, List.getElem_cons_succ, List.getElem_cons_zero, List.setIfInBounds_toArray, List.set_cons_zero, List.set_cons_succ]
                  refine wpAnyH_take (i := 8) (v := ?v3t8) rfl (by kernel_rfl) (by kernel_rfl) (by kernel_rfl) (fun _ _ _ h => h) (Or.inl ⟨by rfl, ?hy3t8⟩) hS ?rest3t8
                  case hy3t8 => (intro w hSw; (try dsimp only at hSw); (first | (go_simp; done) | (go_simp; with_reducible rfl)))
                  try simp only [Act.put, List.getElem_toArray, List.getElem_cons_succ, List.getElem_cons_zero, List.setIfInBounds_toArray, List.set_cons_zero, List.set_cons_succ]
                  refine wpAnyH_take (i := 9) (v := undef) rfl (by kernel_rfl) (by kernel_rfl) (by kernel_rfl) (fun _ _ _ h => h) (Or.inr ⟨by rfl, rfl⟩) hS ?_
                  try simp only [Act.put, List.getElem_toArray, List.getElem_cons_succ, List.getElem_cons_zero, List.setIfInBounds_toArray, List.set_cons_zero, List.set_cons_succ]
                  refine wpAnyH_take (i := 10) (v := undef) rfl (by kernel_rfl) (by kernel_rfl) (by kernel_rfl) (fun _ _ _ h => h) (Or.inr ⟨by rfl, rfl⟩) hS ?_
                  try simp only [Act.put, List.getElem_toArray, List.getElem_cons_succ, List.getElem_cons_zero, List.setIfInBounds_toArray, List.set_cons_zero, List.set_cons_succ]
                  refine wpAnyH_take (i := 11) (v := undef) rfl (by kernel_rfl) (by kernel_rfl) (by kernel_rfl) (fun _ _ _ h => h) (Or.inr ⟨by rfl, rfl⟩) hS ?_
                  try simp only [Act.put, List.getElem_toArray, List.getElem_cons_succ, List.getElem_cons_zero, List.setIfInBounds_toArray, List.set_cons_zero, List.set_cons_succ]
                  refine wpAnyH_take (i := 12) (v := undef) rfl (by kernel_rfl) (by kernel_rfl) (by kernel_rfl) (fun _ _ _ h => h) (Or.inr ⟨by rfl, rfl⟩) hS ?_
                  try simp only [Act.put, List.getElem_toArray, List.getElem_cons_succ, List.getElem_cons_zero, List.setIfInBounds_toArray, List.set_cons_zero, List.set_cons_succ]
                  refine wpAnyH_take (i := 13) (v := undef) rfl (by kernel_rfl) (by kernel_rfl) (by kernel_rfl) (fun _ _ _ h => h) (Or.inr ⟨by rfl, rfl⟩) hS ?_
                  try simp only [Act.put, List.getElem_toArray, List.getElem_cons_succ, List.getElem_cons_zero, List.setIfInBounds_toArray, List.set_cons_zero, List.set_cons_succ]
                  refine wpAnyH_take (i := 14) (v := undef) rfl (by kernel_rfl) (by kernel_rfl) (by kernel_rfl) (fun _ _ _ h => h) (Or.inr ⟨by rfl, rfl⟩) hS ?_
                  try simp only [Act.put, List.getElem_toArray, List.getElem_cons_succ, List.getElem_cons_zero, List.setIfInBounds_toArray, List.set_cons_zero, List.set_cons_succ]
                  refine wpAnyH_take (i := 15) (v := undef) rfl (by kernel_rfl) (by kernel_rfl) (by kernel_rfl) (fun _ _ _ h => h) (Or.inr ⟨by rfl, rfl⟩) hS ?_
                  try simp only [Act.put, List.getElem_toArray, List.getElem_cons_succ, List.getElem_cons_zero, List.setIfInBounds_toArray, List.set_cons_zero, List.set_cons_succ]
                  refine wpAnyH_take (i := 16) (v := undef) rfl (by kernel_rfl) (by kernel_rfl) (by kernel_rfl) (fun _ _ _ h => h) (Or.inr ⟨by rfl, rfl⟩) hS ?_
                  try simp only [Act.put, List.getElem_toArray, List.getElem_cons_succ, List.getElem_cons_zero, List.setIfInBounds_toArray, List.set_cons_zero, List.set_cons_succ]
                  refine wpAnyH_take (i := 17) (v := undef) rfl (by kernel_rfl) (by kernel_rfl) (by kernel_rfl) (fun _ _ _ h => h) (Or.inr ⟨by rfl, rfl⟩) hS ?_
                  try simp only [Act.put, List.getElem_toArray, List.getElem_cons_succ, List.getElem_cons_zero, List.setIfInBounds_toArray, List.set_cons_zero, List.set_cons_succ]
                  refine wpAnyH_take (i := 18) (v := ?v3t18) rfl (by kernel_rfl) (by kernel_rfl) (by kernel_rfl) (fun _ _ _ h => h) (Or.inl ⟨by rfl, ?hy3t18⟩) hS ?rest3t18
                  case hy3t18 => (intro w hSw; (try dsimp only at hSw); (first | (go_simp; done) | (go_simp; with_reducible rfl)))
                  try simp only [Act.put, List.getElem_toArray, List.getElem_cons_succ, List.getElem_cons_zero, List.setIfInBounds_toArray, List.set_cons_zero, List.set_cons_succ]
                  refine wpAnyH_done (by kernel_rfl) ?_ _
                  all_goals go_wp2_with fail
                  all_goals go_meet
                  all_goals exact ⟨rfl, B1⟩
              · obtain ⟨rfl, B1⟩ := hcut
                have TC := Lib.hid (HT.out.keep B1.out)
                have EC := Lib.hid (HE1.out.keep B1.out)
                have BD := Lib.hid (HBr.out.trans (B1.out.mono (by have := HBr.out.size; have := HVS.out; omega)))
                have k8 := (cell_nine TC.out).2.2.2.2.2.2.2.2
                have l8 := cell_later B1.out p8
                have d0 := cell_later B1.out c0
                have d1 := cell_later B1.out c1'
                have d2 := cell_later B1.out c2
                have d3 := cell_later B1.out c3
                clear c0 c1' c2 c3 p8 q0 q1 q2 q3 q4 q5 q6 q7 q8
                generalize hcd : (!bh && !bs) = cd at HPY ⊢
                clear hcd
                cases cd with
                | true =>
                  have PU : Hid (∀ w, Below wc.heap.size wc w → Calls Try.prog 35 #[.slice a1 n1 c1, .agg #[.string y.key, .string y.val, .int .i64 (y.site : Int), .int .i64 (y.count : Int)]] w fun e w' => ∃ ao' c', e = .returned (.slice ao' (n1 + 1) c') ∧ El w' ao' (n1 + 1) (insE (((ys.take j).filter P3).foldl insE ((xs.filter P2).foldl insE [])) y) ∧ n1 + 1 ≤ c' ∧ c' ≤ maxLen ∧ Below w.heap.size w w') := Lib.hid fun w hw => refput_any a1 n1 c1 _ y w (EC.out.keep hw) (by omega) HC1.out.1 (Nat.le_trans HC1.out.2 (by decide))
                  go_upto_region 15 with fail
                  refine wp_region_late (S := fun w' => w'.cell? ⟨W.heap.size + 1 + 1 + 1, 8, none⟩ = some (.slice a1 n1 c1) ∧ w'.cell? ⟨W.heap.size + 1, 8, none⟩ = some (.slice (some ⟨g, 0, none⟩) n' c') ∧ w'.cell? ⟨g, j * 4, none⟩ = some (.string y.key) ∧ w'.cell? ⟨g, j * 4 + 1, none⟩ = some (.string y.val) ∧ w'.cell? ⟨g, j * 4 + 2, none⟩ = some (.int .i64 (y.site : Int)) ∧ w'.cell? ⟨g, j * 4 + 3, none⟩ = some (.int .i64 (y.count : Int))) 9 (by kernel_rfl) ⟨k8, l8, d0, d1, d2, d3⟩ (fun hS => ?_)
                  refine wpAnyT_take (i := 0) (v := ?vp30) rfl (by kernel_rfl) (by kernel_rfl) (by kernel_rfl) (by kernel_rfl) (fun _ _ _ h => h) (Or.inl ⟨by rfl, ?hyp30⟩) hS ?restp30
                  case hyp30 => (intro w hSw; (try dsimp only at hSw); (first | (go_simp; done) | (go_simp; with_reducible rfl)))
                  try simp only [Act.put, List.getElem_toArray, List.getElem_cons_succ, List.getElem_cons_zero, List.setIfInBounds_toArray, List.set_cons_zero, List.set_cons_succ]
                  refine wpAnyT_take (i := 1) (v := ?vp31) rfl (by kernel_rfl) (by kernel_rfl) (by kernel_rfl) (by kernel_rfl) (fun _ _ _ h => h) (Or.inl ⟨by rfl, ?hyp31⟩) hS ?restp31
                  case hyp31 => (intro w hSw; (try dsimp only at hSw); (first | (go_simp; done) | (go_simp; with_reducible rfl)))
                  try simp only [Act.put, List.getElem_toArray, List.getElem_cons_succ, List.getElem_cons_zero, List.setIfInBounds_toArray, List.set_cons_zero, List.set_cons_succ]
                  refine wpAnyT_take (i := 2) (v := ?vp32) rfl (by kernel_rfl) (by kernel_rfl) (by kernel_rfl) (by kernel_rfl) (fun _ _ _ h => h) (Or.inl ⟨by rfl, ?hyp32⟩) hS ?restp32
                  case hyp32 => (intro w hSw; (try dsimp only at hSw); (first | (go_simp; done) | (go_simp; with_reducible rfl)))
                  try simp only [Act.put, List.getElem_toArray, List.getElem_cons_succ, List.getElem_cons_zero, List.setIfInBounds_toArray, List.set_cons_zero, List.set_cons_succ]
                  refine wpAnyT_take (i := 3) (v := ?vp33) rfl (by kernel_rfl) (by kernel_rfl) (by kernel_rfl) (by kernel_rfl) (fun _ _ _ h => h) (Or.inl ⟨by rfl, ?hyp33⟩) hS ?restp33
                  case hyp33 => (intro w hSw; (try dsimp only at hSw); (first | (go_simp; done) | (go_simp; with_reducible rfl)))
                  try simp only [Act.put, List.getElem_toArray, List.getElem_cons_succ, List.getElem_cons_zero, List.setIfInBounds_toArray, List.set_cons_zero, List.set_cons_succ]
                  refine wpAnyT_take (i := 4) (v := ?vp34) rfl (by kernel_rfl) (by kernel_rfl) (by kernel_rfl) (by kernel_rfl) (fun _ _ _ h => h) (Or.inl ⟨by rfl, ?hyp34⟩) hS ?restp34
                  case hyp34 => (intro w hSw; (try dsimp only at hSw); (first | (go_simp; done) | (go_simp; with_reducible rfl)))
                  try simp only [Act.put, List.getElem_toArray, List.getElem_cons_succ, List.getElem_cons_zero, List.setIfInBounds_toArray, List.set_cons_zero, List.set_cons_succ]
                  refine wpAnyT_take (i := 5) (v := ?vp35) rfl (by kernel_rfl) (by kernel_rfl) (by kernel_rfl) (by kernel_rfl) (fun _ _ _ h => h) (Or.inl ⟨by rfl, ?hyp35⟩) hS ?restp35
                  case hyp35 => (intro w hSw; (try dsimp only at hSw); (first | (go_simp; done) | (go_simp; with_reducible rfl)))
                  try simp only [Act.put, List.getElem_toArray, List.getElem_cons_succ, List.getElem_cons_zero, List.setIfInBounds_toArray, List.set_cons_zero, List.set_cons_succ]
                  refine wpAnyT_take (i := 6) (v := ?vp36) rfl (by kernel_rfl) (by kernel_rfl) (by kernel_rfl) (by kernel_rfl) (fun _ _ _ h => h) (Or.inl ⟨by rfl, ?hyp36⟩) hS ?restp36
                  case hyp36 => (intro w hSw; (try dsimp only at hSw); (first | (go_simp; done) | (go_simp; with_reducible rfl)))
                  try simp only [Act.put, List.getElem_toArray, List.getElem_cons_succ, List.getElem_cons_zero, List.setIfInBounds_toArray, List.set_cons_zero, List.set_cons_succ]
                  refine wpAnyT_step 7 rfl (by kernel_rfl) (by decide) (fun K hK => ?_)
                  try go_simp
                  go_at_call 35
                  refine (PU.out wc.drew (drew_below wc)).mono ?_
                  rintro e w6 ⟨a6, c6, rfl, hel6, h61, h62, hb6⟩
                  have B6 := Lib.hid ((drew_below wc).trans hb6)
                  have E6 := Lib.hid hel6
                  have H6 := Lib.hid (And.intro h61 h62)
                  have m8 := cell_later B6.out k8
                  have o8 := cell_later B6.out l8
                  have b0 := cell_later B6.out d0
                  have b1 := cell_later B6.out d1
                  have b2 := cell_later B6.out d2
                  have b3 := cell_later B6.out d3
                  have T6 := Lib.hid (TC.out.keep B6.out)
                  have f8 := free_nine T6.out 8
                  clear hel6 h61 h62 hb6
                  refine hK.out _ _ ⟨m8, o8, b0, b1, b2, b3⟩ (fun hS => ?_)
                  clear hK K
                  try simp only [Act.put, List.setIfInBounds_toArray, List.set_cons_zero, List.set_cons_succ]
                  refine wpAnyT_take (i := 8) (v := ?vp38) rfl (by kernel_rfl) (by kernel_rfl) (by kernel_rfl) (by kernel_rfl) (fun _ _ _ h => h) (Or.inl ⟨by rfl, ?hyp38⟩) hS ?restp38
                  case hyp38 => (intro w hSw; (try dsimp only at hSw); (first | (go_simp; done) | (go_simp; with_reducible rfl)))
                  try simp only [Act.put, List.getElem_toArray, List.getElem_cons_succ, List.getElem_cons_zero, List.setIfInBounds_toArray, List.set_cons_zero, List.set_cons_succ]
                  refine wpAnyT_last rfl (by kernel_rfl) (by kernel_rfl) (fun K hK => ?_)
                  go_simp
                  refine hK.out _ _ ?_
                  clear hK K
                  all_goals go_wp2_with fail
                  all_goals go_roundg (n' - (j + 1))
                  all_goals first
                    | omega
                    | exact ⟨j + 1, a6, n1 + 1, c6, by go_num, by omega, Nat.le_refl _, by omega, Lib.hid T6.out.slice, Lib.hid (by rw [HFT.out, HPY.out]; exact El.only E6.out (cell_nine T6.out).1 (fun b q hb => only_set b q hb) (by simp)), H6, Lib.hid ((BD.out.trans (B6.out.mono (by have := BD.out.size; have := HVS.out; omega))).setCell (p := ⟨W.heap.size + 1 + 1 + 1, 8, none⟩) (Nat.le_refl _) _)⟩
                | false =>
                  go_wp2
                  go_roundg (n' - (j + 1))
                  case measure => omega
                  case rel => exact ⟨j + 1, a1, n1, c1, by go_num, by omega, Nat.le_refl _, by omega, TC, Lib.hid (by rw [HFT.out, HPY.out]; exact EC.out), HC1, BD⟩
            · have ejn : n' = j := by omega
              subst ejn
              have hltz : ¬ (n' : Int) < (n' : Int) := by omega
              rw [List.take_of_length_le (by rw [HNB.out]; exact Nat.le_refl _)] at HE1
              have R1 := Lib.hid (row_later HBr.out (show W.heap.size + 1 + 1 < W.heap.size + 1 + 1 + 1 by omega) TR.out)
              have BB := Lib.hid (HB.out.trans (HBr.out.mono (show W.heap.size ≤ W.heap.size + 1 + 1 + 1 by omega)))
              obtain ⟨u0, u1, u2, u3, u4, u5, u6, u7, u8⟩ := cell_nine HT.out
              obtain ⟨r0, r1, r2, r3, r4, r5, r6, r7, r8⟩ := cell_nine R1.out
              have f0 := free_nine R1.out 0; have f1 := free_nine R1.out 1; have f2 := free_nine R1.out 2; have f3 := free_nine R1.out 3; have f4 := free_nine R1.out 4; have f5 := free_nine R1.out 5; have f6 := free_nine R1.out 6; have f7 := free_nine R1.out 7; have f8 := free_nine R1.out 8
              clear p0 p1 p2 p3 p4 p5 p6 p7
              go_wp2
              refine bodyPost_ret (v := tabV M (.slice a1 n1 c1)) (results_cell_row Try.results17 _ _ (W.heap.size + 1 + 1) 36 (tabC M (.slice a1 n1 c1)) (0, 0) _ rfl (set_nine R1.out) Try.underlying36 (by kernel_rfl) (by kernel_rfl)) rfl ?_
              exact ⟨a1, n1, c1, rfl, El.only (by rw [HL.out]; exact HE1.out) r0 (fun b o hb => cell_set9 _ _ _ _ _ _ _ _ _ _ _ _ _ hb) (by simp), HC1.out.1, HC1.out.2, below_set9 _ _ _ _ _ _ _ _ _ BB.out (by omega)⟩


end Go.Proofs.Ytpghehckojdgeaa
