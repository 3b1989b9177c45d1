/- Part 10 of the contracts: SSame0, SAlike, RSame, SPlan. -/
import Derived.Test.YtpghehckojdgeaaPart9

/- The law's same of two zero tables. (By gen_same0.py.) -/
set_option linter.unusedVariables false
set_option linter.unusedSimpArgs false
namespace Go.Proofs.Ytpghehckojdgeaa
open Go.RowKit Go.Shelf Go.Sort

set_option maxRecDepth 100000 in
set_option maxHeartbeats 2000000 in
theorem alike_nil (a1 a2 : Option Addr) (c1 c2 : Nat) (W : World) : Calls Try.prog 31 #[.slice a1 0 c1, .slice a2 0 c2] W fun e w' => e = .returned (.bool true) ∧ W = w' := by
  go_enter Try.func31, Try.ntmps31
  go_wp2
  go_loopg [5] 0 (fun gg s5 wr => s5 = .int .i64 0 ∧ wr = W)
  case atStart => exact ⟨rfl, rfl⟩
  case round =>
    obtain ⟨rfl, rfl⟩ := hrel
    go_wp2
    go_ret
    exact ⟨rfl, rfl⟩

theorem seenZ (z : Int) (W : World) : Calls Try.prog 30 #[.agg #[.int .i64 0, .int .i64 0, .int .i64 0, .int .i64 0, .int .i64 0, .int .i64 0, .int .i64 0, .int .i64 0, .slice none 0 0], .int .i64 z] W fun r w' => r = .returned (.int .i64 0) ∧ Below W.heap.size W w' := by
  by_cases h : 0 ≤ z ∧ z < 8
  · obtain ⟨i, rfl⟩ := Int.eq_ofNat_of_zero_le h.1
    exact seen_in (fun _ => 0) (.slice none 0 0) rfl i (by omega) W
  · exact seen_out (fun _ => 0) (.slice none 0 0) rfl z (by omega) W
theorem entriesZ (W : World) : Calls Try.prog 26 #[.agg #[.int .i64 0, .int .i64 0, .int .i64 0, .int .i64 0, .int .i64 0, .int .i64 0, .int .i64 0, .int .i64 0, .slice none 0 0]] W fun e w' => ∃ ao c, e = .returned (.slice ao 0 c) ∧ Below W.heap.size W w' := by
  refine (show Calls Try.prog 26 #[.agg #[.int .i64 0, .int .i64 0, .int .i64 0, .int .i64 0, .int .i64 0, .int .i64 0, .int .i64 0, .int .i64 0, .slice none 0 0]] W (OutE W.heap.size W []) from entries_any (fun _ => 0) none 0 0 [] W (El.nil W) (by omega)).mono ?_
  rintro e w' ⟨ao, c, he, _, hb⟩
  exact ⟨ao, c, he, hb⟩

set_option maxRecDepth 100000 in
set_option maxHeartbeats 8000000 in
theorem same_zero (W : World) : Calls Try.prog 10 #[.agg #[.int .i64 0, .int .i64 0, .int .i64 0, .int .i64 0, .int .i64 0, .int .i64 0, .int .i64 0, .int .i64 0, .slice none 0 0], .agg #[.int .i64 0, .int .i64 0, .int .i64 0, .int .i64 0, .int .i64 0, .int .i64 0, .int .i64 0, .int .i64 0, .slice none 0 0]] W fun e w' => e = .returned (.bool true) ∧ Below W.heap.size W w' := by
  obtain ⟨V, hV⟩ : ∃ V, V = (W.alloc (.cells #[.int .i64 0, .int .i64 0, .int .i64 0, .int .i64 0, .int .i64 0, .int .i64 0, .int .i64 0, .int .i64 0, .slice none 0 0] 34)).alloc (.cells #[.int .i64 0, .int .i64 0, .int .i64 0, .int .i64 0, .int .i64 0, .int .i64 0, .int .i64 0, .int .i64 0, .slice none 0 0] 36) := ⟨_, rfl⟩
  have HBV : Hid (Below W.heap.size W V) := Lib.hid (by rw [hV]; exact below2 W _ _)
  have TA : Hid (V.heap[W.heap.size]? = some (.cells #[.int .i64 0, .int .i64 0, .int .i64 0, .int .i64 0, .int .i64 0, .int .i64 0, .int .i64 0, .int .i64 0, .slice none 0 0] 34 (0, 0))) := Lib.hid (by rw [hV]; exact block1 W _ _)
  have TR : Hid (V.heap[W.heap.size + 1]? = some (.cells #[.int .i64 0, .int .i64 0, .int .i64 0, .int .i64 0, .int .i64 0, .int .i64 0, .int .i64 0, .int .i64 0, .slice none 0 0] 36 (0, 0))) := Lib.hid (by rw [hV]; exact block2 W _ _)
  have HV := Lib.hid hV
  clear hV
  go_enter Try.func10, Try.ntmps10
  go_upto_region 1 with fail
  rw [← HV.out]
  go_wp2
  go_loopg [5, 6] 12 (fun gg s5 s6 wr => ∃ z : Int, s5 = .int .i64 z ∧ -1 ≤ z ∧ z ≤ 9 ∧ 9 - z ≤ (gg : Int) ∧ Hid (Below V.heap.size V wr))
  case atStart => exact ⟨-1, rfl, by omega, by omega, by omega, Lib.hid (Below.refl _ _)⟩
  case round =>
    obtain ⟨z, rfl, h1, h2, hgg, HB⟩ := hrel
    obtain ⟨p0, p1, p2, p3, p4, p5, p6, p7, p8⟩ := cell_nine (row_keep HB.out TA.out)
    by_cases h3 : z ≤ 8
    · have g0 : IntKind.i64.wrap (z + 1) = z + 1 := IntWalk.i64_in _ (by omega)
      by_cases h4 : 0 ≤ z ∧ z < 8
      · obtain ⟨i, rfl⟩ := Int.eq_ofNat_of_zero_le h4.1
        have g1 : decide ((0 : Int) ≤ (i : Int)) = true := by simp
        have g2 : decide ((i : Int) < 8) = true := by simp; omega
        have g3 : (0 : Int) ≤ (i : Int) := h4.1
        have g4 : (i : Int) < 8 := h4.2
        have c1 : wr.cell? ⟨W.heap.size + 1, i, none⟩ = some (.int .i64 0) := nine_at (s := fun _ => 0) (row_keep HB.out TR.out) i (by omega)
        go_wp2_with (go_at_call 30; refine (seenZ _ _).mono ?_; rintro e w1 ⟨rfl, hb⟩; have HB1 := Lib.hid (HB.out.trans (hb.mono HB.out.size)); clear hb)
        go_roundg (8 - i)
        case measure => omega
        case rel => exact ⟨(i : Int) + 1, by go_num, by omega, by omega, by omega, HB1⟩
      · have g12 : (decide ((0 : Int) ≤ z) && decide (z < 8)) = false := by simp; omega
        by_cases h5 : z = -1
        · subst h5
          go_wp2_with (go_at_call 30; refine (seenZ _ _).mono ?_; rintro e w1 ⟨rfl, hb⟩; have HB1 := Lib.hid (HB.out.trans (hb.mono HB.out.size)); clear hb)
          go_roundg 9
          case measure => omega
          case rel => exact ⟨0, by go_num, by omega, by omega, by omega, HB1⟩
        · obtain rfl : z = 8 := by omega
          go_wp2_with (go_at_call 30; refine (seenZ _ _).mono ?_; rintro e w1 ⟨rfl, hb⟩; have HB1 := Lib.hid (HB.out.trans (hb.mono HB.out.size)); clear hb)
          go_roundg 0
          case measure => omega
          case rel => exact ⟨9, by go_num, by omega, by omega, by omega, HB1⟩
    · obtain rfl : z = 9 := by omega
      obtain ⟨q0, q1, q2, q3, q4, q5, q6, q7, q8⟩ := cell_nine (row_keep HB.out TR.out)
      go_upto_region 9 with fail
      go_region_held3 (fun w' => w'.cell? ⟨W.heap.size, 0, none⟩ = some (.int .i64 0) ∧ w'.cell? ⟨W.heap.size, 1, none⟩ = some (.int .i64 0) ∧ w'.cell? ⟨W.heap.size, 2, none⟩ = some (.int .i64 0) ∧ w'.cell? ⟨W.heap.size, 3, none⟩ = some (.int .i64 0) ∧ w'.cell? ⟨W.heap.size, 4, none⟩ = some (.int .i64 0) ∧ w'.cell? ⟨W.heap.size, 5, none⟩ = some (.int .i64 0) ∧ w'.cell? ⟨W.heap.size, 6, none⟩ = some (.int .i64 0) ∧ w'.cell? ⟨W.heap.size, 7, none⟩ = some (.int .i64 0) ∧ w'.cell? ⟨W.heap.size, 8, none⟩ = some (.slice none 0 0) ∧ w'.cell? ⟨W.heap.size + 1, 8, none⟩ = some (.slice none 0 0)) (first | (with_reducible exact ⟨by assumption, by assumption, by assumption, by assumption, by assumption, by assumption, by assumption, by assumption, by assumption, by assumption⟩) | go_keep) (first
        | (go_at_call 26; refine (entriesZ _).mono ?_; rintro e w1 ⟨ao, c, rfl, hb⟩; replace HB := Lib.hid (below_then (below_then HB.out (below_drewN (Below.refl wr.heap.size wr) 1)) hb); obtain ⟨y0, y1, y2, y3, y4, y5, y6, y7, y8⟩ := cell_nine (row_keep HB.out TA.out); have y9 := (cell_nine (row_keep HB.out TR.out)).2.2.2.2.2.2.2.2; clear hb)
        | (go_at_call 31; refine (alike_nil _ _ _ _ _).mono ?_; rintro e w1 ⟨rfl, rfl⟩))
      all_goals go_wp2_with fail
      all_goals go_ret
      all_goals exact ⟨rfl, HBV.out.trans (HB.out.mono HBV.out.size)⟩
end Go.Proofs.Ytpghehckojdgeaa

/- The document's Alike of two lists that hold the same entries. -/
set_option linter.unusedVariables false
set_option linter.unusedSimpArgs false
namespace Go.Proofs.Ytpghehckojdgeaa
open Go.RowKit Go.Shelf Go.Sort

set_option maxRecDepth 100000 in
set_option maxHeartbeats 8000000 in
theorem alike_rows (g g' n c c' : Nat) (xs : List Ent) (W : World) (hx : xs.length = n) (r1 : RowE W g xs) (r2 : RowE W g' xs) (hn : n ≤ 900000) :
    Calls Try.prog 31 #[.slice (some ⟨g, 0, none⟩) n c, .slice (some ⟨g', 0, none⟩) n c'] W fun e w' => e = .returned (.bool true) ∧ Below W.heap.size W w' := by
  have R1 := Lib.hid r1
  have R2 := Lib.hid r2
  have hg := r1.1
  have hg' := r2.1
  clear r1 r2
  go_enter Try.func31, Try.ntmps31
  go_wp2
  go_loopg [5] n (fun gg s5 wr => ∃ i : Nat, s5 = .int .i64 (i : Int) ∧ i ≤ n ∧ n - i ≤ gg ∧ Hid (Below W.heap.size W wr))
  case atStart => exact ⟨0, rfl, Nat.zero_le _, by omega, Lib.hid (Below.refl _ _)⟩
  case round =>
    obtain ⟨i, rfl, hi, hgg, HB⟩ := hrel
    by_cases hlt : i < n
    · have t1 : (i : Int) < (n : Int) := by omega
      have t0 : (0 : Int) ≤ (i : Int) := by omega
      have a1 := (R1.out.2 i (by omega)).keep HB.out hg
      have a2 := (R2.out.2 i (by omega)).keep HB.out hg'
      generalize xs[i]! = x at a1 a2
      obtain ⟨p0, p1, p2, p3⟩ := a1
      obtain ⟨q0, q1, q2, q3⟩ := a2
      have hq : ∀ w, (binOp .neq 82 (.agg #[.string x.key, .string x.val, .int .i64 (x.site : Int), .int .i64 (x.count : Int)]) (.agg #[.string x.key, .string x.val, .int .i64 (x.site : Int), .int .i64 (x.count : Int)])).run Try.prog w = .ok (.bool false) w := fun w => by
        rw [run_neq_ent]
        simp [sameE]
      have hg2 := fun a b w => guard_ent .neq a b #[.string x.key, .string x.val, .int .i64 (x.site : Int), .int .i64 (x.count : Int)] #[.string x.key, .string x.val, .int .i64 (x.site : Int), .int .i64 (x.count : Int)] w
      have g0 : IntKind.i64.wrap ((i : Int) + 1) = (i : Int) + 1 := IntWalk.i64_in _ (by omega)
      go_upto_region 6 with fail
      go_region_held3 (fun w' => w'.cell? ⟨g, i * 4, none⟩ = some (.string x.key) ∧ w'.cell? ⟨g, i * 4 + 1, none⟩ = some (.string x.val) ∧ w'.cell? ⟨g, i * 4 + 2, none⟩ = some (.int .i64 (x.site : Int)) ∧ w'.cell? ⟨g, i * 4 + 3, none⟩ = some (.int .i64 (x.count : Int)) ∧ w'.cell? ⟨g', i * 4, none⟩ = some (.string x.key) ∧ w'.cell? ⟨g', i * 4 + 1, none⟩ = some (.string x.val) ∧ w'.cell? ⟨g', i * 4 + 2, none⟩ = some (.int .i64 (x.site : Int)) ∧ w'.cell? ⟨g', i * 4 + 3, none⟩ = some (.int .i64 (x.count : Int))) (go_keep) (fail)
      all_goals go_wp2
      all_goals go_roundg (n - (i + 1))
      all_goals first | exact ⟨i + 1, by go_num, by omega, Nat.le_refl _, Lib.hid (below_then HB.out (below_drewN (Below.refl wr.heap.size wr) 1))⟩ | omega
    · obtain rfl : i = n := by omega
      have t1 : ¬ (i : Int) < (i : Int) := by omega
      go_wp2
      go_ret
      exact ⟨rfl, HB.out⟩
theorem alike_same (ao ao' : Option Addr) (n c m c' : Nat) (xs : List Ent) (W : World) (h1 : El W ao n xs) (h2 : El W ao' m xs) (hn : n ≤ 900000) :
    Calls Try.prog 31 #[.slice ao n c, .slice ao' m c'] W fun e w' => e = .returned (.bool true) ∧ Below W.heap.size W w' := by
  obtain ⟨hx, h1⟩ := h1
  obtain ⟨hy, h2⟩ := h2
  obtain rfl : n = m := hx.symm.trans hy
  by_cases h0 : n = 0
  · subst h0
    exact (alike_nil ao ao' c c' W).mono fun e w' ⟨he, hw⟩ => ⟨he, by rw [← hw]; exact Below.refl _ _⟩
  · rcases h1 with ⟨_, h1⟩ | ⟨g, rfl, r1⟩
    · omega
    · rcases h2 with ⟨_, h2⟩ | ⟨g', rfl, r2⟩
      · omega
      · exact alike_rows g g' n c c' xs W hx r1 r2 hn
end Go.Proofs.Ytpghehckojdgeaa

/- The law's same of a table in both forms. (By gen_rsame.py.) -/
set_option linter.unusedVariables false
set_option linter.unusedSimpArgs false
namespace Go.Proofs.Ytpghehckojdgeaa
open Go.RowKit Go.Shelf Go.Sort

set_option maxRecDepth 100000 in
set_option maxHeartbeats 8000000 in
theorem same_both (s : Nat → Nat) (ao ao' : Option Addr) (n c n' c' : Nat) (xs : List Ent) (W : World) (h1 : El W ao n xs) (h2 : El W ao' n' xs) (hn : n ≤ 900000) :
    Calls Try.prog 10 #[.agg #[.int .i64 (s 0 : Int), .int .i64 (s 1 : Int), .int .i64 (s 2 : Int), .int .i64 (s 3 : Int), .int .i64 (s 4 : Int), .int .i64 (s 5 : Int), .int .i64 (s 6 : Int), .int .i64 (s 7 : Int), .slice ao n c], .agg #[.int .i64 (s 0 : Int), .int .i64 (s 1 : Int), .int .i64 (s 2 : Int), .int .i64 (s 3 : Int), .int .i64 (s 4 : Int), .int .i64 (s 5 : Int), .int .i64 (s 6 : Int), .int .i64 (s 7 : Int), .slice ao' n' c']] W fun e w' => e = .returned (.bool true) ∧ Below W.heap.size W w' := by
  obtain ⟨V, hV⟩ : ∃ V, V = (W.alloc (.cells #[.int .i64 (s 0 : Int), .int .i64 (s 1 : Int), .int .i64 (s 2 : Int), .int .i64 (s 3 : Int), .int .i64 (s 4 : Int), .int .i64 (s 5 : Int), .int .i64 (s 6 : Int), .int .i64 (s 7 : Int), .slice ao n c] 34)).alloc (.cells #[.int .i64 (s 0 : Int), .int .i64 (s 1 : Int), .int .i64 (s 2 : Int), .int .i64 (s 3 : Int), .int .i64 (s 4 : Int), .int .i64 (s 5 : Int), .int .i64 (s 6 : Int), .int .i64 (s 7 : Int), .slice ao' n' c'] 36) := ⟨_, rfl⟩
  have HBV : Hid (Below W.heap.size W V) := Lib.hid (by rw [hV]; exact below2 W _ _)
  have TA : Hid (V.heap[W.heap.size]? = some (.cells #[.int .i64 (s 0 : Int), .int .i64 (s 1 : Int), .int .i64 (s 2 : Int), .int .i64 (s 3 : Int), .int .i64 (s 4 : Int), .int .i64 (s 5 : Int), .int .i64 (s 6 : Int), .int .i64 (s 7 : Int), .slice ao n c] 34 (0, 0))) := Lib.hid (by rw [hV]; exact block1 W _ _)
  have TR : Hid (V.heap[W.heap.size + 1]? = some (.cells #[.int .i64 (s 0 : Int), .int .i64 (s 1 : Int), .int .i64 (s 2 : Int), .int .i64 (s 3 : Int), .int .i64 (s 4 : Int), .int .i64 (s 5 : Int), .int .i64 (s 6 : Int), .int .i64 (s 7 : Int), .slice ao' n' c'] 36 (0, 0))) := Lib.hid (by rw [hV]; exact block2 W _ _)
  have E1 := Lib.hid (h1.keep HBV.out)
  have E2 := Lib.hid (h2.keep HBV.out)
  have hxl := h1.1
  have HXL := Lib.hid hxl
  have HYL := Lib.hid h2.1
  have HV := Lib.hid hV
  clear hV h1 h2 hxl
  go_enter Try.func10, Try.ntmps10
  go_upto_region 1 with fail
  rw [← HV.out]
  go_wp2
  go_loopg [5, 6] 12 (fun gg s5 s6 wr => ∃ z : Int, s5 = .int .i64 z ∧ -1 ≤ z ∧ z ≤ 9 ∧ 9 - z ≤ (gg : Int) ∧ Hid (Below V.heap.size V wr))
  case atStart => exact ⟨-1, rfl, by omega, by omega, by omega, Lib.hid (Below.refl _ _)⟩
  case round =>
    obtain ⟨z, rfl, h1, h2, hgg, HB⟩ := hrel
    obtain ⟨p0, p1, p2, p3, p4, p5, p6, p7, p8⟩ := cell_nine (row_keep HB.out TA.out)
    by_cases h3 : z ≤ 8
    · have g0 : IntKind.i64.wrap (z + 1) = z + 1 := IntWalk.i64_in _ (by omega)
      by_cases h4 : 0 ≤ z ∧ z < 8
      · obtain ⟨i, rfl⟩ := Int.eq_ofNat_of_zero_le h4.1
        have g1 : decide ((0 : Int) ≤ (i : Int)) = true := by simp
        have g2 : decide ((i : Int) < 8) = true := by simp; omega
        have g3 : (0 : Int) ≤ (i : Int) := h4.1
        have g4 : (i : Int) < 8 := h4.2
        have c1 : wr.cell? ⟨W.heap.size + 1, i, none⟩ = some (.int .i64 (s i : Int)) := nine_at (s := s) (row_keep HB.out TR.out) i (by omega)
        have gs : ((s i : Int) == (s i : Int)) = true := beq_iff_eq.2 rfl
        go_wp2_with (go_at_call 30; refine (seen_in s (.slice ao n c) rfl i (by omega) _).mono ?_; rintro e w1 ⟨rfl, hb⟩; have HB1 := Lib.hid (HB.out.trans (hb.mono HB.out.size)); clear hb)
        go_roundg (8 - i)
        case measure => omega
        case rel => exact ⟨(i : Int) + 1, by go_num, by omega, by omega, by omega, HB1⟩
      · have g12 : (decide ((0 : Int) ≤ z) && decide (z < 8)) = false := by simp; omega
        by_cases h5 : z = -1
        · subst h5
          go_wp2_with (go_at_call 30; refine (seen_out s (.slice ao n c) rfl (-1) (by omega) _).mono ?_; rintro e w1 ⟨rfl, hb⟩; have HB1 := Lib.hid (HB.out.trans (hb.mono HB.out.size)); clear hb)
          go_roundg 9
          case measure => omega
          case rel => exact ⟨0, by go_num, by omega, by omega, by omega, HB1⟩
        · obtain rfl : z = 8 := by omega
          go_wp2_with (go_at_call 30; refine (seen_out s (.slice ao n c) rfl 8 (by omega) _).mono ?_; rintro e w1 ⟨rfl, hb⟩; have HB1 := Lib.hid (HB.out.trans (hb.mono HB.out.size)); clear hb)
          go_roundg 0
          case measure => omega
          case rel => exact ⟨9, by go_num, by omega, by omega, by omega, HB1⟩
    · obtain rfl : z = 9 := by omega
      obtain ⟨q0, q1, q2, q3, q4, q5, q6, q7, q8⟩ := cell_nine (row_keep HB.out TR.out)
      have EN := Lib.hid (entries_any s ao n c xs wr.drew (E1.out.keep (HB.out.trans ((drew_below wr).mono HB.out.size))) hn)
      clear q0 q1 q2 q3 q4 q5 q6 q7
      go_upto_region 9 with fail
      refine wp_region_held_drew (S := fun w' => w'.cell? ⟨W.heap.size, 0, none⟩ = some (.int .i64 (s 0 : Int)) ∧ w'.cell? ⟨W.heap.size, 1, none⟩ = some (.int .i64 (s 1 : Int)) ∧ w'.cell? ⟨W.heap.size, 2, none⟩ = some (.int .i64 (s 2 : Int)) ∧ w'.cell? ⟨W.heap.size, 3, none⟩ = some (.int .i64 (s 3 : Int)) ∧ w'.cell? ⟨W.heap.size, 4, none⟩ = some (.int .i64 (s 4 : Int)) ∧ w'.cell? ⟨W.heap.size, 5, none⟩ = some (.int .i64 (s 5 : Int)) ∧ w'.cell? ⟨W.heap.size, 6, none⟩ = some (.int .i64 (s 6 : Int)) ∧ w'.cell? ⟨W.heap.size, 7, none⟩ = some (.int .i64 (s 7 : Int)) ∧ w'.cell? ⟨W.heap.size, 8, none⟩ = some (.slice ao n c) ∧ w'.cell? ⟨W.heap.size + 1, 8, none⟩ = some (.slice ao' n' c')) (by kernel_rfl) ⟨p0, p1, p2, p3, p4, p5, p6, p7, p8, q8⟩ (fun hS => ?_)
      clear p0 p1 p2 p3 p4 p5 p6 p7 p8 q8
      refine wpAnyH_take (i := 0) (v := ?ve0) rfl (by kernel_rfl) (by kernel_rfl) (by kernel_rfl) (fun _ _ _ h => h) (Or.inl ⟨by rfl, ?hye0⟩) hS ?reste0
      case hye0 => (intro w hSw; (try dsimp only at hSw); (first | (go_simp; done) | (go_simp; with_reducible rfl)))
      try simp only [Act.put, List.getElem_toArray, List.getElem_cons_succ, List.getElem_cons_zero, List.setIfInBounds_toArray, List.set_cons_zero, List.set_cons_succ]
      refine wpAnyH_take (i := 2) (v := ?ve2) rfl (by kernel_rfl) (by kernel_rfl) (by kernel_rfl) (fun _ _ _ h => h) (Or.inl ⟨by rfl, ?hye2⟩) hS ?reste2
      case hye2 => (intro w hSw; (try dsimp only at hSw); (first | (go_simp; done) | (go_simp; with_reducible rfl)))
      try simp only [Act.put, List.getElem_toArray, List.getElem_cons_succ, List.getElem_cons_zero, List.setIfInBounds_toArray, List.set_cons_zero, List.set_cons_succ]
      refine wpAnyH_take (i := 3) (v := ?ve3) rfl (by kernel_rfl) (by kernel_rfl) (by kernel_rfl) (fun _ _ _ h => h) (Or.inl ⟨by rfl, ?hye3⟩) hS ?reste3
      case hye3 => (intro w hSw; (try dsimp only at hSw); (first | (go_simp; done) | (go_simp; with_reducible rfl)))
      try simp only [Act.put, List.getElem_toArray, List.getElem_cons_succ, List.getElem_cons_zero, List.setIfInBounds_toArray, List.set_cons_zero, List.set_cons_succ]
      refine wpAnyH_ready (rs := [1]) (by kernel_rfl) (by simp) ?_
      refine AllReadyH.cons rfl (fun K hK => ?_) AllReadyH.nil
      try go_simp
      go_at_call 26
      unfold tabV at EN
      refine EN.out.mono ?_
      rintro e w1 ⟨a1, k1, rfl, he1, hb⟩
      obtain ⟨z0, z1, z2, z3, z4, z5, z6, z7, z8, z9⟩ := hS
      replace HB := Lib.hid (HB.out.trans (((drew_below wr).trans hb).mono HB.out.size))
      have x0 := cell_later hb z0
      have x1 := cell_later hb z1
      have x2 := cell_later hb z2
      have x3 := cell_later hb z3
      have x4 := cell_later hb z4
      have x5 := cell_later hb z5
      have x6 := cell_later hb z6
      have x7 := cell_later hb z7
      have x8 := cell_later hb z8
      have x9 := cell_later hb z9
      have AL := Lib.hid (alike_same a1 ao' _ k1 _ c' xs w1 he1 (E2.out.keep HB.out) (by rw [HXL.out]; exact hn))
      clear hb he1 EN z0 z1 z2 z3 z4 z5 z6 z7 z8 z9
      refine hK.out _ _ ⟨x0, x1, x2, x3, x4, x5, x6, x7, x8, x9⟩ (fun hS => ?_)
      clear hK K
      try simp only [Act.put, List.getElem_toArray, List.getElem_cons_succ, List.getElem_cons_zero, List.setIfInBounds_toArray, List.set_cons_zero, List.set_cons_succ]
      clear x0 x1 x2 x3 x4 x5 x6 x7 x8 x9
      refine wpAnyH_ready (rs := [4]) (by kernel_rfl) (by simp) ?_
      refine AllReadyH.cons rfl (fun K hK => ?_) AllReadyH.nil
      try go_simp
      go_at_call 31
      refine AL.out.mono ?_
      rintro e w1 ⟨rfl, hb⟩
      obtain ⟨z0, z1, z2, z3, z4, z5, z6, z7, z8, z9⟩ := hS
      replace HB := Lib.hid (HB.out.trans (hb.mono HB.out.size))
      have x0 := cell_later hb z0
      have x1 := cell_later hb z1
      have x2 := cell_later hb z2
      have x3 := cell_later hb z3
      have x4 := cell_later hb z4
      have x5 := cell_later hb z5
      have x6 := cell_later hb z6
      have x7 := cell_later hb z7
      have x8 := cell_later hb z8
      have x9 := cell_later hb z9
      clear hb z0 z1 z2 z3 z4 z5 z6 z7 z8 z9
      refine hK.out _ _ ⟨x0, x1, x2, x3, x4, x5, x6, x7, x8, x9⟩ (fun hS => ?_)
      clear hK K
      try simp only [Act.put, List.getElem_toArray, List.getElem_cons_succ, List.getElem_cons_zero, List.setIfInBounds_toArray, List.set_cons_zero, List.set_cons_succ]
      clear x0 x1 x2 x3 x4 x5 x6 x7 x8 x9
      refine wpAnyH_take (i := 5) (v := ?ve5) rfl (by kernel_rfl) (by kernel_rfl) (by kernel_rfl) (fun _ _ _ h => h) (Or.inl ⟨by rfl, ?hye5⟩) hS ?reste5
      case hye5 => (intro w hSw; (try dsimp only at hSw); (first | (go_simp; done) | (go_simp; with_reducible rfl)))
      try simp only [Act.put, List.getElem_toArray, List.getElem_cons_succ, List.getElem_cons_zero, List.setIfInBounds_toArray, List.set_cons_zero, List.set_cons_succ]
      refine wpAnyH_done (by kernel_rfl) ?_ _
      all_goals go_wp2_with fail
      all_goals go_ret
      all_goals exact ⟨rfl, HBV.out.trans (HB.out.mono HBV.out.size)⟩
end Go.Proofs.Ytpghehckojdgeaa

/- Regions that draw their order and make blocks that begin with an int. No function of the program is walked here. (By gen_splan.py.) -/
set_option linter.unusedVariables false
namespace Go.Proofs.Ytpghehckojdgeaa
open Go.RowKit

/-- Block g is this, and may be written. -/
def Box (w : World) (g T : Nat) (c : Array Value) : Prop := w.heap[g]? = some (.cells c T (0, 0))

theorem Box.new (W : World) (T : Nat) (c : Array Value) : Box (W.alloc (.cells c T)) W.heap.size T c := heap_alloc_new W _

theorem Box.later {W w1 : World} {T : Nat} {c : Array Value} (hb : Below (W.alloc (.cells c T)).heap.size (W.alloc (.cells c T)) w1) : Box w1 W.heap.size T c :=
  (hb.block _ (by simp)).trans (Box.new W T c)

theorem Box.below {w w' : World} {g T B : Nat} {c : Array Value} (h : Box w g T c) (hb : Below B w w') (hg : g < B) : Box w' g T c := (hb.block g hg).trans h

theorem Box.cell {w : World} {g T : Nat} {c : Array Value} (h : Box w g T c) (i : Nat) : w.cell? ⟨g, i, none⟩ = c[i]? := by
  simp only [World.cell?]
  rw [show w.heap[g]? = _ from h]
  rfl

theorem Box.frozen {w : World} {g T : Nat} {c : Array Value} (h : Box w g T c) (i : Nat) : w.frozen? ⟨g, i, none⟩ = false := by
  simp only [World.frozen?]
  rw [show w.heap[g]? = _ from h]
  simp

theorem Box.set {w : World} {g T : Nat} {c : Array Value} (h : Box w g T c) (i : Nat) (u : Value) : Box (w.setCell ⟨g, i, none⟩ u) g T (c.setIfInBounds i u) := by
  unfold Box
  simp only [World.setCell, Array.getElem?_modify]
  rw [show w.heap[g]? = _ from h]
  simp


/-- (of no account here) -/
def isInt (_ : Value) : Bool := false
/-- the block begins with an int -/
def noInts (c : Array Value) : Bool := match c[0]? with | some (Value.int .i64 _) => true | _ => false
theorem noInts_first {c : Array Value} (h : noInts c = true) : ∃ z : Int, c[0]? = some (Value.int .i64 z) := by
  unfold noInts at h
  split at h
  · exact ⟨_, by assumption⟩
  · cases h


section
variable {P : Program} {ops : Array Oper} {Q : Exit → Act → World → Prop} {md : Region.Mode}

theorem listed_count {L : Array Bool} {i : Nat} (h : L.getD i true = false) : (L.setIfInBounds i true).toList.count false + 1 = L.toList.count false := by
  have hi : i < L.size := by
    rcases Nat.lt_or_ge i L.size with h1 | h1
    · exact h1
    · simp [Array.getElem?_eq_none h1] at h
  have hv : L[i] = false := by simpa [hi] using h
  rw [Array.toList_setIfInBounds, List.count_set (by simpa using hi)]
  have h2 : 0 < L.toList.count false := List.count_pos_iff.2 (by rw [← hv]; exact Array.getElem_mem_toList hi)
  have hv2 : L.toList[i]'(by simpa using hi) = false := by simpa using hv
  rw [hv2]
  rw [if_pos (by rfl), if_neg (by decide)]
  omega

/-- an invariant that each operation keeps, whichever comes up -/
theorem wpAny_inv {Inv : Array Bool → Act → World → Prop}
    (hstep : ∀ (L : Array Bool) (a : Act) (w : World) (i : Nat), L.size = ops.size → Inv L a w → i ∈ Region.ready md ops L → wpOp P ops Q i (fun a' w' => Inv (L.setIfInBounds i true) a' w') a w)
    (hend : ∀ (L : Array Bool) (a : Act) (w : World), L.size = ops.size → Inv L a w → Region.ready md ops L = [] → Q .normal a w) :
    ∀ (fuel : Nat) (L : Array Bool) (a : Act) (w : World), L.size = ops.size → L.toList.count false ≤ fuel → Inv L a w → wpAny P md ops Q fuel L a w := by
  intro fuel
  induction fuel with
  | zero =>
    intro L a w hs hc hi
    have hr : Region.ready md ops L = [] := by
      apply List.eq_nil_iff_forall_not_mem.2
      intro i hm
      have h1 := (mem_ready.1 hm).1
      have := listed_count h1
      omega
    exact ⟨hr, hend L a w hs hi hr⟩
  | succ fuel ih =>
    intro L a w hs hc hi
    refine ⟨fun hr => hend L a w hs hi hr, fun i hm => ?_⟩
    refine wpOp_mono (fun a' w' h' => ih _ a' w' (by simpa using hs) ?_ h') (hstep L a w i hs hi hm)
    have := listed_count (mem_ready.1 hm).1
    omega
end

/-- a is as a0 but for these slots -/
def Agree (slots : List Nat) (a0 a : Act) : Prop := a.tmps.size = a0.tmps.size ∧ a.defers = a0.defers ∧ ∀ k, k ∉ slots → a.tmps[k]? = a0.tmps[k]?

theorem Agree.refl (slots : List Nat) (a : Act) : Agree slots a a := ⟨rfl, rfl, fun _ _ => rfl⟩

theorem Agree.put {slots : List Nat} {a0 a : Act} (h : Agree slots a0 a) {t : Nat} (ht : t ∈ slots) (v : Value) : Agree slots a0 (a.put (some t) v) := by
  refine ⟨by simp [Act.put, h.1], h.2.1, fun k hk => ?_⟩
  have : t ≠ k := fun e => hk (e ▸ ht)
  simp only [Act.put]
  rw [Array.getElem?_setIfInBounds_ne this]
  exact h.2.2 k hk

theorem Agree.eval {slots : List Nat} {a0 a : Act} (h : Agree slots a0 a) {k : Nat} (hk : k ∉ slots) : a.eval (.tmp k) = a0.eval (.tmp k) := by
  simp only [Act.eval, Array.getD_eq_getD_getElem?, h.2.2 k hk]

theorem eval_put_self {a : Act} {t : Nat} (h : t < a.tmps.size) (v : Value) : (a.put (some t) v).eval (.tmp t) = v := by
  simp [Act.eval, Act.put, h]

theorem eval_put_ne {a : Act} {t k : Nat} (h : t ≠ k) (v : Value) : (a.put (some t) v).eval (.tmp k) = a.eval (.tmp k) := by
  simp [Act.eval, Act.put, Array.getElem?_setIfInBounds_ne h]

def puts (a : Act) : List (Nat × Value) → Act
  | [] => a
  | (t, v) :: r => puts (a.put (some t) v) r

theorem puts_defers (l : List (Nat × Value)) : ∀ a : Act, (puts a l).defers = a.defers := by
  induction l with
  | nil => intro a; rfl
  | cons x l ih => intro a; exact ih _

theorem puts_get (f : Nat → Value) (l : List Nat) : ∀ (a : Act) (k : Nat), (puts a (l.map fun t => (t, f t))).tmps[k]? = if k ∈ l ∧ k < a.tmps.size then some (f k) else a.tmps[k]? := by
  induction l with
  | nil => intro a k; simp [puts]
  | cons t l ih =>
    intro a k
    simp only [List.map_cons, puts]
    rw [ih]
    have hs : (a.put (some t) (f t)).tmps.size = a.tmps.size := by simp [Act.put]
    rw [hs]
    by_cases hk : k ∈ l ∧ k < a.tmps.size
    · rw [if_pos hk, if_pos ⟨List.mem_cons_of_mem _ hk.1, hk.2⟩]
    · rw [if_neg hk]
      by_cases ht : t = k
      · subst ht
        by_cases hl : t < a.tmps.size
        · rw [if_pos ⟨List.mem_cons_self, hl⟩]; simp [Act.put, hl]
        · rw [if_neg (fun h => hl h.2)]
          simp only [Act.put]
          rw [Array.getElem?_eq_none (by simp; omega), Array.getElem?_eq_none (by omega)]
      · have : ¬ (k ∈ t :: l ∧ k < a.tmps.size) := by
          rintro ⟨h1, h2⟩
          rcases List.mem_cons.1 h1 with h3 | h3
          · exact ht h3.symm
          · exact hk ⟨h3, h2⟩
        rw [if_neg this]
        simp [Act.put, Array.getElem?_setIfInBounds_ne ht]

/-- the frame written out -/
theorem Agree.form {slots : List Nat} {a0 a : Act} (h : Agree slots a0 a) : a = puts a0 (slots.map fun t => (t, a.eval (.tmp t))) := by
  obtain ⟨ts, ds⟩ := a
  have hd := puts_defers (slots.map fun t => (t, Act.eval ⟨ts, ds⟩ (.tmp t))) a0
  have ht : ts = (puts a0 (slots.map fun t => (t, Act.eval ⟨ts, ds⟩ (.tmp t)))).tmps := by
    apply Array.ext_getElem?
    intro k
    rw [puts_get (fun t => Act.eval ⟨ts, ds⟩ (.tmp t))]
    by_cases hk : k ∈ slots
    · by_cases hl : k < a0.tmps.size
      · rw [if_pos ⟨hk, hl⟩]
        have : k < ts.size := by have := h.1; simp at this; omega
        simp [Act.eval, this]
      · rw [if_neg (fun x => hl x.2)]
        have : ts.size ≤ k := by have := h.1; simp at this; omega
        rw [Array.getElem?_eq_none this, Array.getElem?_eq_none (by omega)]
    · rw [if_neg (fun x => hk x.1)]
      exact h.2.2 k hk
  have h2 := h.2.1
  generalize hp : puts a0 (slots.map fun t => (t, Act.eval ⟨ts, ds⟩ (.tmp t))) = b at *
  obtain ⟨t2, d2⟩ := b
  simp at *
  exact ⟨ht, by rw [h2, hd]⟩

/-- cells are stored one after the other -/
def setFrom (w : World) (g : Nat) (i : Nat) : List Value → World
  | [] => w
  | u :: us => setFrom (w.setCell ⟨g, i, none⟩ u) g (i + 1) us

theorem setFrom_size (g : Nat) (us : List Value) : ∀ (w : World) (i : Nat), (setFrom w g i us).heap.size = w.heap.size := by
  induction us with
  | nil => intro w i; rfl
  | cons u us ih => intro w i; simp only [setFrom]; rw [ih]; simp

theorem setFrom_below {B g : Nat} (hg : B ≤ g) (us : List Value) : ∀ (w0 w : World) (i : Nat), Below B w0 w → Below B w0 (setFrom w g i us) := by
  induction us with
  | nil => intro w0 w i h; exact h
  | cons u us ih => intro w0 w i h; exact ih w0 _ _ (h.setCell hg u)

theorem setFrom_other {g k : Nat} (hk : k ≠ g) (us : List Value) : ∀ (w : World) (i : Nat), (setFrom w g i us).heap[k]? = w.heap[k]? := by
  induction us with
  | nil => intro w i; rfl
  | cons u us ih => intro w i; simp only [setFrom]; rw [ih, Below.heap_setCell _ _ _ _ hk]

theorem setFrom_box {g T : Nat} (us : List Value) : ∀ (w : World) (pre old : List Value), Box w g T (pre ++ old).toArray → old.length = us.length → Box (setFrom w g pre.length us) g T (pre ++ us).toArray := by
  induction us with
  | nil =>
    intro w pre old h hl
    obtain rfl := List.eq_nil_of_length_eq_zero hl
    exact h
  | cons u us ih =>
    intro w pre old h hl
    match old, hl with
    | o :: old, hl =>
      have h2 := h.set pre.length u
      have e : ((pre ++ o :: old).toArray.setIfInBounds pre.length u) = ((pre ++ [u]) ++ old).toArray := by
        apply Array.toList_inj.1
        simp
      rw [e] at h2
      have h3 := ih _ (pre ++ [u]) old h2 (by simpa using hl)
      rw [List.length_append] at h3
      simpa [setFrom] using h3

theorem setFrom_box0 {w : World} {g T : Nat} {z : Array Value} (us : List Value) (h : Box w g T z) (hl : z.size = us.length) : Box (setFrom w g 0 us) g T us.toArray := by
  obtain ⟨z⟩ := z
  exact setFrom_box us w [] z (by simpa using h) (by simpa using hl)

/-- what stays while new blocks are made, and own blocks that begin with an int are written -/
def Stable (base : Nat) (Φ : World → Prop) : Prop :=
  (∀ w w', Φ w → Below w.heap.size w w' → Φ w') ∧ (∀ w g T c us, Φ w → base ≤ g → Box w g T c → noInts c = true → Φ (setFrom w g 0 us))
theorem Stable.setFrom {base : Nat} {Φ : World → Prop} (hs : Stable base Φ) {g T : Nat} (hg : base ≤ g) (us : List Value) (hu : ∀ u ∈ us, isInt u = false) (w : World) (i : Nat) (c : Array Value) (h : Φ w) (hb : Box w g T c) (hc : noInts c = true) : Φ (Go.Proofs.Ytpghehckojdgeaa.setFrom w g 0 us) := hs.2 w g T c us h hg hb hc
theorem Stable.and {base : Nat} {Φ Ψ : World → Prop} (h : Stable base Φ) (k : Stable base Ψ) : Stable base (fun w => Φ w ∧ Ψ w) :=
  ⟨fun w w' x hb => ⟨h.1 w w' x.1 hb, k.1 w w' x.2 hb⟩, fun w g T c u x hg hb hc => ⟨h.2 w g T c u x.1 hg hb hc, k.2 w g T c u x.2 hg hb hc⟩⟩
theorem Stable.ex {base : Nat} {α : Sort _} {Φ : α → World → Prop} (h : ∀ x, Stable base (Φ x)) : Stable base (fun w => ∃ x, Φ x w) :=
  ⟨fun w w' ⟨x, hx⟩ hb => ⟨x, (h x).1 w w' hx hb⟩, fun w g T c u ⟨x, hx⟩ hg hb hc => ⟨x, (h x).2 w g T c u hx hg hb hc⟩⟩
theorem Stable.const (base : Nat) (p : Prop) : Stable base (fun _ => p) := ⟨fun _ _ h _ => h, fun _ _ _ _ _ h _ _ _ => h⟩
theorem Stable.held (base m : Nat) (T : Tab) (ao : Option Addr) (n : Nat) : Stable base (fun w => Held w m T ao n) :=
  ⟨fun w w' h hb => h.keep hb, fun w g ty c us h hg hb hc => by
    obtain ⟨z, hz⟩ := noInts_first hc
    exact ⟨El.only h.el ((hb.cell 0).trans hz) (fun b o hne => World.cell?_of_block (a := ⟨b, o, none⟩) (setFrom_other hne us w 0)) (by rw [setFrom_size]; exact Nat.le_refl _), h.ok⟩⟩

/-! a plan of such a region -/
inductive Kd where
  | val
  | box (T : Nat) (z : Array Value)
  | put (p s : Nat)

def Kd.isPut : Kd → Bool | .put _ _ => true | _ => false
def Kd.isVal : Kd → Bool | .val => true | _ => false

structure Shape where
  f : Nat → Nat
  kd : Nat → Kd
  need : Nat → List Nat
  st : Nat → Nat
  src : Nat → Nat

/-- what is asked of the operations' own text: by decision -/
def Shape.ok (S : Shape) (ops : Array Oper) (size : Nat) : Bool :=
  (List.range ops.size).all fun i => match ops[i]? with
    | none => false
    | some o => o.guard.isNone && decide (o.dst = if (S.kd i).isPut then none else some (S.f i)) &&
        (o.after.toList.all fun e => !Region.binds .any e || decide (e.on < i)) &&
        ((S.need i).all fun j => !(S.kd j).isPut && o.after.toList.any fun e => Region.binds .any e && decide (e.on = j)) &&
        ((S.kd i).isPut || decide (S.f i < size)) &&
        ((List.range ops.size).all fun j => decide (i = j) || (S.kd i).isPut || (S.kd j).isPut || decide (S.f i ≠ S.f j)) &&
        (match S.kd i with
          | .val => true
          | .box _ z => decide (S.st i < ops.size) && (match S.kd (S.st i) with | .put p s => decide (p = i) && decide (s = S.src i) | _ => false) && (S.need (S.st i)).contains i && (S.need (S.st i)).contains (S.src i) && noInts z
          | .put p s => decide (p < ops.size) && decide (S.st p = i) && decide (S.src p = s) && (S.need i).contains p && (S.need i).contains s && (match S.kd p with | .box _ _ => true | _ => false) && (S.kd s).isVal)

def Shape.slots (S : Shape) (n : Nat) : List Nat := ((List.range n).filter fun i => !(S.kd i).isPut).map S.f

def updV (v : Nat → Value) (i : Nat) (x : Value) : Nat → Value := fun j => if j = i then x else v j

def Shape.vals (S : Shape) (a : Act) : Nat → Value := fun i => a.eval (.tmp (S.f i))

structure Shape.Inv (S : Shape) (n base : Nat) (a0 : Act) (W0 : World) (Φ : Nat → (Nat → Value) → World → Prop) (L : Nat → Prop) (a : Act) (w : World) (blk : Nat → Nat) : Prop where
  agree : Agree (S.slots n) a0 a
  below : Below base W0 w
  hsz : base ≤ w.heap.size
  closed : ∀ i, i < n → L i → ∀ j ∈ S.need i, L j
  vals : ∀ i, i < n → L i → (S.kd i).isVal = true → Φ i (S.vals a) w
  boxes : ∀ i T z, i < n → L i → S.kd i = .box T z → S.vals a i = .pointer (some ⟨blk i, 0, none⟩) ∧ base ≤ blk i ∧
    (¬ L (S.st i) → Box w (blk i) T z) ∧ (L (S.st i) → ∃ us : List Value, S.vals a (S.src i) = .agg us.toArray ∧ us.length = z.size ∧ (∀ u ∈ us, isInt u = false) ∧ Box w (blk i) T us.toArray)
  apart : ∀ i j Ti zi Tj zj, i < n → j < n → L i → L j → S.kd i = .box Ti zi → S.kd j = .box Tj zj → i ≠ j → blk i ≠ blk j

theorem below_undrew {B : Nat} {w w' : World} (h : Below B w.drew w') : Below B w w' := ⟨h.os, h.tape, h.output, h.size, h.block⟩

theorem Box.lt {w : World} {g T : Nat} {c : Array Value} (h : Box w g T c) : g < w.heap.size := (Array.getElem?_eq_some_iff.1 h).1

theorem run_enter {P : Program} {f : FuncId} {fn : Func} {c : Code} (hf : P.funcs[f]? = some fn) (hname : (fn.name == "runtime.NumGoroutine") = false) (hb : fn.body = some c) (args : Array Value) (w : World) :
    (callFunc f args).run P w = .ok (.enter f args) w := by
  have h1 : ¬ fn.name = "runtime.NumGoroutine" := by simpa using hname
  simp [callFunc, hf, h1, hb]

theorem wp_call {P : Program} {Q : Exit → Act → World → Prop} {o : Oper} {a : Act} {w : World} {f : FuncId} {args : Array Value} {φ : Value → World → Prop} {K : Act → World → Prop}
    (hr : (execOp a.eval o).run P w = .ok (.enter f args) w) (hc : Calls P f args w fun e w' => ∃ v, e = .returned v ∧ φ v w' ∧ Below w.heap.size w w')
    (hK : ∀ v w', Below w.heap.size w w' → φ v w' → K (a.put o.dst v) w') : o.wp P a w K Q := by
  unfold Oper.wp
  rw [hr]
  refine hc.mono ?_
  rintro e w' ⟨v, rfl, h1, h2⟩
  exact hK v w' h2 h1

theorem wp_value {P : Program} {Q : Exit → Act → World → Prop} {o : Oper} {a : Act} {w w' : World} {v : Value} {K : Act → World → Prop}
    (hr : (execOp a.eval o).run P w = .ok (.value v) w') (hK : K (a.put o.dst v) w') : o.wp P a w K Q := by
  unfold Oper.wp
  rw [hr]
  exact hK

theorem run_call {P : Program} {o : Oper} {f : FuncId} {fn : Func} {c : Code} {xs : Array Operand} {ts : Array TypeId} (hf : P.funcs[f]? = some fn) (hname : (fn.name == "runtime.NumGoroutine") = false) (hb : fn.body = some c)
    (h : o.op = .call { callee := .value (.func f), args := xs, argTypes := ts }) (a : Act) (w : World) :
    (execOp a.eval o).run P w = .ok (.enter f (xs.map a.eval)) w := by
  unfold execOp
  rw [h]
  simp [go_sem, Act.eval, run_enter hf hname hb]

theorem run_move {P : Program} {o : Oper} {t : Nat} (h : o.op = .move (.tmp t)) (a : Act) (w : World) : (execOp a.eval o).run P w = .ok (.value (a.eval (.tmp t))) w := by
  unfold execOp
  rw [h]
  rfl
theorem run_assign {P : Program} {o : Oper} {t : Nat} (h : o.op = .assign (.tmp t)) (a : Act) (w : World) : (execOp a.eval o).run P w = .ok (.value (a.eval (.tmp t))) w := by
  unfold execOp
  rw [h]
  rfl
theorem run_extract {P : Program} {o : Oper} {t i : Nat} {vs : Array Value} {v : Value} (h : o.op = .extract (.tmp t) i) {a : Act} (he : a.eval (.tmp t) = .tuple vs) (hv : vs[i]? = some v) (w : World) : (execOp a.eval o).run P w = .ok (.value v) w := by
  unfold execOp
  rw [h]
  dsimp only
  rw [he]
  simp [go_sem, Instr.extract, hv]



structure Shape.At (S : Shape) (n size i : Nat) (o : Oper) : Prop where
  guard : o.guard = none
  dst : o.dst = if (S.kd i).isPut then none else some (S.f i)
  back : ∀ e ∈ o.after, Region.binds .any e = true → e.on < i
  need : ∀ j ∈ S.need i, (S.kd j).isPut = false ∧ ∃ e ∈ o.after, Region.binds .any e = true ∧ e.on = j
  slot : (S.kd i).isPut = false → S.f i < size
  inj : ∀ j, j < n → i ≠ j → (S.kd i).isPut = false → (S.kd j).isPut = false → S.f i ≠ S.f j
  box : ∀ T z, S.kd i = .box T z → S.st i < n ∧ S.kd (S.st i) = .put i (S.src i) ∧ i ∈ S.need (S.st i) ∧ S.src i ∈ S.need (S.st i) ∧ noInts z = true
  put : ∀ p s, S.kd i = .put p s → p < n ∧ S.st p = i ∧ S.src p = s ∧ p ∈ S.need i ∧ s ∈ S.need i ∧ (∃ T z, S.kd p = .box T z) ∧ (S.kd s).isVal = true

theorem Shape.ok_at {S : Shape} {ops : Array Oper} {size i : Nat} {o : Oper} (h : S.ok ops size = true) (ho : ops[i]? = some o) : S.At ops.size size i o := by
  have hi : i < ops.size := (Array.getElem?_eq_some_iff.1 ho).1
  have h1 := List.all_eq_true.1 h i (List.mem_range.2 hi)
  simp only [ho] at h1
  rw [Bool.and_eq_true, Bool.and_eq_true, Bool.and_eq_true, Bool.and_eq_true, Bool.and_eq_true, Bool.and_eq_true] at h1
  obtain ⟨⟨⟨⟨⟨⟨g1, g2⟩, g3⟩, g4⟩, g5⟩, g6⟩, g7⟩ := h1
  refine ⟨by simpa using g1, by simpa using g2, fun e he hb => ?_, fun j hj => ?_, fun hp => ?_, fun j hj hne hp hq => ?_, fun T z hk => ?_, fun p s hk => ?_⟩
  · have := List.all_eq_true.1 g3 e (by simpa using he)
    simpa [hb] using this
  · have h2 := List.all_eq_true.1 g4 j hj
    rw [Bool.and_eq_true] at h2
    refine ⟨by simpa using h2.1, ?_⟩
    obtain ⟨e, he, hx⟩ := List.any_eq_true.1 h2.2
    simp at hx
    exact ⟨e, by simpa using he, hx.1, hx.2⟩
  · simpa [hp] using g5
  · have h2 := List.all_eq_true.1 g6 j (List.mem_range.2 hj)
    simpa [hne, hp, hq] using h2
  · simp only [hk] at g7
    rw [Bool.and_eq_true, Bool.and_eq_true, Bool.and_eq_true, Bool.and_eq_true] at g7
    obtain ⟨⟨⟨⟨a1, a2⟩, a3⟩, a4⟩, a5⟩ := g7
    refine ⟨by simpa using a1, ?_, by simpa using a3, by simpa using a4, a5⟩
    cases hst : S.kd (S.st i) with
    | val => rw [hst] at a2; simp at a2
    | box T z => rw [hst] at a2; simp at a2
    | put p s => rw [hst] at a2; simp at a2; rw [a2.1, a2.2]
  · simp only [hk] at g7
    rw [Bool.and_eq_true, Bool.and_eq_true, Bool.and_eq_true, Bool.and_eq_true, Bool.and_eq_true, Bool.and_eq_true] at g7
    obtain ⟨⟨⟨⟨⟨⟨a1, a2⟩, a3⟩, a4⟩, a5⟩, a6⟩, a7⟩ := g7
    refine ⟨by simpa using a1, by simpa using a2, by simpa using a3, by simpa using a4, by simpa using a5, ?_, a7⟩
    cases hp : S.kd p with
    | val => rw [hp] at a6; simp at a6
    | box T z => exact ⟨T, z, rfl⟩
    | put p' s' => rw [hp] at a6; simp at a6

theorem notput_val {k : Kd} (h : k.isVal = true) : k.isPut = false := by cases k <;> simp_all [Kd.isVal, Kd.isPut]

theorem Shape.mem_slots {S : Shape} {n i : Nat} (hi : i < n) (h : (S.kd i).isPut = false) : S.f i ∈ S.slots n :=
  List.mem_map.2 ⟨i, List.mem_filter.2 ⟨List.mem_range.2 hi, by simp [h]⟩, rfl⟩

section
variable {P : Program} {ops : Array Oper} {Q : Exit → Act → World → Prop}

theorem Shape.region {id : Nat} {a0 : Act} {W : World} {base : Nat} (S : Shape) (Φ : Nat → (Nat → Value) → World → Prop) (hm : P.follows .mixedOrders = true) (hok : S.ok ops a0.tmps.size = true)
    (hdep : ∀ i v v' w, i < ops.size → (∀ j, (j = i ∨ j ∈ S.need i) → v j = v' j) → Φ i v w → Φ i v' w)
    (hstab : ∀ i v, i < ops.size → Stable base (Φ i v))
    (hval : ∀ i o, ops[i]? = some o → (S.kd i).isVal = true → ∀ a w, Agree (S.slots ops.size) a0 a → Below base W.drew w → base ≤ w.heap.size →
      (∀ j ∈ S.need i, (S.kd j).isVal = true → Φ j (S.vals a) w) → ∀ K : Act → World → Prop, (∀ v w', Below w.heap.size w w' → Φ i (updV (S.vals a) i v) w' → K (a.put o.dst v) w') → o.wp P a w K Q)
    (hbox : ∀ i o T z, ops[i]? = some o → S.kd i = .box T z → ∀ (a : Act) (w : World), (execOp a.eval o).run P w = .ok (.value (.pointer (some ⟨w.heap.size, 0, none⟩))) (w.alloc (.cells z T)))
    (hput : ∀ i o p s T z, ops[i]? = some o → S.kd i = .put p s → S.kd p = .box T z → ∀ (a : Act) (w : World) (g : Nat), S.vals a p = .pointer (some ⟨g, 0, none⟩) → Φ s (S.vals a) w → Box w g T z →
      ∃ us : List Value, S.vals a s = .agg us.toArray ∧ us.length = z.size ∧ (∀ u ∈ us, isInt u = false) ∧ (execOp a.eval o).run P w = .ok .skip (setFrom w g 0 us))
    (hbase : base = W.heap.size)
    (hend : ∀ a w blk, S.Inv ops.size base a0 W.drew Φ (fun i => i < ops.size) a w blk → Q .normal a w) :
    (Code.region id ops true).wp P Q a0 W := by
  subst hbase
  refine wp_region_any hm (wpAny_inv (md := .any) (Inv := fun L a w => ∃ blk, S.Inv ops.size W.heap.size a0 W.drew Φ (fun i => L.getD i false = true) a w blk) ?step ?fin _ _ _ _ (by simp) (by simp) ⟨fun _ => 0, ?init⟩)
  case init =>
    have h0 : ∀ i, ¬ ((Array.replicate ops.size false).getD i false = true) := by
      intro i h
      rw [Array.getD_eq_getD_getElem?, Array.getElem?_replicate] at h
      split at h <;> simp at h
    exact ⟨Agree.refl _ _, Below.refl _ _, Nat.le_refl _, fun i _ h => absurd h (h0 i), fun i _ h => absurd h (h0 i), fun i T z _ h => absurd h (h0 i), fun i j Ti zi Tj zj _ _ h => absurd h (h0 i)⟩
  case fin =>
    intro L a w hs ⟨blk, hI⟩ hr
    have hall : ∀ i, i < ops.size → L.getD i false = true := by
      intro i
      induction i using Nat.strongRecOn with
      | ind i ih =>
        intro hi
        cases hL : L.getD i false with
        | true => rfl
        | false =>
          exfalso
          have hun : L.getD i true = false := by
            have : i < L.size := by omega
            simpa [this] using hL
          have ho : ops[i]? = some ops[i] := Array.getElem?_eq_getElem hi
          have hA := Shape.ok_at hok ho
          have hm : i ∈ Region.ready .any ops L := mem_ready.2 ⟨hun, _, ho, fun e he hb => by
            have hlt := hA.back e he hb
            exact ih e.on hlt (by omega)⟩
          rw [hr] at hm
          cases hm
    refine hend a w blk ⟨hI.agree, hI.below, hI.hsz, ?_, fun i hi _ => hI.vals i hi (hall i hi), fun i T z hi _ hk => ?_, fun i j Ti zi Tj zj hi hj _ _ => hI.apart i j Ti zi Tj zj hi hj (hall i hi) (hall j hj)⟩
    · intro i hi _ j hj
      have ho : ops[i]? = some ops[i] := Array.getElem?_eq_getElem hi
      have hA := Shape.ok_at hok ho
      obtain ⟨_, e, he, hb, rfl⟩ := hA.need j hj
      have := hA.back e he hb
      show e.on < ops.size
      omega
    · obtain ⟨h1, h2, h3, h4⟩ := hI.boxes i T z hi (hall i hi) hk
      have ho : ops[i]? = some ops[i] := Array.getElem?_eq_getElem hi
      have hst := ((Shape.ok_at hok ho).box T z hk).1
      exact ⟨h1, h2, fun h => absurd hst h, fun _ => h4 (hall _ hst)⟩
  case step =>
    intro L a w i hs ⟨blk, hI⟩ hr
    obtain ⟨hun, o, ho, hafter⟩ := mem_ready.1 hr
    have hi : i < ops.size := (Array.getElem?_eq_some_iff.1 ho).1
    have hiL : i < L.size := by omega
    have hnot : ¬ L.getD i false = true := by
      have : L.getD i false = false := by simpa [hiL] using hun
      rw [this]; decide
    have hA := Shape.ok_at hok ho
    have hneed : ∀ j ∈ S.need i, L.getD j false = true := by
      intro j hj
      obtain ⟨_, e, he, hb, rfl⟩ := hA.need j hj
      exact hafter e he hb
    have hset : ∀ j, (L.setIfInBounds i true).getD j false = true ↔ (j = i ∨ L.getD j false = true) := by
      intro j
      by_cases hj : j = i
      · subst hj; simp [hiL]
      · rw [getD_set_ne false (Ne.symm hj)]; simp [hj]
    have hneedlt : ∀ k, k < ops.size → ∀ j ∈ S.need k, j < ops.size ∧ (S.kd j).isPut = false := by
      intro k hk j hj
      have ho : ops[k]? = some ops[k] := Array.getElem?_eq_getElem hk
      have hA := Shape.ok_at hok ho
      obtain ⟨h1, e, he, hb, rfl⟩ := hA.need j hj
      have := hA.back e he hb
      exact ⟨by omega, h1⟩
    have hclosed : ∀ k, k < ops.size → (L.setIfInBounds i true).getD k false = true → ∀ j ∈ S.need k, (L.setIfInBounds i true).getD j false = true := by
      intro k hk hL j hj
      rw [hset] at hL ⊢
      rcases hL with rfl | hL
      · exact .inr (hneed j hj)
      · exact .inr (hI.closed k hk hL j hj)
    have hw : Region.wanted o (yielded ops a.tmps) = true := by
      unfold Region.wanted
      rw [hA.guard]
    unfold wpOp
    simp only [ho, hw, if_true]
    left
    cases hk : S.kd i with
    | val =>
      have hv : (S.kd i).isVal = true := by rw [hk]; rfl
      have hnp := notput_val hv
      have hdst : o.dst = some (S.f i) := by rw [hA.dst, hnp]; rfl
      refine hval i o ho hv a w hI.agree hI.below hI.hsz (fun j hj hjv => hI.vals j (hneedlt i hi j hj).1 (hneed j hj) hjv) _ fun v w' hb hΦ => ?_
      rw [hdst]
      have hslot := hA.slot hnp
      have hself : S.vals (a.put (some (S.f i)) v) i = v := eval_put_self (by rw [hI.agree.1]; exact hslot) v
      have hother : ∀ j, j < ops.size → j ≠ i → (S.kd j).isPut = false → S.vals (a.put (some (S.f i)) v) j = S.vals a j := fun j hj hne hp => eval_put_ne (hA.inj j hj (Ne.symm hne) hnp hp) v
      have hne_of : ∀ k, k < ops.size → L.getD k false = true → k ≠ i := fun k _ hL e => hnot (e ▸ hL)
      refine ⟨blk, hI.agree.put (Shape.mem_slots hi hnp) v, hI.below.trans (hb.mono hI.hsz), Nat.le_trans hI.hsz hb.size, hclosed, ?_, ?_, ?_⟩
      · intro k hk' hL hkv
        rw [hset] at hL
        by_cases hki : k = i
        · subst hki
          refine hdep k _ _ w' hi (fun j hj => ?_) hΦ
          rcases hj with rfl | hj
          · simp [updV, hself]
          · have hjne : j ≠ k := hne_of j (hneedlt k hi j hj).1 (hneed j hj)
            simp only [updV, if_neg hjne]
            exact (hother j (hneedlt k hi j hj).1 hjne (hneedlt k hi j hj).2).symm
        · have hLk := hL.resolve_left hki
          refine (hstab k _ hk').1 w w' (hdep k (S.vals a) _ w hk' (fun j hj => ?_) (hI.vals k hk' hLk hkv)) hb
          rcases hj with rfl | hj
          · exact (hother j hk' hki (notput_val hkv)).symm
          · exact (hother j (hneedlt k hk' j hj).1 (hne_of j (hneedlt k hk' j hj).1 (hI.closed k hk' hLk j hj)) (hneedlt k hk' j hj).2).symm
      · intro k T z hk' hL hkb
        rw [hset] at hL
        have hki : k ≠ i := fun e => by subst e; rw [hk] at hkb; cases hkb
        have hLk := hL.resolve_left hki
        obtain ⟨h1, h2, h3, h4⟩ := hI.boxes k T z hk' hLk hkb
        have hAk := Shape.ok_at hok (Array.getElem?_eq_getElem hk')
        obtain ⟨s1, s2, s3, s4, s5⟩ := hAk.box T z hkb
        have hsti : S.st k ≠ i := fun e => by rw [e, hk] at s2; cases s2
        have hLst : ((L.setIfInBounds i true).getD (S.st k) false = true) ↔ (L.getD (S.st k) false = true) := by rw [hset]; simp [hsti]
        have hlt : ∀ {c : Array Value}, Box w (blk k) T c → Box w' (blk k) T c := fun hb' => hb'.below hb hb'.lt
        refine ⟨(hother k hk' hki (by rw [hkb]; rfl)).trans h1, h2, fun hn => hlt (h3 (fun x => hn (hLst.2 x))), fun hy => ?_⟩
        obtain ⟨us, u1, u2, u3, u4⟩ := h4 (hLst.1 hy)
        have hsrcL := hI.closed (S.st k) s1 (hLst.1 hy) (S.src k) s4
        refine ⟨us, (hother (S.src k) (hneedlt _ s1 _ s4).1 (hne_of _ (hneedlt _ s1 _ s4).1 hsrcL) (hneedlt _ s1 _ s4).2).trans u1, u2, u3, hlt u4⟩
      · intro k j Tk zk Tj zj hk' hj' hLk hLj hkk hkj hne
        rw [hset] at hLk hLj
        have h1 : k ≠ i := fun e => by subst e; rw [hk] at hkk; cases hkk
        have h2 : j ≠ i := fun e => by subst e; rw [hk] at hkj; cases hkj
        exact hI.apart k j Tk zk Tj zj hk' hj' (hLk.resolve_left h1) (hLj.resolve_left h2) hkk hkj hne
    | box T z =>
      have hnp : (S.kd i).isPut = false := by rw [hk]; rfl
      have hdst : o.dst = some (S.f i) := by rw [hA.dst, hnp]; rfl
      have hslot := hA.slot hnp
      unfold Oper.wp
      rw [hbox i o T z ho hk a w]
      show ∃ blk, _
      rw [hdst]
      have hself : ∀ v, S.vals (a.put (some (S.f i)) v) i = v := fun v => eval_put_self (by rw [hI.agree.1]; exact hslot) v
      have hother : ∀ v j, j < ops.size → j ≠ i → (S.kd j).isPut = false → S.vals (a.put (some (S.f i)) v) j = S.vals a j := fun v j hj hne hp => eval_put_ne (hA.inj j hj (Ne.symm hne) hnp hp) v
      have hne_of : ∀ k, k < ops.size → L.getD k false = true → k ≠ i := fun k _ hL e => hnot (e ▸ hL)
      have hb : Below w.heap.size w (w.alloc (.cells z T)) := (Below.refl _ _).alloc (Nat.le_refl _) _
      obtain ⟨t1, t2, t3, t4, t5⟩ := hA.box T z hk
      refine ⟨fun k => if k = i then w.heap.size else blk k, hI.agree.put (Shape.mem_slots hi hnp) _, hI.below.trans (hb.mono hI.hsz), Nat.le_trans hI.hsz hb.size, hclosed, ?_, ?_, ?_⟩
      · intro k hk' hL hkv
        rw [hset] at hL
        have hki : k ≠ i := fun e => by subst e; rw [hk] at hkv; cases hkv
        have hLk := hL.resolve_left hki
        refine (hstab k _ hk').1 w _ (hdep k (S.vals a) _ w hk' (fun j hj => ?_) (hI.vals k hk' hLk hkv)) hb
        rcases hj with rfl | hj
        · exact (hother _ j hk' hki (notput_val hkv)).symm
        · exact (hother _ j (hneedlt k hk' j hj).1 (hne_of j (hneedlt k hk' j hj).1 (hI.closed k hk' hLk j hj)) (hneedlt k hk' j hj).2).symm
      · intro k T' z' hk' hL hkb
        rw [hset] at hL
        by_cases hki : k = i
        · subst hki
          rw [hk] at hkb
          cases hkb
          refine ⟨by rw [hself]; simp, by simp; exact hI.hsz, fun _ => by simp; exact Box.new w T z, fun hy => ?_⟩
          rw [hset] at hy
          rcases hy with hy | hy
          · rw [hy, hk] at t2; cases t2
          · exact absurd (hI.closed _ t1 hy _ t3) hnot
        · have hLk := hL.resolve_left hki
          obtain ⟨h1, h2, h3, h4⟩ := hI.boxes k T' z' hk' hLk hkb
          have hAk := Shape.ok_at hok (Array.getElem?_eq_getElem hk')
          obtain ⟨s1, s2, s3, s4, s5⟩ := hAk.box T' z' hkb
          have hsti : S.st k ≠ i := fun e => by rw [e, hk] at s2; cases s2
          have hLst : ((L.setIfInBounds i true).getD (S.st k) false = true) ↔ (L.getD (S.st k) false = true) := by rw [hset]; simp [hsti]
          have hlt : ∀ {c : Array Value}, Box w (blk k) T' c → Box (w.alloc (.cells z T)) (blk k) T' c := fun hb' => hb'.below hb hb'.lt
          simp only [if_neg hki]
          refine ⟨(hother _ k hk' hki (by rw [hkb]; rfl)).trans h1, h2, fun hn => hlt (h3 (fun x => hn (hLst.2 x))), fun hy => ?_⟩
          obtain ⟨us, u1, u2, u3, u4⟩ := h4 (hLst.1 hy)
          have hsrcL := hI.closed (S.st k) s1 (hLst.1 hy) (S.src k) s4
          exact ⟨us, (hother _ (S.src k) (hneedlt _ s1 _ s4).1 (hne_of _ (hneedlt _ s1 _ s4).1 hsrcL) (hneedlt _ s1 _ s4).2).trans u1, u2, u3, hlt u4⟩
      · have hltk : ∀ k T' z', k < ops.size → L.getD k false = true → S.kd k = .box T' z' → blk k < w.heap.size := by
          intro k T' z' hk' hLk hkb
          obtain ⟨h1, h2, h3, h4⟩ := hI.boxes k T' z' hk' hLk hkb
          by_cases hst : L.getD (S.st k) false = true
          · obtain ⟨us, _, _, _, u4⟩ := h4 hst
            exact u4.lt
          · exact (h3 hst).lt
        intro k j Tk zk Tj zj hk' hj' hLk hLj hkk hkj hne
        rw [hset] at hLk hLj
        by_cases h1 : k = i
        · have h2 : j ≠ i := fun e => hne (h1.trans e.symm)
          have := hltk j Tj zj hj' (hLj.resolve_left h2) hkj
          simp only [if_pos h1, if_neg h2]; omega
        · by_cases h2 : j = i
          · have := hltk k Tk zk hk' (hLk.resolve_left h1) hkk
            simp only [if_neg h1, if_pos h2]; omega
          · simp only [if_neg h1, if_neg h2]
            exact hI.apart k j Tk zk Tj zj hk' hj' (hLk.resolve_left h1) (hLj.resolve_left h2) hkk hkj hne
    | put p s =>
      have hdst : o.dst = none := by rw [hA.dst, hk]; rfl
      obtain ⟨p1, p2, p3, p4, p5, ⟨T, z, hp⟩, hsv⟩ := hA.put p s hk
      have hLp := hneed p p4
      have hLs := hneed s p5
      obtain ⟨h1, h2, h3, h4⟩ := hI.boxes p T z p1 hLp hp
      have hbx := h3 (by rw [p2]; exact hnot)
      obtain ⟨us, u1, u2, u3, u4⟩ := hput i o p s T z ho hk hp a w (blk p) h1 (hI.vals s (hneedlt i hi s p5).1 hLs hsv) hbx
      unfold Oper.wp
      rw [u4]
      show ∃ blk, _
      rw [hdst]
      have hAp := Shape.ok_at hok (Array.getElem?_eq_getElem p1)
      have hz := (hAp.box T z hp).2.2.2.2
      refine ⟨blk, hI.agree, setFrom_below h2 _ _ _ _ hI.below, by rw [setFrom_size]; exact hI.hsz, hclosed, ?_, ?_, ?_⟩
      · intro k hk' hL hkv
        rw [hset] at hL
        have hki : k ≠ i := fun e => by subst e; rw [hk] at hkv; cases hkv
        exact (hstab k _ hk').setFrom h2 us u3 w 0 z (hI.vals k hk' (hL.resolve_left hki) hkv) hbx hz
      · intro k T' z' hk' hL hkb
        rw [hset] at hL
        have hki : k ≠ i := fun e => by subst e; rw [hk] at hkb; cases hkb
        have hLk := hL.resolve_left hki
        obtain ⟨g1, g2, g3, g4⟩ := hI.boxes k T' z' hk' hLk hkb
        by_cases hkp : k = p
        · subst hkp
          rw [hp] at hkb
          cases hkb
          refine ⟨g1, g2, fun hn => absurd ((hset _).2 (.inl p2)) hn, fun _ => ⟨us, by rw [p3]; exact u1, u2, u3, setFrom_box0 us hbx u2.symm⟩⟩
        · have hAk := Shape.ok_at hok (Array.getElem?_eq_getElem hk')
          obtain ⟨s1, s2, s3, s4, s5⟩ := hAk.box T' z' hkb
          have hsti : S.st k ≠ i := fun e => by rw [e, hk] at s2; cases s2; exact hkp rfl
          have hLst : ((L.setIfInBounds i true).getD (S.st k) false = true) ↔ (L.getD (S.st k) false = true) := by rw [hset]; simp [hsti]
          have hne := hI.apart k p T' z' T z hk' p1 hLk hLp hkb hp hkp
          have hlt : ∀ {c : Array Value}, Box w (blk k) T' c → Box (setFrom w (blk p) 0 us) (blk k) T' c := fun hb' => (setFrom_other hne us w 0).trans hb'
          refine ⟨g1, g2, fun hn => hlt (g3 (fun x => hn (hLst.2 x))), fun hy => ?_⟩
          obtain ⟨vs, v1, v2, v3, v4⟩ := g4 (hLst.1 hy)
          exact ⟨vs, v1, v2, v3, hlt v4⟩
      · intro k j Tk zk Tj zj hk' hj' hLk hLj hkk hkj hne
        rw [hset] at hLk hLj
        have e1 : k ≠ i := fun e => by subst e; rw [hk] at hkk; cases hkk
        have e2 : j ≠ i := fun e => by subst e; rw [hk] at hkj; cases hkj
        exact hI.apart k j Tk zk Tj zj hk' hj' (hLk.resolve_left e1) (hLj.resolve_left e2) hkk hkj hne
end
end Go.Proofs.Ytpghehckojdgeaa
