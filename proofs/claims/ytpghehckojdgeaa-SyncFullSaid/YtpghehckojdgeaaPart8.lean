/- Part 8 of the contracts: RRem, RPutT. -/
import Derived.Test.YtpghehckojdgeaaPart7

/- The document's Remove. (By gen_rref.py.) -/
set_option linter.unusedVariables false
set_option linter.unusedSimpArgs false
namespace Go.Proofs.Ytpghehckojdgeaa
open Go.RowKit Go.Shelf Go.Sort

set_option maxRecDepth 100000 in
set_option maxHeartbeats 8000000 in
theorem refrem_any (s : Nat → Nat) (ao : Option Addr) (n c : Nat) (xs : List Ent) (k : ByteArray) (W : World) (h : El W ao n xs) (hn : n ≤ 900000) :
    Calls Try.prog 58 #[tabV s (.slice ao n c), .string k] W (OutR W (remT ⟨s, xs⟩ k)) := by
  obtain ⟨V, hV⟩ : ∃ V, V = (W.alloc (.cells #[.int .i64 (s 0 : Int), .int .i64 (s 1 : Int), .int .i64 (s 2 : Int), .int .i64 (s 3 : Int), .int .i64 (s 4 : Int), .int .i64 (s 5 : Int), .int .i64 (s 6 : Int), .int .i64 (s 7 : Int), .slice ao n c] 36)).alloc (.cells #[.int .i64 0, .int .i64 0, .int .i64 0, .int .i64 0, .int .i64 0, .int .i64 0, .int .i64 0, .int .i64 0, .slice none 0 0] 36) := ⟨_, rfl⟩
  have HB : Hid (Below W.heap.size W V) := Lib.hid (by rw [hV]; exact below2 W _ _)
  have TA : Hid (RTab V W.heap.size s (.slice ao n c)) := Lib.hid (by unfold RTab; rw [hV]; exact block1 W _ _)
  have TR : Hid (V.heap[W.heap.size + 1]? = some (.cells #[.int .i64 0, .int .i64 0, .int .i64 0, .int .i64 0, .int .i64 0, .int .i64 0, .int .i64 0, .int .i64 0, .slice none 0 0] 36 (0, 0))) := Lib.hid (by rw [hV]; exact block2 W _ _)
  have HE := Lib.hid (h.keep HB.out)
  have HN := Lib.hid h.1
  have HV := Lib.hid hV
  have pn : (n : Int) ≤ 900000 := by omega
  obtain ⟨R, hR⟩ : ∃ R : List Ent → List Ent, R = fun l => l.filter (fun x => !(isKeyB k x)) := ⟨_, rfl⟩
  have R0 : Hid (R [] = []) := Lib.hid (by rw [hR]; rfl)
  have RS : Hid (∀ l y, R (l ++ [y]) = R l ++ (if isKeyB k y then [] else [y])) := Lib.hid (fun l y => by rw [hR]; simp only [List.filter_append]; cases hh : isKeyB k y <;> simp [hh])
  have RL : Hid (∀ l, (R l).length ≤ l.length) := Lib.hid (fun l => by rw [hR]; exact List.length_filter_le _ _)
  have hpost : (remT ⟨s, xs⟩ k) = ⟨s, R xs⟩ := by rw [hR]; rfl
  rw [hpost]
  clear hV h hR hpost
  show Calls _ _ _ _ (fun e w' => ∃ ao n cap, e = .returned (tabV s (.slice ao n cap)) ∧ El w' ao n (R xs) ∧ n ≤ cap ∧ cap ≤ maxLen ∧ Below W.heap.size W w')
  unfold tabV
  go_enter Try.func58, Try.ntmps58
  go_upto_region 1 with fail
  rw [← HV.out]
  go_wp2
  go_loopg [5, 6] n (fun gg s5 s6 wr => ∃ (j l : Nat), s6 = .int .i64 (j : Int) ∧ j ≤ n ∧ n - j ≤ gg ∧ l ≤ j ∧ Hid (OwnE wr V.heap.size s5 l (R (xs.take j))) ∧ Hid (Below V.heap.size V wr))
  case atStart => exact ⟨0, 0, rfl, Nat.zero_le _, by omega, Nat.le_refl _, Lib.hid (by rw [List.take_zero, R0.out]; exact OwnE.nil _ _), Lib.hid (Below.refl _ _)⟩
  case round =>
    obtain ⟨j, l, rfl, hj, hgg, hlj, HO, HBr⟩ := hrel
    have j0 : (0 : Int) ≤ (j : Int) := by omega
    obtain ⟨q0, q1, q2, q3, q4, q5, q6, q7, q8⟩ := cell_nine (TA.out.keep HBr.out)
    by_cases hlt : j < n
    · have hltz : (j : Int) < (n : Int) := by omega
      obtain ⟨g, hg, hc⟩ : ∃ g, ao = some ⟨g, 0, none⟩ ∧ At4 wr g (j * 4) xs[j]! := by
        have he := HE.out.keep HBr.out
        rcases he.2 with ⟨_, h0⟩ | ⟨g, hg, hr⟩
        · omega
        · exact ⟨g, hg, hr.2 j (by rw [HN.out]; exact hlt)⟩
      have HTK : Hid (xs.take (j + 1) = xs.take j ++ [xs[j]!]) := Lib.hid (take_succ! (by rw [HN.out]; exact hlt))
      obtain ⟨y, hy⟩ : ∃ y, y = xs[j]! := ⟨_, rfl⟩
      rw [← hy] at hc HTK
      have HSN := Lib.hid (RS.out (xs.take j) y)
      clear hy
      obtain ⟨c0, c1, c2, c3⟩ := hc
      subst hg
      by_cases hk : y.key = k
      · have qk := str_eq hk
        have e : isKeyB k y = true := by unfold isKeyB; simp [hk]
        rw [e] at HSN
        clear hk e
        go_wp2
        go_roundg (n - (j + 1))
        case measure => omega
        case rel => exact ⟨j + 1, l, by go_num, by omega, Nat.le_refl _, by omega, Lib.hid (by rw [HTK.out, HSN.out]; simpa using HO.out), HBr⟩
      · have qk := str_ne hk
        have e : isKeyB k y = false := by unfold isKeyB; simp [hk]
        rw [e] at HSN
        clear hk e
        have HO7 := Lib.hid (HO.out.keep (box_below wr (.cells #[.string y.key, .string y.val, .int .i64 (y.site : Int), .int .i64 (y.count : Int)] 82)))
        have B8 := Lib.hid (HBr.out.trans ((box_below wr (.cells #[.string y.key, .string y.val, .int .i64 (y.site : Int), .int .i64 (y.count : Int)] 82)).mono HBr.out.size))
        have HC8 := Lib.hid (rowE_new wr y 82)
        go_wp2_with (at_builtin; refine wpList_appE rfl (.tmp 22) (.tmp 28) rfl V.heap.size _ l (R (xs.take j)) rfl HO7.out wr.heap.size 1 1 [y] rfl HC8.out rfl (by omega) (by omega) B8.out.size ?_; intro g9 cap9 w9 hown9 hb9 hs9; have HO9 := Lib.hid hown9; have B9 := Lib.hid (B8.out.trans hb9); clear hown9 hb9 hs9)
        go_roundg (n - (j + 1))
        case measure => omega
        case rel => exact ⟨j + 1, l + 1, by go_num, by omega, Nat.le_refl _, by omega, Lib.hid (by rw [HTK.out, HSN.out]; exact HO9.out), B9⟩
    · obtain rfl : j = n := by omega
      have hltz : ¬ (j : Int) < (j : Int) := by omega
      obtain ⟨a1, k1, rfl, hel, hk1, hk2⟩ := HO.out.el
      rw [List.take_of_length_le (by rw [HN.out]; exact Nat.le_refl _)] at hel
      have HEL := Lib.hid hel
      have HK1 := Lib.hid hk1
      have HK2 := Lib.hid hk2
      clear hel hk1 hk2
      have f8 := free_nine (TA.out.keep HBr.out) 8
      go_upto_region 8 with fail
      obtain ⟨V2, hV2⟩ : ∃ V2, V2 = wr.setCell ⟨W.heap.size, 8, none⟩ (.slice a1 l k1) := ⟨_, rfl⟩
      have B2 : Hid (Below W.heap.size W V2) := Lib.hid (by rw [hV2]; exact (HB.out.trans (HBr.out.mono HB.out.size)).setCell (p := ⟨W.heap.size, 8, none⟩) (Nat.le_refl _) _)
      have T2 : Hid (RTab V2 W.heap.size s (.slice a1 l k1)) := Lib.hid (by rw [hV2]; exact (TA.out.keep HBr.out).slice)
      have E2 : Hid (El V2 a1 l (R xs)) := Lib.hid (by rw [hV2]; exact El.only HEL.out q0 (fun b q hb => only_set b q hb) (by simp))
      have R2 : Hid (V2.heap[W.heap.size + 1]? = some (.cells #[.int .i64 0, .int .i64 0, .int .i64 0, .int .i64 0, .int .i64 0, .int .i64 0, .int .i64 0, .int .i64 0, .slice none 0 0] 36 (0, 0))) := Lib.hid (by rw [hV2, Below.heap_setCell _ _ _ _ (by simp)]; exact row_keep HBr.out TR.out)
      rw [← hV2]
      clear hV2 q0 q1 q2 q3 q4 q5 q6 q7 q8 f8
      obtain ⟨q0, q1, q2, q3, q4, q5, q6, q7, q8⟩ := cell_nine T2.out
      obtain ⟨r0, r1, r2, r3, r4, r5, r6, r7, r8⟩ := cell_nine R2.out
      have f0 := free_nine R2.out 0; have f1 := free_nine R2.out 1; have f2 := free_nine R2.out 2; have f3 := free_nine R2.out 3; have f4 := free_nine R2.out 4; have f5 := free_nine R2.out 5; have f6 := free_nine R2.out 6; have f7 := free_nine R2.out 7; have f8 := free_nine R2.out 8
      go_wp2
      refine bodyPost_ret (v := tabV s (.slice a1 l k1)) (results_cell_row Try.results58 _ _ (W.heap.size + 1) 36 (tabC s (.slice a1 l k1)) (0, 0) _ rfl (set_nine R2.out) Try.underlying36 (by kernel_rfl) (by kernel_rfl)) rfl ?_
      exact ⟨a1, l, k1, rfl, El.only E2.out r0 (fun b o hb => cell_set9 _ _ _ _ _ _ _ _ _ _ _ _ _ hb) (by simp), HK1.out, HK2.out, below_set9 _ _ _ _ _ _ _ _ _ B2.out (by omega)⟩
end Go.Proofs.Ytpghehckojdgeaa

/- The document's Put of a table. (By gen_rput2.py.) -/
set_option linter.unusedVariables false
set_option linter.unusedSimpArgs false
namespace Go.Proofs.Ytpghehckojdgeaa
open Go.RowKit Go.Shelf Go.Sort


set_option maxRecDepth 100000 in
set_option maxHeartbeats 4000000 in
theorem refput_neg (s : Nat → Nat) (ao : Option Addr) (n c : Nat) (z : Int) (k v : ByteArray) (W : World) (hz : z < 0) :
    Calls Try.prog 24 #[tabV s (.slice ao n c), .int .i64 z, .string k, .string v] W fun e w' => e = .returned (.tuple #[.agg #[.int .i64 0, .int .i64 0, .int .i64 0, .int .i64 0, .int .i64 0, .int .i64 0, .int .i64 0, .int .i64 0, .slice none 0 0], .int .i64 80]) ∧ Below W.heap.size W w' := by
  obtain ⟨V, hV⟩ : ∃ V, V = (W.alloc (.cells #[.int .i64 (s 0 : Int), .int .i64 (s 1 : Int), .int .i64 (s 2 : Int), .int .i64 (s 3 : Int), .int .i64 (s 4 : Int), .int .i64 (s 5 : Int), .int .i64 (s 6 : Int), .int .i64 (s 7 : Int), .slice ao n c] 36)).alloc (.cells #[.int .i64 0, .int .i64 0, .int .i64 0, .int .i64 0, .int .i64 0, .int .i64 0, .int .i64 0, .int .i64 0, .slice none 0 0] 36) := ⟨_, rfl⟩
  have HB : Hid (Below W.heap.size W V) := Lib.hid (by rw [hV]; exact below2 W _ _)
  have TA : Hid (RTab V W.heap.size s (.slice ao n c)) := Lib.hid (by unfold RTab; rw [hV]; exact block1 W _ _)
  have TR : Hid (V.heap[W.heap.size + 1]? = some (.cells #[.int .i64 0, .int .i64 0, .int .i64 0, .int .i64 0, .int .i64 0, .int .i64 0, .int .i64 0, .int .i64 0, .slice none 0 0] 36 (0, 0))) := Lib.hid (by rw [hV]; exact block2 W _ _)
  have HV := Lib.hid hV
  clear hV
  have d1 : decide (z < 0) = true := by simpa using hz
  obtain ⟨q0, q1, q2, q3, q4, q5, q6, q7, q8⟩ := cell_nine TR.out
  have f0 := free_nine TR.out 0; have f1 := free_nine TR.out 1; have f2 := free_nine TR.out 2; have f3 := free_nine TR.out 3; have f4 := free_nine TR.out 4; have f5 := free_nine TR.out 5; have f6 := free_nine TR.out 6; have f7 := free_nine TR.out 7; have f8 := free_nine TR.out 8
  unfold tabV
  go_enter Try.func24, Try.ntmps24
  go_upto_region 1 with fail
  rw [← HV.out]
  go_wp2
  refine bodyPost_ret (v := .tuple #[.agg #[.int .i64 0, .int .i64 0, .int .i64 0, .int .i64 0, .int .i64 0, .int .i64 0, .int .i64 0, .int .i64 0, .slice none 0 0], .int .i64 80]) (results_cell_tmp Try.results24 _ _ (W.heap.size + 1) 36 #[.int .i64 0, .int .i64 0, .int .i64 0, .int .i64 0, .int .i64 0, .int .i64 0, .int .i64 0, .int .i64 0, .slice none 0 0] (0, 0) _ rfl (set_nine TR.out) Try.underlying36 (by kernel_rfl) (by kernel_rfl)) rfl ?_
  exact ⟨rfl, below_set9 _ _ _ _ _ _ _ _ _ HB.out (by omega)⟩

set_option maxRecDepth 100000 in
set_option maxHeartbeats 4000000 in
theorem refput_big (s : Nat → Nat) (ao : Option Addr) (n c : Nat) (z : Int) (k v : ByteArray) (W : World) (hz : 8 ≤ z) :
    Calls Try.prog 24 #[tabV s (.slice ao n c), .int .i64 z, .string k, .string v] W fun e w' => e = .returned (.tuple #[.agg #[.int .i64 0, .int .i64 0, .int .i64 0, .int .i64 0, .int .i64 0, .int .i64 0, .int .i64 0, .int .i64 0, .slice none 0 0], .int .i64 80]) ∧ Below W.heap.size W w' := by
  obtain ⟨V, hV⟩ : ∃ V, V = (W.alloc (.cells #[.int .i64 (s 0 : Int), .int .i64 (s 1 : Int), .int .i64 (s 2 : Int), .int .i64 (s 3 : Int), .int .i64 (s 4 : Int), .int .i64 (s 5 : Int), .int .i64 (s 6 : Int), .int .i64 (s 7 : Int), .slice ao n c] 36)).alloc (.cells #[.int .i64 0, .int .i64 0, .int .i64 0, .int .i64 0, .int .i64 0, .int .i64 0, .int .i64 0, .int .i64 0, .slice none 0 0] 36) := ⟨_, rfl⟩
  have HB : Hid (Below W.heap.size W V) := Lib.hid (by rw [hV]; exact below2 W _ _)
  have TA : Hid (RTab V W.heap.size s (.slice ao n c)) := Lib.hid (by unfold RTab; rw [hV]; exact block1 W _ _)
  have TR : Hid (V.heap[W.heap.size + 1]? = some (.cells #[.int .i64 0, .int .i64 0, .int .i64 0, .int .i64 0, .int .i64 0, .int .i64 0, .int .i64 0, .int .i64 0, .slice none 0 0] 36 (0, 0))) := Lib.hid (by rw [hV]; exact block2 W _ _)
  have HV := Lib.hid hV
  clear hV
  have d0 : ¬ z < 0 := by omega
  have d1 : decide (z < 0) = false := decide_eq_false d0
  have d2 : decide (8 ≤ z) = true := by simpa using hz
  obtain ⟨q0, q1, q2, q3, q4, q5, q6, q7, q8⟩ := cell_nine TR.out
  have f0 := free_nine TR.out 0; have f1 := free_nine TR.out 1; have f2 := free_nine TR.out 2; have f3 := free_nine TR.out 3; have f4 := free_nine TR.out 4; have f5 := free_nine TR.out 5; have f6 := free_nine TR.out 6; have f7 := free_nine TR.out 7; have f8 := free_nine TR.out 8
  unfold tabV
  go_enter Try.func24, Try.ntmps24
  go_upto_region 1 with fail
  rw [← HV.out]
  go_wp2
  refine bodyPost_ret (v := .tuple #[.agg #[.int .i64 0, .int .i64 0, .int .i64 0, .int .i64 0, .int .i64 0, .int .i64 0, .int .i64 0, .int .i64 0, .slice none 0 0], .int .i64 80]) (results_cell_tmp Try.results24 _ _ (W.heap.size + 1) 36 #[.int .i64 0, .int .i64 0, .int .i64 0, .int .i64 0, .int .i64 0, .int .i64 0, .int .i64 0, .int .i64 0, .slice none 0 0] (0, 0) _ rfl (set_nine TR.out) Try.underlying36 (by kernel_rfl) (by kernel_rfl)) rfl ?_
  exact ⟨rfl, below_set9 _ _ _ _ _ _ _ _ _ HB.out (by omega)⟩

set_option maxRecDepth 100000 in
set_option maxHeartbeats 4000000 in
theorem refput_k0 (s : Nat → Nat) (ao : Option Addr) (n c : Nat) (z : Int) (k v : ByteArray) (W : World) (hz : 0 ≤ z ∧ z < 8) (hk : k.size < 1) :
    Calls Try.prog 24 #[tabV s (.slice ao n c), .int .i64 z, .string k, .string v] W fun e w' => e = .returned (.tuple #[.agg #[.int .i64 0, .int .i64 0, .int .i64 0, .int .i64 0, .int .i64 0, .int .i64 0, .int .i64 0, .int .i64 0, .slice none 0 0], .int .i64 2]) ∧ Below W.heap.size W w' := by
  obtain ⟨V, hV⟩ : ∃ V, V = (W.alloc (.cells #[.int .i64 (s 0 : Int), .int .i64 (s 1 : Int), .int .i64 (s 2 : Int), .int .i64 (s 3 : Int), .int .i64 (s 4 : Int), .int .i64 (s 5 : Int), .int .i64 (s 6 : Int), .int .i64 (s 7 : Int), .slice ao n c] 36)).alloc (.cells #[.int .i64 0, .int .i64 0, .int .i64 0, .int .i64 0, .int .i64 0, .int .i64 0, .int .i64 0, .int .i64 0, .slice none 0 0] 36) := ⟨_, rfl⟩
  have HB : Hid (Below W.heap.size W V) := Lib.hid (by rw [hV]; exact below2 W _ _)
  have TA : Hid (RTab V W.heap.size s (.slice ao n c)) := Lib.hid (by unfold RTab; rw [hV]; exact block1 W _ _)
  have TR : Hid (V.heap[W.heap.size + 1]? = some (.cells #[.int .i64 0, .int .i64 0, .int .i64 0, .int .i64 0, .int .i64 0, .int .i64 0, .int .i64 0, .int .i64 0, .slice none 0 0] 36 (0, 0))) := Lib.hid (by rw [hV]; exact block2 W _ _)
  have HV := Lib.hid hV
  clear hV
  have d0 : ¬ z < 0 := by omega
  have d1 : decide (z < 0) = false := decide_eq_false d0
  have d3 : ¬ 8 ≤ z := by omega
  have d2 : decide (8 ≤ z) = false := decide_eq_false d3
  have k1 : (k.size : Int) < 1 := by omega
  have k2 : decide ((k.size : Int) < 1) = true := by simpa using k1
  obtain ⟨q0, q1, q2, q3, q4, q5, q6, q7, q8⟩ := cell_nine TR.out
  have f0 := free_nine TR.out 0; have f1 := free_nine TR.out 1; have f2 := free_nine TR.out 2; have f3 := free_nine TR.out 3; have f4 := free_nine TR.out 4; have f5 := free_nine TR.out 5; have f6 := free_nine TR.out 6; have f7 := free_nine TR.out 7; have f8 := free_nine TR.out 8
  unfold tabV
  go_enter Try.func24, Try.ntmps24
  go_upto_region 1 with fail
  rw [← HV.out]
  go_wp2
  refine bodyPost_ret (v := .tuple #[.agg #[.int .i64 0, .int .i64 0, .int .i64 0, .int .i64 0, .int .i64 0, .int .i64 0, .int .i64 0, .int .i64 0, .slice none 0 0], .int .i64 2]) (results_cell_tmp Try.results24 _ _ (W.heap.size + 1) 36 #[.int .i64 0, .int .i64 0, .int .i64 0, .int .i64 0, .int .i64 0, .int .i64 0, .int .i64 0, .int .i64 0, .slice none 0 0] (0, 0) _ rfl (set_nine TR.out) Try.underlying36 (by kernel_rfl) (by kernel_rfl)) rfl ?_
  exact ⟨rfl, below_set9 _ _ _ _ _ _ _ _ _ HB.out (by omega)⟩

set_option maxRecDepth 100000 in
set_option maxHeartbeats 4000000 in
theorem refput_k64 (s : Nat → Nat) (ao : Option Addr) (n c : Nat) (z : Int) (k v : ByteArray) (W : World) (hz : 0 ≤ z ∧ z < 8) (hk0 : 1 ≤ k.size) (hk : 64 < k.size) :
    Calls Try.prog 24 #[tabV s (.slice ao n c), .int .i64 z, .string k, .string v] W fun e w' => e = .returned (.tuple #[.agg #[.int .i64 0, .int .i64 0, .int .i64 0, .int .i64 0, .int .i64 0, .int .i64 0, .int .i64 0, .int .i64 0, .slice none 0 0], .int .i64 2]) ∧ Below W.heap.size W w' := by
  obtain ⟨V, hV⟩ : ∃ V, V = (W.alloc (.cells #[.int .i64 (s 0 : Int), .int .i64 (s 1 : Int), .int .i64 (s 2 : Int), .int .i64 (s 3 : Int), .int .i64 (s 4 : Int), .int .i64 (s 5 : Int), .int .i64 (s 6 : Int), .int .i64 (s 7 : Int), .slice ao n c] 36)).alloc (.cells #[.int .i64 0, .int .i64 0, .int .i64 0, .int .i64 0, .int .i64 0, .int .i64 0, .int .i64 0, .int .i64 0, .slice none 0 0] 36) := ⟨_, rfl⟩
  have HB : Hid (Below W.heap.size W V) := Lib.hid (by rw [hV]; exact below2 W _ _)
  have TA : Hid (RTab V W.heap.size s (.slice ao n c)) := Lib.hid (by unfold RTab; rw [hV]; exact block1 W _ _)
  have TR : Hid (V.heap[W.heap.size + 1]? = some (.cells #[.int .i64 0, .int .i64 0, .int .i64 0, .int .i64 0, .int .i64 0, .int .i64 0, .int .i64 0, .int .i64 0, .slice none 0 0] 36 (0, 0))) := Lib.hid (by rw [hV]; exact block2 W _ _)
  have HV := Lib.hid hV
  clear hV
  have d0 : ¬ z < 0 := by omega
  have d1 : decide (z < 0) = false := decide_eq_false d0
  have d3 : ¬ 8 ≤ z := by omega
  have d2 : decide (8 ≤ z) = false := decide_eq_false d3
  have k1 : ¬ (k.size : Int) < 1 := by omega
  have k2 : decide ((k.size : Int) < 1) = false := by simpa using k1
  have k3 : (64 : Int) < (k.size : Int) := by omega
  have k4 : decide ((64 : Int) < (k.size : Int)) = true := by simpa using k3
  obtain ⟨q0, q1, q2, q3, q4, q5, q6, q7, q8⟩ := cell_nine TR.out
  have f0 := free_nine TR.out 0; have f1 := free_nine TR.out 1; have f2 := free_nine TR.out 2; have f3 := free_nine TR.out 3; have f4 := free_nine TR.out 4; have f5 := free_nine TR.out 5; have f6 := free_nine TR.out 6; have f7 := free_nine TR.out 7; have f8 := free_nine TR.out 8
  unfold tabV
  go_enter Try.func24, Try.ntmps24
  go_upto_region 1 with fail
  rw [← HV.out]
  go_wp2
  refine bodyPost_ret (v := .tuple #[.agg #[.int .i64 0, .int .i64 0, .int .i64 0, .int .i64 0, .int .i64 0, .int .i64 0, .int .i64 0, .int .i64 0, .slice none 0 0], .int .i64 2]) (results_cell_tmp Try.results24 _ _ (W.heap.size + 1) 36 #[.int .i64 0, .int .i64 0, .int .i64 0, .int .i64 0, .int .i64 0, .int .i64 0, .int .i64 0, .int .i64 0, .slice none 0 0] (0, 0) _ rfl (set_nine TR.out) Try.underlying36 (by kernel_rfl) (by kernel_rfl)) rfl ?_
  exact ⟨rfl, below_set9 _ _ _ _ _ _ _ _ _ HB.out (by omega)⟩

set_option maxRecDepth 100000 in
set_option maxHeartbeats 4000000 in
theorem refput_v64 (s : Nat → Nat) (ao : Option Addr) (n c : Nat) (z : Int) (k v : ByteArray) (W : World) (hz : 0 ≤ z ∧ z < 8) (hk : 1 ≤ k.size ∧ k.size ≤ 64) (hv : 64 < v.size) :
    Calls Try.prog 24 #[tabV s (.slice ao n c), .int .i64 z, .string k, .string v] W fun e w' => e = .returned (.tuple #[.agg #[.int .i64 0, .int .i64 0, .int .i64 0, .int .i64 0, .int .i64 0, .int .i64 0, .int .i64 0, .int .i64 0, .slice none 0 0], .int .i64 2]) ∧ Below W.heap.size W w' := by
  obtain ⟨V, hV⟩ : ∃ V, V = (W.alloc (.cells #[.int .i64 (s 0 : Int), .int .i64 (s 1 : Int), .int .i64 (s 2 : Int), .int .i64 (s 3 : Int), .int .i64 (s 4 : Int), .int .i64 (s 5 : Int), .int .i64 (s 6 : Int), .int .i64 (s 7 : Int), .slice ao n c] 36)).alloc (.cells #[.int .i64 0, .int .i64 0, .int .i64 0, .int .i64 0, .int .i64 0, .int .i64 0, .int .i64 0, .int .i64 0, .slice none 0 0] 36) := ⟨_, rfl⟩
  have HB : Hid (Below W.heap.size W V) := Lib.hid (by rw [hV]; exact below2 W _ _)
  have TA : Hid (RTab V W.heap.size s (.slice ao n c)) := Lib.hid (by unfold RTab; rw [hV]; exact block1 W _ _)
  have TR : Hid (V.heap[W.heap.size + 1]? = some (.cells #[.int .i64 0, .int .i64 0, .int .i64 0, .int .i64 0, .int .i64 0, .int .i64 0, .int .i64 0, .int .i64 0, .slice none 0 0] 36 (0, 0))) := Lib.hid (by rw [hV]; exact block2 W _ _)
  have HV := Lib.hid hV
  clear hV
  have d0 : ¬ z < 0 := by omega
  have d1 : decide (z < 0) = false := decide_eq_false d0
  have d3 : ¬ 8 ≤ z := by omega
  have d2 : decide (8 ≤ z) = false := decide_eq_false d3
  have k1 : ¬ (k.size : Int) < 1 := by omega
  have k2 : decide ((k.size : Int) < 1) = false := by simpa using k1
  have k3 : ¬ (64 : Int) < (k.size : Int) := by omega
  have k4 : decide ((64 : Int) < (k.size : Int)) = false := by simpa using k3
  have v3 : (64 : Int) < (v.size : Int) := by omega
  have v4 : decide ((64 : Int) < (v.size : Int)) = true := by simpa using v3
  obtain ⟨q0, q1, q2, q3, q4, q5, q6, q7, q8⟩ := cell_nine TR.out
  have f0 := free_nine TR.out 0; have f1 := free_nine TR.out 1; have f2 := free_nine TR.out 2; have f3 := free_nine TR.out 3; have f4 := free_nine TR.out 4; have f5 := free_nine TR.out 5; have f6 := free_nine TR.out 6; have f7 := free_nine TR.out 7; have f8 := free_nine TR.out 8
  unfold tabV
  go_enter Try.func24, Try.ntmps24
  go_upto_region 1 with fail
  rw [← HV.out]
  go_wp2
  refine bodyPost_ret (v := .tuple #[.agg #[.int .i64 0, .int .i64 0, .int .i64 0, .int .i64 0, .int .i64 0, .int .i64 0, .int .i64 0, .int .i64 0, .slice none 0 0], .int .i64 2]) (results_cell_tmp Try.results24 _ _ (W.heap.size + 1) 36 #[.int .i64 0, .int .i64 0, .int .i64 0, .int .i64 0, .int .i64 0, .int .i64 0, .int .i64 0, .int .i64 0, .slice none 0 0] (0, 0) _ rfl (set_nine TR.out) Try.underlying36 (by kernel_rfl) (by kernel_rfl)) rfl ?_
  exact ⟨rfl, below_set9 _ _ _ _ _ _ _ _ _ HB.out (by omega)⟩
theorem refput_err (s : Nat → Nat) (ao : Option Addr) (n c : Nat) (z : Int) (k v : ByteArray) (W : World) : 
    (∀ (_ : z < 0 ∨ 8 ≤ z), Calls Try.prog 24 #[tabV s (.slice ao n c), .int .i64 z, .string k, .string v] W fun e w' => e = .returned (.tuple #[.agg #[.int .i64 0, .int .i64 0, .int .i64 0, .int .i64 0, .int .i64 0, .int .i64 0, .int .i64 0, .int .i64 0, .slice none 0 0], .int .i64 80]) ∧ Below W.heap.size W w') ∧
    (∀ (_ : 0 ≤ z ∧ z < 8) (_ : ¬ ((1 ≤ k.size ∧ k.size ≤ 64) ∧ v.size ≤ 64)), Calls Try.prog 24 #[tabV s (.slice ao n c), .int .i64 z, .string k, .string v] W fun e w' => e = .returned (.tuple #[.agg #[.int .i64 0, .int .i64 0, .int .i64 0, .int .i64 0, .int .i64 0, .int .i64 0, .int .i64 0, .int .i64 0, .slice none 0 0], .int .i64 2]) ∧ Below W.heap.size W w') := by
  refine ⟨fun h => h.elim (refput_neg s ao n c z k v W) (refput_big s ao n c z k v W), fun hz hk => ?_⟩
  by_cases h1 : k.size < 1
  · exact refput_k0 s ao n c z k v W hz h1
  · by_cases h2 : 64 < k.size
    · exact refput_k64 s ao n c z k v W hz (by omega) h2
    · exact refput_v64 s ao n c z k v W hz (by omega) (by omega)

set_option maxRecDepth 100000 in
set_option maxHeartbeats 8000000 in
theorem refput_full (s : Nat → Nat) (ao : Option Addr) (n c : Nat) (xs : List Ent) (i : Nat) (k v : ByteArray) (W : World) (h : El W ao n xs) (hn : n ≤ 300000) (hi : i < 8) (hk : 1 ≤ k.size ∧ k.size ≤ 64) (hv : v.size ≤ 64) (hsi : s i < 1099511627776) (hne : ∀ e ∈ xs, 1 ≤ e.key.size) (hroom : room xs k = false) :
    Calls Try.prog 24 #[tabV s (.slice ao n c), .int .i64 (i : Int), .string k, .string v] W fun e w' => e = .returned (.tuple #[.agg #[.int .i64 0, .int .i64 0, .int .i64 0, .int .i64 0, .int .i64 0, .int .i64 0, .int .i64 0, .int .i64 0, .slice none 0 0], .int .i64 5]) ∧ Below W.heap.size W w' := by
  obtain ⟨V, hV⟩ : ∃ V, V = (W.alloc (.cells #[.int .i64 (s 0 : Int), .int .i64 (s 1 : Int), .int .i64 (s 2 : Int), .int .i64 (s 3 : Int), .int .i64 (s 4 : Int), .int .i64 (s 5 : Int), .int .i64 (s 6 : Int), .int .i64 (s 7 : Int), .slice ao n c] 36)).alloc (.cells #[.int .i64 0, .int .i64 0, .int .i64 0, .int .i64 0, .int .i64 0, .int .i64 0, .int .i64 0, .int .i64 0, .slice none 0 0] 36) := ⟨_, rfl⟩
  have HB : Hid (Below W.heap.size W V) := Lib.hid (by rw [hV]; exact below2 W _ _)
  have TA : Hid (RTab V W.heap.size s (.slice ao n c)) := Lib.hid (by unfold RTab; rw [hV]; exact block1 W _ _)
  have TR : Hid (V.heap[W.heap.size + 1]? = some (.cells #[.int .i64 0, .int .i64 0, .int .i64 0, .int .i64 0, .int .i64 0, .int .i64 0, .int .i64 0, .int .i64 0, .slice none 0 0] 36 (0, 0))) := Lib.hid (by rw [hV]; exact block2 W _ _)
  have HV := Lib.hid hV
  clear hV
  have d0 : ¬ (i : Int) < 0 := by omega
  have d1 : decide ((i : Int) < 0) = false := decide_eq_false d0
  have d3 : ¬ 8 ≤ (i : Int) := by omega
  have d2 : decide (8 ≤ (i : Int)) = false := decide_eq_false d3
  have k1 : ¬ (k.size : Int) < 1 := by omega
  have k2 : decide ((k.size : Int) < 1) = false := by simpa using k1
  have k3 : ¬ (64 : Int) < (k.size : Int) := by omega
  have k4 : decide ((64 : Int) < (k.size : Int)) = false := by simpa using k3
  have i0 : (0 : Int) ≤ (i : Int) := by omega
  have i8 : (i : Int) < 8 := by omega
  have v3 : ¬ (64 : Int) < (v.size : Int) := by omega
  have v4 : decide ((64 : Int) < (v.size : Int)) = false := by simpa using v3
  have s3 : ¬ (1099511627776 : Int) ≤ (s i : Int) := by omega
  have s4 : decide ((1099511627776 : Int) ≤ (s i : Int)) = false := by simpa using s3
  have CK : Hid (∀ w, Below V.heap.size V w → Calls Try.prog 57 #[tabV s (.slice ao n c)] w fun e w' => e = .returned (.int .i64 (keysF ⟨#[]⟩ xs : Int)) ∧ Below w.heap.size w w') := Lib.hid fun w hw => refkeys_any s ao n c xs w ((h.keep HB.out).keep hw) (by omega) hne
  have CG : Hid (∀ w, Below V.heap.size V w → Calls Try.prog 13 #[tabV s (.slice ao n c), .string k] w (OutS w (getL xs k))) := Lib.hid fun w hw => refget_any s ao n c xs k w ((h.keep HB.out).keep hw) (by omega)
  have hr : 64 ≤ keysF ⟨#[]⟩ xs ∧ (getL xs k).length = 0 := by
    unfold room at hroom
    simp at hroom
    exact ⟨hroom.2, by rw [hroom.1]; rfl⟩
  have m1 : (64 : Int) ≤ (keysF ⟨#[]⟩ xs : Int) := by omega
  have m2 : decide ((64 : Int) ≤ (keysF ⟨#[]⟩ xs : Int)) = true := by simpa using m1
  have m3 : (((getL xs k).length : Int) == 0) = true := beq_iff_eq.2 (by omega)
  generalize keysF ⟨#[]⟩ xs = kk at CK m1 m2
  generalize getL xs k = gl at CG m3
  obtain ⟨r0, r1, r2, r3, r4, r5, r6, r7, r8⟩ := cell_nine TA.out
  have ri := nine_at TA.out i hi
  clear hk hv hsi h hr hroom
  unfold tabV at *
  go_enter Try.func24, Try.ntmps24
  go_upto_region 1 with fail
  rw [← HV.out]
  go_upto_region 6 with (first | (go_at_call 57; refine (CK.out _ (Below.refl _ _)).mono ?_; rintro e w2 ⟨rfl, hb2⟩; have B2 := Lib.hid hb2; obtain ⟨t0, t1, t2, t3, t4, t5, t6, t7, t8⟩ := cell_nine (TA.out.keep hb2); clear hb2) | (go_at_call 13; refine (CG.out _ B2.out).mono ?_; rintro e w3 ⟨a3, c3, rfl, hs3, hb3⟩; have B3 := Lib.hid (below_then B2.out hb3); clear hs3 hb3))
  have R3 := Lib.hid (row_keep B3.out TR.out)
  obtain ⟨q0, q1, q2, q3, q4, q5, q6, q7, q8⟩ := cell_nine R3.out
  have f0 := free_nine R3.out 0; have f1 := free_nine R3.out 1; have f2 := free_nine R3.out 2; have f3 := free_nine R3.out 3; have f4 := free_nine R3.out 4; have f5 := free_nine R3.out 5; have f6 := free_nine R3.out 6; have f7 := free_nine R3.out 7; have f8 := free_nine R3.out 8
  go_wp2
  refine bodyPost_ret (v := .tuple #[.agg #[.int .i64 0, .int .i64 0, .int .i64 0, .int .i64 0, .int .i64 0, .int .i64 0, .int .i64 0, .int .i64 0, .slice none 0 0], .int .i64 5]) (results_cell_tmp Try.results24 _ _ (W.heap.size + 1) 36 #[.int .i64 0, .int .i64 0, .int .i64 0, .int .i64 0, .int .i64 0, .int .i64 0, .int .i64 0, .int .i64 0, .slice none 0 0] (0, 0) _ rfl (set_nine R3.out) Try.underlying36 (by kernel_rfl) (by kernel_rfl)) rfl ?_
  exact ⟨rfl, below_set9 _ _ _ _ _ _ _ _ _ (HB.out.trans (B3.out.mono HB.out.size)) (by omega)⟩

theorem refput_new (ao : Option Addr) (n c : Nat) (xs : List Ent) (k v : ByteArray) (i cnt : Nat) (hi : i < 8) (cz : Int) (hc : (cnt : Int) = cz) (W : World) (h : El W ao n xs) (hn : n ≤ 400000) (hcc : n ≤ c) (hcm : c ≤ 9223372036854775807) :
    Calls Try.prog 35 #[.slice ao n c, .agg #[.string k, .string v, .int .i64 (i : Int), .int .i64 cz]] W fun e w' => ∃ ao' c', e = .returned (.slice ao' (n + 1) c') ∧ El w' ao' (n + 1) (insE xs ⟨k, v, i, cnt, hi⟩) ∧ n + 1 ≤ c' ∧ c' ≤ maxLen ∧ Below W.heap.size W w' := by
  subst hc
  exact refput_any ao n c xs ⟨k, v, i, cnt, hi⟩ W h hn hcc hcm
theorem heap_set9 (w : World) (T b : Nat) (x0 x1 x2 x3 x4 x5 x6 x7 x8 : Value) (h : b ≠ T) : (((((((((w.setCell ⟨T, 0, none⟩ x0).setCell ⟨T, 1, none⟩ x1).setCell ⟨T, 2, none⟩ x2).setCell ⟨T, 3, none⟩ x3).setCell ⟨T, 4, none⟩ x4).setCell ⟨T, 5, none⟩ x5).setCell ⟨T, 6, none⟩ x6).setCell ⟨T, 7, none⟩ x7).setCell ⟨T, 8, none⟩ x8).heap[b]? = w.heap[b]? := by
  rw [Below.heap_setCell _ _ _ _ h, Below.heap_setCell _ _ _ _ h, Below.heap_setCell _ _ _ _ h, Below.heap_setCell _ _ _ _ h, Below.heap_setCell _ _ _ _ h, Below.heap_setCell _ _ _ _ h, Below.heap_setCell _ _ _ _ h, Below.heap_setCell _ _ _ _ h, Below.heap_setCell _ _ _ _ h]

set_option maxRecDepth 100000 in
set_option maxHeartbeats 16000000 in
theorem refput_ok1 (s : Nat → Nat) (ao : Option Addr) (n c : Nat) (xs : List Ent) (i : Nat) (k v : ByteArray) (W : World) (h : El W ao n xs) (hn : n ≤ 300000) (hi : i < 8) (hk : 1 ≤ k.size ∧ k.size ≤ 64) (hv : v.size ≤ 64) (hsi : s i < 1099511627776) (hne : ∀ e ∈ xs, 1 ≤ e.key.size) (hroom : keysF ⟨#[]⟩ xs < 64) :
    Calls Try.prog 24 #[tabV s (.slice ao n c), .int .i64 (i : Int), .string k, .string v] W fun e w' => ∃ ao' n' c', e = .returned (.tuple #[tabV (putT ⟨s, xs⟩ i hi k v).seen (.slice ao' n' c'), .int .i64 0]) ∧ El w' ao' n' (putT ⟨s, xs⟩ i hi k v).L ∧ n' ≤ c' ∧ c' ≤ maxLen ∧ Below W.heap.size W w' := by
  obtain ⟨V, hV⟩ : ∃ V, V = (W.alloc (.cells #[.int .i64 (s 0 : Int), .int .i64 (s 1 : Int), .int .i64 (s 2 : Int), .int .i64 (s 3 : Int), .int .i64 (s 4 : Int), .int .i64 (s 5 : Int), .int .i64 (s 6 : Int), .int .i64 (s 7 : Int), .slice ao n c] 36)).alloc (.cells #[.int .i64 0, .int .i64 0, .int .i64 0, .int .i64 0, .int .i64 0, .int .i64 0, .int .i64 0, .int .i64 0, .slice none 0 0] 36) := ⟨_, rfl⟩
  have HB : Hid (Below W.heap.size W V) := Lib.hid (by rw [hV]; exact below2 W _ _)
  have TA : Hid (RTab V W.heap.size s (.slice ao n c)) := Lib.hid (by unfold RTab; rw [hV]; exact block1 W _ _)
  have TR : Hid (V.heap[W.heap.size + 1]? = some (.cells #[.int .i64 0, .int .i64 0, .int .i64 0, .int .i64 0, .int .i64 0, .int .i64 0, .int .i64 0, .int .i64 0, .slice none 0 0] 36 (0, 0))) := Lib.hid (by rw [hV]; exact block2 W _ _)
  have HV := Lib.hid hV
  clear hV
  have d0 : ¬ (i : Int) < 0 := by omega
  have d1 : decide ((i : Int) < 0) = false := decide_eq_false d0
  have d3 : ¬ 8 ≤ (i : Int) := by omega
  have d2 : decide (8 ≤ (i : Int)) = false := decide_eq_false d3
  have k1 : ¬ (k.size : Int) < 1 := by omega
  have k2 : decide ((k.size : Int) < 1) = false := by simpa using k1
  have k3 : ¬ (64 : Int) < (k.size : Int) := by omega
  have k4 : decide ((64 : Int) < (k.size : Int)) = false := by simpa using k3
  have i0 : (0 : Int) ≤ (i : Int) := by omega
  have i8 : (i : Int) < 8 := by omega
  have v3 : ¬ (64 : Int) < (v.size : Int) := by omega
  have v4 : decide ((64 : Int) < (v.size : Int)) = false := by simpa using v3
  have s3 : ¬ (1099511627776 : Int) ≤ (s i : Int) := by omega
  have s4 : decide ((1099511627776 : Int) ≤ (s i : Int)) = false := by simpa using s3
  have CK : Hid (∀ w, Below V.heap.size V w → Calls Try.prog 57 #[tabV s (.slice ao n c)] w fun e w' => e = .returned (.int .i64 (keysF ⟨#[]⟩ xs : Int)) ∧ Below w.heap.size w w') := Lib.hid fun w hw => refkeys_any s ao n c xs w ((h.keep HB.out).keep hw) (by omega) hne
  have CG : Hid (∀ w, Below V.heap.size V w → Calls Try.prog 13 #[tabV s (.slice ao n c), .string k] w (OutS w (getL xs k))) := Lib.hid fun w hw => refget_any s ao n c xs k w ((h.keep HB.out).keep hw) (by omega)
  have m1 : ¬ (64 : Int) ≤ (keysF ⟨#[]⟩ xs : Int) := by omega
  have m2 : decide ((64 : Int) ≤ (keysF ⟨#[]⟩ xs : Int)) = false := by simpa using m1
  have CM : Hid (∀ w, Below V.heap.size V w → Calls Try.prog 58 #[tabV s (.slice ao n c), .string k] w (fun e w' => ∃ ao n cap, e = .returned (tabV s (.slice ao n cap)) ∧ El w' ao n (remT ⟨s, xs⟩ k).L ∧ n ≤ cap ∧ cap ≤ maxLen ∧ Below w.heap.size w w')) := Lib.hid fun w hw => refrem_any s ao n c xs k w ((h.keep HB.out).keep hw) (by omega)
  have HRL : Hid ((remT ⟨s, xs⟩ k).L.length ≤ n) := Lib.hid (by rw [← h.1]; exact List.length_filter_le _ _)
  have h300 := hn
  generalize keysF ⟨#[]⟩ xs = kk at *
  generalize getL xs k = gl at *
  obtain ⟨r0, r1, r2, r3, r4, r5, r6, r7, r8⟩ := cell_nine TA.out
  have ri := nine_at TA.out i hi
  have si0 : (0 : Int) ≤ (s i : Int) := by omega
  have si1 : (s i : Int) ≤ 1099511627776 := by omega
  clear hk hv hsi h hroom hne
  show Calls _ _ _ _ (fun e w' => ∃ ao' n' c', e = .returned (.tuple #[tabV (upd s i (s i + 1)) (.slice ao' n' c'), .int .i64 0]) ∧ El w' ao' n' (insE (remT ⟨s, xs⟩ k).L ⟨k, v, i, s i + 1, hi⟩) ∧ n' ≤ c' ∧ c' ≤ maxLen ∧ Below W.heap.size W w')
  generalize (remT ⟨s, xs⟩ k).L = R at CM HRL ⊢
  unfold tabV at *
  go_enter Try.func24, Try.ntmps24
  go_upto_region 1 with fail
  rw [← HV.out]
  go_upto_region 7 with ((go_at_call 57; refine (CK.out _ (Below.refl _ _)).mono ?_; rintro e w2 ⟨rfl, hb2⟩; have B2 := Lib.hid hb2; obtain ⟨t0, t1, t2, t3, t4, t5, t6, t7, t8⟩ := cell_nine (TA.out.keep hb2); clear hb2))
  have BA := Lib.hid B2.out
  obtain ⟨x0, x1, x2, x3, x4, x5, x6, x7, x8⟩ := cell_nine (TA.out.keep BA.out)
  go_upto_region 8 with (go_at_call 58; refine (CM.out _ BA.out).mono ?_; rintro e w5 ⟨a3, n3, c3, rfl, hel3, h31, h32, hb5⟩; have B5 := Lib.hid (below_then BA.out hb5); have E5 := Lib.hid hel3; have H31 := Lib.hid h31; have H32 := Lib.hid h32; have T5 := Lib.hid (TA.out.keep B5.out); obtain ⟨u0, u1, u2, u3, u4, u5, u6, u7, u8⟩ := cell_nine T5.out; have f0 := free_nine T5.out 0; have f1 := free_nine T5.out 1; have f2 := free_nine T5.out 2; have f3 := free_nine T5.out 3; have f4 := free_nine T5.out 4; have f5 := free_nine T5.out 5; have f6 := free_nine T5.out 6; have f7 := free_nine T5.out 7; have f8 := free_nine T5.out 8; clear hb5 hel3 h31 h32)
  obtain ⟨V7, hV7⟩ : ∃ V7, V7 = (((((((((w5.setCell ⟨W.heap.size, 0, none⟩ (.int .i64 (s 0 : Int))).setCell ⟨W.heap.size, 1, none⟩ (.int .i64 (s 1 : Int))).setCell ⟨W.heap.size, 2, none⟩ (.int .i64 (s 2 : Int))).setCell ⟨W.heap.size, 3, none⟩ (.int .i64 (s 3 : Int))).setCell ⟨W.heap.size, 4, none⟩ (.int .i64 (s 4 : Int))).setCell ⟨W.heap.size, 5, none⟩ (.int .i64 (s 5 : Int))).setCell ⟨W.heap.size, 6, none⟩ (.int .i64 (s 6 : Int))).setCell ⟨W.heap.size, 7, none⟩ (.int .i64 (s 7 : Int))).setCell ⟨W.heap.size, 8, none⟩ (.slice a3 n3 c3)) := ⟨_, rfl⟩
  have T7 : Hid (RTab V7 W.heap.size s (.slice a3 n3 c3)) := Lib.hid (by rw [hV7]; exact T5.out.all)
  have B7 : Hid (Below W.heap.size W V7) := Lib.hid (by rw [hV7]; exact below_set9 _ _ _ _ _ _ _ _ _ (HB.out.trans (B5.out.mono HB.out.size)) (Nat.le_refl _))
  have E7 : Hid (El V7 a3 n3 R) := Lib.hid (by rw [hV7]; exact El.only E5.out u0 (fun b o hb => cell_set9 _ _ _ _ _ _ _ _ _ _ _ _ _ hb) (by simp))
  have R7 : Hid (V7.heap[W.heap.size + 1]? = some (.cells #[.int .i64 0, .int .i64 0, .int .i64 0, .int .i64 0, .int .i64 0, .int .i64 0, .int .i64 0, .int .i64 0, .slice none 0 0] 36 (0, 0))) := Lib.hid (by rw [hV7]; exact (heap_set9 _ _ _ _ _ _ _ _ _ _ _ _ (by simp)).trans (row_keep B5.out TR.out))
  rw [← hV7]
  clear hV7 u0 u1 u2 u3 u4 u5 u6 u7 u8 f0 f1 f2 f3 f4 f5 f6 f7 f8 x0 x1 x2 x3 x4 x5 x6 x7 x8 r0 r1 r2 r3 r4 r5 r6 r7 r8 ri t0 t1 t2 t3 t4 t5 t6 t7 t8
  have hDs : W.heap.size + 1 < V7.heap.size := (Array.getElem?_eq_some_iff.1 R7.out).1
  obtain ⟨D, hD⟩ : ∃ D, D = W.heap.size := ⟨_, rfl⟩
  have HD := Lib.hid hD
  rw [← hD] at T7 B7 R7 hDs ⊢
  clear hD
  have ri := nine_at T7.out i hi
  have fi := free_nine T7.out i
  have wr1 : IntKind.i64.wrap ((s i : Int) + 1) = (s i : Int) + 1 := IntWalk.i64_in _ (by omega)
  go_upto_region 9 with fail
  obtain ⟨V9, hV9⟩ : ∃ V9, V9 = V7.setCell ⟨D, i, none⟩ (.int .i64 ((s i : Int) + 1)) := ⟨_, rfl⟩
  have B9 : Hid (Below D W V9) := Lib.hid (by rw [hV9]; exact B7.out.setCell (p := ⟨D, i, none⟩) (Nat.le_refl _) _)
  have T9 : Hid (RTab V9 D (upd s i (s i + 1)) (.slice a3 n3 c3)) := Lib.hid (by rw [hV9]; exact RTab.put (v := s i + 1) T7.out hi)
  have E9 : Hid (El V9 a3 n3 R) := Lib.hid (by rw [hV9]; exact El.only E7.out (cell_nine T7.out).1 (fun b q hb => only_set b q hb) (by simp))
  have R9 : Hid (V9.heap[D + 1]? = some (.cells #[.int .i64 0, .int .i64 0, .int .i64 0, .int .i64 0, .int .i64 0, .int .i64 0, .int .i64 0, .int .i64 0, .slice none 0 0] 36 (0, 0))) := Lib.hid (by rw [hV9, Below.heap_setCell _ _ _ _ (by simp)]; exact R7.out)
  rw [← hV9]
  clear hV9 ri fi wr1
  have yi := nine_at T9.out i hi
  rw [upd_self] at yi
  have y8 := (cell_nine T9.out).2.2.2.2.2.2.2.2
  have PU : Hid (∀ w, Below V9.heap.size V9 w → Calls Try.prog 35 #[.slice a3 n3 c3, .agg #[.string k, .string v, .int .i64 (i : Int), .int .i64 ((s i : Int) + 1)]] w fun e w' => ∃ ao' c', e = .returned (.slice ao' (n3 + 1) c') ∧ El w' ao' (n3 + 1) (insE R ⟨k, v, i, s i + 1, hi⟩) ∧ n3 + 1 ≤ c' ∧ c' ≤ maxLen ∧ Below w.heap.size w w') := Lib.hid fun w hw => refput_new a3 n3 c3 R k v i (s i + 1) hi _ (by omega) w (E9.out.keep hw) (by rw [← E9.out.1]; have := HRL.out; omega) H31.out (Nat.le_trans H32.out (by decide))
  have y8 : V9.cell? ⟨D, 8, none⟩ = some (.slice a3 n3 c3) := y8
  have yi : V9.cell? ⟨D, i, none⟩ = some (.int .i64 ((s i : Int) + 1)) := yi
  refine wp_region_late (S := fun w' => w'.cell? ⟨D, 8, none⟩ = some (.slice a3 n3 c3) ∧ w'.cell? ⟨D, i, none⟩ = some (.int .i64 ((s i : Int) + 1))) 13 (by kernel_rfl) ⟨y8, yi⟩ (fun hS => ?_)
  refine wpAnyT_take (i := 0) (v := ?v0) rfl (by kernel_rfl) (by kernel_rfl) (by kernel_rfl) (by kernel_rfl) (fun _ _ _ h => h) (Or.inl ⟨by rfl, ?hy0⟩) hS ?rest0
  case hy0 => (intro w hSw; (try dsimp only at hSw); (first | (go_simp; done) | (go_simp; with_reducible rfl)))
  try simp only [Act.put, List.setIfInBounds_toArray, List.set_cons_zero, List.set_cons_succ]
  refine wpAnyT_take (i := 1) (v := ?v1) rfl (by kernel_rfl) (by kernel_rfl) (by kernel_rfl) (by kernel_rfl) (fun _ _ _ h => h) (Or.inl ⟨by rfl, ?hy1⟩) hS ?rest1
  case hy1 => (intro w hSw; (try dsimp only at hSw); (first | (go_simp; done) | (go_simp; with_reducible rfl)))
  try simp only [Act.put, List.setIfInBounds_toArray, List.set_cons_zero, List.set_cons_succ]
  refine wpAnyT_take (i := 2) (v := ?v2) rfl (by kernel_rfl) (by kernel_rfl) (by kernel_rfl) (by kernel_rfl) (fun _ _ _ h => h) (Or.inl ⟨by rfl, ?hy2⟩) hS ?rest2
  case hy2 => (intro w hSw; (try dsimp only at hSw); (first | (go_simp; done) | (go_simp; with_reducible rfl)))
  try simp only [Act.put, List.setIfInBounds_toArray, List.set_cons_zero, List.set_cons_succ]
  refine wpAnyT_take (i := 3) (v := ?v3) rfl (by kernel_rfl) (by kernel_rfl) (by kernel_rfl) (by kernel_rfl) (fun _ _ _ h => h) (Or.inl ⟨by rfl, ?hy3⟩) hS ?rest3
  case hy3 => (intro w hSw; (try dsimp only at hSw); (first | (go_simp; done) | (go_simp; with_reducible rfl)))
  try simp only [Act.put, List.setIfInBounds_toArray, List.set_cons_zero, List.set_cons_succ]
  refine wpAnyT_take (i := 4) (v := ?v4) rfl (by kernel_rfl) (by kernel_rfl) (by kernel_rfl) (by kernel_rfl) (fun _ _ _ h => h) (Or.inl ⟨by rfl, ?hy4⟩) hS ?rest4
  case hy4 => (intro w hSw; (try dsimp only at hSw); (first | (go_simp; done) | (go_simp; with_reducible rfl)))
  try simp only [Act.put, List.setIfInBounds_toArray, List.set_cons_zero, List.set_cons_succ]
  refine wpAnyT_take (i := 5) (v := ?v5) rfl (by kernel_rfl) (by kernel_rfl) (by kernel_rfl) (by kernel_rfl) (fun _ _ _ h => h) (Or.inl ⟨by rfl, ?hy5⟩) hS ?rest5
  case hy5 => (intro w hSw; (try dsimp only at hSw); (first | (go_simp; done) | (go_simp; with_reducible rfl)))
  try simp only [Act.put, List.setIfInBounds_toArray, List.set_cons_zero, List.set_cons_succ]
  refine wpAnyT_take (i := 6) (v := ?v6) rfl (by kernel_rfl) (by kernel_rfl) (by kernel_rfl) (by kernel_rfl) (fun _ _ _ h => h) (Or.inl ⟨by rfl, ?hy6⟩) hS ?rest6
  case hy6 => (intro w hSw; (try dsimp only at hSw); (first | (go_simp; done) | (go_simp; with_reducible rfl)))
  try simp only [Act.put, List.setIfInBounds_toArray, List.set_cons_zero, List.set_cons_succ]
  refine wpAnyT_take (i := 7) (v := ?v7) rfl (by kernel_rfl) (by kernel_rfl) (by kernel_rfl) (by kernel_rfl) (fun _ _ _ h => h) (Or.inl ⟨by rfl, ?hy7⟩) hS ?rest7
  case hy7 => (intro w hSw; (try dsimp only at hSw); (first | (go_simp; done) | (go_simp; with_reducible rfl)))
  try simp only [Act.put, List.setIfInBounds_toArray, List.set_cons_zero, List.set_cons_succ]
  refine wpAnyT_take (i := 8) (v := ?v8) rfl (by kernel_rfl) (by kernel_rfl) (by kernel_rfl) (by kernel_rfl) (fun _ _ _ h => h) (Or.inl ⟨by rfl, ?hy8⟩) hS ?rest8
  case hy8 => (intro w hSw; (try dsimp only at hSw); (first | (go_simp; done) | (go_simp; with_reducible rfl)))
  try simp only [Act.put, List.setIfInBounds_toArray, List.set_cons_zero, List.set_cons_succ]
  refine wpAnyT_take (i := 9) (v := ?v9) rfl (by kernel_rfl) (by kernel_rfl) (by kernel_rfl) (by kernel_rfl) (fun _ _ _ h => h) (Or.inl ⟨by rfl, ?hy9⟩) hS ?rest9
  case hy9 => (intro w hSw; (try dsimp only at hSw); (first | (go_simp; done) | (go_simp; with_reducible rfl)))
  try simp only [Act.put, List.setIfInBounds_toArray, List.set_cons_zero, List.set_cons_succ]
  refine wpAnyT_take (i := 10) (v := ?v10) rfl (by kernel_rfl) (by kernel_rfl) (by kernel_rfl) (by kernel_rfl) (fun _ _ _ h => h) (Or.inl ⟨by rfl, ?hy10⟩) hS ?rest10
  case hy10 => (intro w hSw; (try dsimp only at hSw); (first | (go_simp; done) | (go_simp; with_reducible rfl)))
  try simp only [Act.put, List.setIfInBounds_toArray, List.set_cons_zero, List.set_cons_succ]
  refine wpAnyT_step 11 rfl (by kernel_rfl) (by decide) (fun K hK => ?_)
  try go_simp
  go_at_call 35
  refine (PU.out V9.drew (drew_below V9)).mono ?_
  rintro e w6 ⟨a6, c6, rfl, hel6, h61, h62, hb6⟩
  have B6 := Lib.hid ((drew_below V9).trans hb6)
  have E6 := Lib.hid hel6
  have H61 := Lib.hid h61
  have H62 := Lib.hid h62
  have z8 := cell_later B6.out y8
  have zi := cell_later B6.out yi
  have T6 := Lib.hid (T9.out.keep B6.out)
  have f8 := free_nine T6.out 8
  clear hel6 h61 h62 hb6
  refine hK.out _ _ ⟨z8, zi⟩ (fun hS => ?_)
  clear hK K
  try simp only [Act.put, List.setIfInBounds_toArray, List.set_cons_zero, List.set_cons_succ]
  refine wpAnyT_take (i := 12) (v := ?v12) rfl (by kernel_rfl) (by kernel_rfl) (by kernel_rfl) (by kernel_rfl) (fun _ _ _ h => h) (Or.inl ⟨by rfl, ?hy12⟩) hS ?rest12
  case hy12 => (intro w hSw; (try dsimp only at hSw); (first | (go_simp; done) | (go_simp; with_reducible rfl)))
  try simp only [Act.put, List.setIfInBounds_toArray, List.set_cons_zero, List.set_cons_succ]
  refine wpAnyT_last rfl (by kernel_rfl) (by kernel_rfl) (fun K hK => ?_)
  go_simp
  refine hK.out _ _ ?_
  clear hK K
  obtain ⟨VE, hVE⟩ : ∃ VE, VE = w6.setCell ⟨D, 8, none⟩ (.slice a6 (n3 + 1) c6) := ⟨_, rfl⟩
  have BE : Hid (Below D W VE) := Lib.hid (by rw [hVE]; exact (B9.out.trans (B6.out.mono (by rw [HD.out]; exact B9.out.size))).setCell (p := ⟨D, 8, none⟩) (Nat.le_refl _) _)
  have TE : Hid (RTab VE D (upd s i (s i + 1)) (.slice a6 (n3 + 1) c6)) := Lib.hid (by rw [hVE]; exact T6.out.slice)
  have EE : Hid (El VE a6 (n3 + 1) (insE R ⟨k, v, i, s i + 1, hi⟩)) := Lib.hid (by rw [hVE]; exact El.only E6.out (cell_nine T6.out).1 (fun b q hb => only_set b q hb) (by simp))
  have RE : Hid (VE.heap[D + 1]? = some (.cells #[.int .i64 0, .int .i64 0, .int .i64 0, .int .i64 0, .int .i64 0, .int .i64 0, .int .i64 0, .int .i64 0, .slice none 0 0] 36 (0, 0))) := Lib.hid (by rw [hVE, Below.heap_setCell _ _ _ _ (by simp)]; exact row_keep B6.out R9.out)
  rw [← hVE]
  clear hVE y8 yi z8 zi f8
  obtain ⟨x0, x1, x2, x3, x4, x5, x6, x7, x8⟩ := cell_nine TE.out
  obtain ⟨r0, r1, r2, r3, r4, r5, r6, r7, r8⟩ := cell_nine RE.out
  have f0 := free_nine RE.out 0; have f1 := free_nine RE.out 1; have f2 := free_nine RE.out 2; have f3 := free_nine RE.out 3; have f4 := free_nine RE.out 4; have f5 := free_nine RE.out 5; have f6 := free_nine RE.out 6; have f7 := free_nine RE.out 7; have f8 := free_nine RE.out 8
  go_wp2
  refine bodyPost_ret (v := .tuple #[tabV (upd s i (s i + 1)) (.slice a6 (n3 + 1) c6), .int .i64 0]) (results_cell_tmp Try.results24 _ _ (D + 1) 36 (tabC (upd s i (s i + 1)) (.slice a6 (n3 + 1) c6)) (0, 0) _ rfl (set_nine RE.out) Try.underlying36 (by kernel_rfl) (by kernel_rfl)) rfl ?_
  exact ⟨a6, n3 + 1, c6, rfl, El.only EE.out r0 (fun b o hb => cell_set9 _ _ _ _ _ _ _ _ _ _ _ _ _ hb) (by simp), H61.out, H62.out, below_set9 _ _ _ _ _ _ _ _ _ (by have k := BE.out; rw [HD.out] at k; exact k) (by rw [HD.out]; omega)⟩

set_option maxRecDepth 100000 in
set_option maxHeartbeats 16000000 in
theorem refput_ok2 (s : Nat → Nat) (ao : Option Addr) (n c : Nat) (xs : List Ent) (i : Nat) (k v : ByteArray) (W : World) (h : El W ao n xs) (hn : n ≤ 300000) (hi : i < 8) (hk : 1 ≤ k.size ∧ k.size ≤ 64) (hv : v.size ≤ 64) (hsi : s i < 1099511627776) (hne : ∀ e ∈ xs, 1 ≤ e.key.size) (hroom : 64 ≤ keysF ⟨#[]⟩ xs ∧ 0 < (getL xs k).length) :
    Calls Try.prog 24 #[tabV s (.slice ao n c), .int .i64 (i : Int), .string k, .string v] W fun e w' => ∃ ao' n' c', e = .returned (.tuple #[tabV (putT ⟨s, xs⟩ i hi k v).seen (.slice ao' n' c'), .int .i64 0]) ∧ El w' ao' n' (putT ⟨s, xs⟩ i hi k v).L ∧ n' ≤ c' ∧ c' ≤ maxLen ∧ Below W.heap.size W w' := by
  obtain ⟨V, hV⟩ : ∃ V, V = (W.alloc (.cells #[.int .i64 (s 0 : Int), .int .i64 (s 1 : Int), .int .i64 (s 2 : Int), .int .i64 (s 3 : Int), .int .i64 (s 4 : Int), .int .i64 (s 5 : Int), .int .i64 (s 6 : Int), .int .i64 (s 7 : Int), .slice ao n c] 36)).alloc (.cells #[.int .i64 0, .int .i64 0, .int .i64 0, .int .i64 0, .int .i64 0, .int .i64 0, .int .i64 0, .int .i64 0, .slice none 0 0] 36) := ⟨_, rfl⟩
  have HB : Hid (Below W.heap.size W V) := Lib.hid (by rw [hV]; exact below2 W _ _)
  have TA : Hid (RTab V W.heap.size s (.slice ao n c)) := Lib.hid (by unfold RTab; rw [hV]; exact block1 W _ _)
  have TR : Hid (V.heap[W.heap.size + 1]? = some (.cells #[.int .i64 0, .int .i64 0, .int .i64 0, .int .i64 0, .int .i64 0, .int .i64 0, .int .i64 0, .int .i64 0, .slice none 0 0] 36 (0, 0))) := Lib.hid (by rw [hV]; exact block2 W _ _)
  have HV := Lib.hid hV
  clear hV
  have d0 : ¬ (i : Int) < 0 := by omega
  have d1 : decide ((i : Int) < 0) = false := decide_eq_false d0
  have d3 : ¬ 8 ≤ (i : Int) := by omega
  have d2 : decide (8 ≤ (i : Int)) = false := decide_eq_false d3
  have k1 : ¬ (k.size : Int) < 1 := by omega
  have k2 : decide ((k.size : Int) < 1) = false := by simpa using k1
  have k3 : ¬ (64 : Int) < (k.size : Int) := by omega
  have k4 : decide ((64 : Int) < (k.size : Int)) = false := by simpa using k3
  have i0 : (0 : Int) ≤ (i : Int) := by omega
  have i8 : (i : Int) < 8 := by omega
  have v3 : ¬ (64 : Int) < (v.size : Int) := by omega
  have v4 : decide ((64 : Int) < (v.size : Int)) = false := by simpa using v3
  have s3 : ¬ (1099511627776 : Int) ≤ (s i : Int) := by omega
  have s4 : decide ((1099511627776 : Int) ≤ (s i : Int)) = false := by simpa using s3
  have CK : Hid (∀ w, Below V.heap.size V w → Calls Try.prog 57 #[tabV s (.slice ao n c)] w fun e w' => e = .returned (.int .i64 (keysF ⟨#[]⟩ xs : Int)) ∧ Below w.heap.size w w') := Lib.hid fun w hw => refkeys_any s ao n c xs w ((h.keep HB.out).keep hw) (by omega) hne
  have CG : Hid (∀ w, Below V.heap.size V w → Calls Try.prog 13 #[tabV s (.slice ao n c), .string k] w (OutS w (getL xs k))) := Lib.hid fun w hw => refget_any s ao n c xs k w ((h.keep HB.out).keep hw) (by omega)
  have m1 : (64 : Int) ≤ (keysF ⟨#[]⟩ xs : Int) := by omega
  have m2 : decide ((64 : Int) ≤ (keysF ⟨#[]⟩ xs : Int)) = true := by simpa using m1
  have m3 : (((getL xs k).length : Int) == 0) = false := beq_eq_false_iff_ne.2 (by omega)
  have CM : Hid (∀ w, Below V.heap.size V w → Calls Try.prog 58 #[tabV s (.slice ao n c), .string k] w (fun e w' => ∃ ao n cap, e = .returned (tabV s (.slice ao n cap)) ∧ El w' ao n (remT ⟨s, xs⟩ k).L ∧ n ≤ cap ∧ cap ≤ maxLen ∧ Below w.heap.size w w')) := Lib.hid fun w hw => refrem_any s ao n c xs k w ((h.keep HB.out).keep hw) (by omega)
  have HRL : Hid ((remT ⟨s, xs⟩ k).L.length ≤ n) := Lib.hid (by rw [← h.1]; exact List.length_filter_le _ _)
  have h300 := hn
  generalize keysF ⟨#[]⟩ xs = kk at *
  generalize getL xs k = gl at *
  obtain ⟨r0, r1, r2, r3, r4, r5, r6, r7, r8⟩ := cell_nine TA.out
  have ri := nine_at TA.out i hi
  have si0 : (0 : Int) ≤ (s i : Int) := by omega
  have si1 : (s i : Int) ≤ 1099511627776 := by omega
  clear hk hv hsi h hroom hne
  show Calls _ _ _ _ (fun e w' => ∃ ao' n' c', e = .returned (.tuple #[tabV (upd s i (s i + 1)) (.slice ao' n' c'), .int .i64 0]) ∧ El w' ao' n' (insE (remT ⟨s, xs⟩ k).L ⟨k, v, i, s i + 1, hi⟩) ∧ n' ≤ c' ∧ c' ≤ maxLen ∧ Below W.heap.size W w')
  generalize (remT ⟨s, xs⟩ k).L = R at CM HRL ⊢
  unfold tabV at *
  go_enter Try.func24, Try.ntmps24
  go_upto_region 1 with fail
  rw [← HV.out]
  go_upto_region 7 with (first | (go_at_call 57; refine (CK.out _ (Below.refl _ _)).mono ?_; rintro e w2 ⟨rfl, hb2⟩; have B2 := Lib.hid hb2; obtain ⟨t0, t1, t2, t3, t4, t5, t6, t7, t8⟩ := cell_nine (TA.out.keep hb2); clear hb2) | (go_at_call 13; refine (CG.out _ B2.out).mono ?_; rintro e w3 ⟨a3, c3, rfl, hs3, hb3⟩; have B3 := Lib.hid (below_then B2.out hb3); clear hs3 hb3))
  have BA := Lib.hid B3.out
  obtain ⟨x0, x1, x2, x3, x4, x5, x6, x7, x8⟩ := cell_nine (TA.out.keep BA.out)
  go_upto_region 8 with (go_at_call 58; refine (CM.out _ BA.out).mono ?_; rintro e w5 ⟨a3, n3, c3, rfl, hel3, h31, h32, hb5⟩; have B5 := Lib.hid (below_then BA.out hb5); have E5 := Lib.hid hel3; have H31 := Lib.hid h31; have H32 := Lib.hid h32; have T5 := Lib.hid (TA.out.keep B5.out); obtain ⟨u0, u1, u2, u3, u4, u5, u6, u7, u8⟩ := cell_nine T5.out; have f0 := free_nine T5.out 0; have f1 := free_nine T5.out 1; have f2 := free_nine T5.out 2; have f3 := free_nine T5.out 3; have f4 := free_nine T5.out 4; have f5 := free_nine T5.out 5; have f6 := free_nine T5.out 6; have f7 := free_nine T5.out 7; have f8 := free_nine T5.out 8; clear hb5 hel3 h31 h32)
  obtain ⟨V7, hV7⟩ : ∃ V7, V7 = (((((((((w5.setCell ⟨W.heap.size, 0, none⟩ (.int .i64 (s 0 : Int))).setCell ⟨W.heap.size, 1, none⟩ (.int .i64 (s 1 : Int))).setCell ⟨W.heap.size, 2, none⟩ (.int .i64 (s 2 : Int))).setCell ⟨W.heap.size, 3, none⟩ (.int .i64 (s 3 : Int))).setCell ⟨W.heap.size, 4, none⟩ (.int .i64 (s 4 : Int))).setCell ⟨W.heap.size, 5, none⟩ (.int .i64 (s 5 : Int))).setCell ⟨W.heap.size, 6, none⟩ (.int .i64 (s 6 : Int))).setCell ⟨W.heap.size, 7, none⟩ (.int .i64 (s 7 : Int))).setCell ⟨W.heap.size, 8, none⟩ (.slice a3 n3 c3)) := ⟨_, rfl⟩
  have T7 : Hid (RTab V7 W.heap.size s (.slice a3 n3 c3)) := Lib.hid (by rw [hV7]; exact T5.out.all)
  have B7 : Hid (Below W.heap.size W V7) := Lib.hid (by rw [hV7]; exact below_set9 _ _ _ _ _ _ _ _ _ (HB.out.trans (B5.out.mono HB.out.size)) (Nat.le_refl _))
  have E7 : Hid (El V7 a3 n3 R) := Lib.hid (by rw [hV7]; exact El.only E5.out u0 (fun b o hb => cell_set9 _ _ _ _ _ _ _ _ _ _ _ _ _ hb) (by simp))
  have R7 : Hid (V7.heap[W.heap.size + 1]? = some (.cells #[.int .i64 0, .int .i64 0, .int .i64 0, .int .i64 0, .int .i64 0, .int .i64 0, .int .i64 0, .int .i64 0, .slice none 0 0] 36 (0, 0))) := Lib.hid (by rw [hV7]; exact (heap_set9 _ _ _ _ _ _ _ _ _ _ _ _ (by simp)).trans (row_keep B5.out TR.out))
  rw [← hV7]
  clear hV7 u0 u1 u2 u3 u4 u5 u6 u7 u8 f0 f1 f2 f3 f4 f5 f6 f7 f8 x0 x1 x2 x3 x4 x5 x6 x7 x8 r0 r1 r2 r3 r4 r5 r6 r7 r8 ri t0 t1 t2 t3 t4 t5 t6 t7 t8
  have hDs : W.heap.size + 1 < V7.heap.size := (Array.getElem?_eq_some_iff.1 R7.out).1
  obtain ⟨D, hD⟩ : ∃ D, D = W.heap.size := ⟨_, rfl⟩
  have HD := Lib.hid hD
  rw [← hD] at T7 B7 R7 hDs ⊢
  clear hD
  have ri := nine_at T7.out i hi
  have fi := free_nine T7.out i
  have wr1 : IntKind.i64.wrap ((s i : Int) + 1) = (s i : Int) + 1 := IntWalk.i64_in _ (by omega)
  go_upto_region 9 with fail
  obtain ⟨V9, hV9⟩ : ∃ V9, V9 = V7.setCell ⟨D, i, none⟩ (.int .i64 ((s i : Int) + 1)) := ⟨_, rfl⟩
  have B9 : Hid (Below D W V9) := Lib.hid (by rw [hV9]; exact B7.out.setCell (p := ⟨D, i, none⟩) (Nat.le_refl _) _)
  have T9 : Hid (RTab V9 D (upd s i (s i + 1)) (.slice a3 n3 c3)) := Lib.hid (by rw [hV9]; exact RTab.put (v := s i + 1) T7.out hi)
  have E9 : Hid (El V9 a3 n3 R) := Lib.hid (by rw [hV9]; exact El.only E7.out (cell_nine T7.out).1 (fun b q hb => only_set b q hb) (by simp))
  have R9 : Hid (V9.heap[D + 1]? = some (.cells #[.int .i64 0, .int .i64 0, .int .i64 0, .int .i64 0, .int .i64 0, .int .i64 0, .int .i64 0, .int .i64 0, .slice none 0 0] 36 (0, 0))) := Lib.hid (by rw [hV9, Below.heap_setCell _ _ _ _ (by simp)]; exact R7.out)
  rw [← hV9]
  clear hV9 ri fi wr1
  have yi := nine_at T9.out i hi
  rw [upd_self] at yi
  have y8 := (cell_nine T9.out).2.2.2.2.2.2.2.2
  have PU : Hid (∀ w, Below V9.heap.size V9 w → Calls Try.prog 35 #[.slice a3 n3 c3, .agg #[.string k, .string v, .int .i64 (i : Int), .int .i64 ((s i : Int) + 1)]] w fun e w' => ∃ ao' c', e = .returned (.slice ao' (n3 + 1) c') ∧ El w' ao' (n3 + 1) (insE R ⟨k, v, i, s i + 1, hi⟩) ∧ n3 + 1 ≤ c' ∧ c' ≤ maxLen ∧ Below w.heap.size w w') := Lib.hid fun w hw => refput_new a3 n3 c3 R k v i (s i + 1) hi _ (by omega) w (E9.out.keep hw) (by rw [← E9.out.1]; have := HRL.out; omega) H31.out (Nat.le_trans H32.out (by decide))
  have y8 : V9.cell? ⟨D, 8, none⟩ = some (.slice a3 n3 c3) := y8
  have yi : V9.cell? ⟨D, i, none⟩ = some (.int .i64 ((s i : Int) + 1)) := yi
  refine wp_region_late (S := fun w' => w'.cell? ⟨D, 8, none⟩ = some (.slice a3 n3 c3) ∧ w'.cell? ⟨D, i, none⟩ = some (.int .i64 ((s i : Int) + 1))) 13 (by kernel_rfl) ⟨y8, yi⟩ (fun hS => ?_)
  refine wpAnyT_take (i := 0) (v := ?v0) rfl (by kernel_rfl) (by kernel_rfl) (by kernel_rfl) (by kernel_rfl) (fun _ _ _ h => h) (Or.inl ⟨by rfl, ?hy0⟩) hS ?rest0
  case hy0 => (intro w hSw; (try dsimp only at hSw); (first | (go_simp; done) | (go_simp; with_reducible rfl)))
  try simp only [Act.put, List.setIfInBounds_toArray, List.set_cons_zero, List.set_cons_succ]
  refine wpAnyT_take (i := 1) (v := ?v1) rfl (by kernel_rfl) (by kernel_rfl) (by kernel_rfl) (by kernel_rfl) (fun _ _ _ h => h) (Or.inl ⟨by rfl, ?hy1⟩) hS ?rest1
  case hy1 => (intro w hSw; (try dsimp only at hSw); (first | (go_simp; done) | (go_simp; with_reducible rfl)))
  try simp only [Act.put, List.setIfInBounds_toArray, List.set_cons_zero, List.set_cons_succ]
  refine wpAnyT_take (i := 2) (v := ?v2) rfl (by kernel_rfl) (by kernel_rfl) (by kernel_rfl) (by kernel_rfl) (fun _ _ _ h => h) (Or.inl ⟨by rfl, ?hy2⟩) hS ?rest2
  case hy2 => (intro w hSw; (try dsimp only at hSw); (first | (go_simp; done) | (go_simp; with_reducible rfl)))
  try simp only [Act.put, List.setIfInBounds_toArray, List.set_cons_zero, List.set_cons_succ]
  refine wpAnyT_take (i := 3) (v := ?v3) rfl (by kernel_rfl) (by kernel_rfl) (by kernel_rfl) (by kernel_rfl) (fun _ _ _ h => h) (Or.inl ⟨by rfl, ?hy3⟩) hS ?rest3
  case hy3 => (intro w hSw; (try dsimp only at hSw); (first | (go_simp; done) | (go_simp; with_reducible rfl)))
  try simp only [Act.put, List.setIfInBounds_toArray, List.set_cons_zero, List.set_cons_succ]
  refine wpAnyT_take (i := 4) (v := ?v4) rfl (by kernel_rfl) (by kernel_rfl) (by kernel_rfl) (by kernel_rfl) (fun _ _ _ h => h) (Or.inl ⟨by rfl, ?hy4⟩) hS ?rest4
  case hy4 => (intro w hSw; (try dsimp only at hSw); (first | (go_simp; done) | (go_simp; with_reducible rfl)))
  try simp only [Act.put, List.setIfInBounds_toArray, List.set_cons_zero, List.set_cons_succ]
  refine wpAnyT_take (i := 5) (v := ?v5) rfl (by kernel_rfl) (by kernel_rfl) (by kernel_rfl) (by kernel_rfl) (fun _ _ _ h => h) (Or.inl ⟨by rfl, ?hy5⟩) hS ?rest5
  case hy5 => (intro w hSw; (try dsimp only at hSw); (first | (go_simp; done) | (go_simp; with_reducible rfl)))
  try simp only [Act.put, List.setIfInBounds_toArray, List.set_cons_zero, List.set_cons_succ]
  refine wpAnyT_take (i := 6) (v := ?v6) rfl (by kernel_rfl) (by kernel_rfl) (by kernel_rfl) (by kernel_rfl) (fun _ _ _ h => h) (Or.inl ⟨by rfl, ?hy6⟩) hS ?rest6
  case hy6 => (intro w hSw; (try dsimp only at hSw); (first | (go_simp; done) | (go_simp; with_reducible rfl)))
  try simp only [Act.put, List.setIfInBounds_toArray, List.set_cons_zero, List.set_cons_succ]
  refine wpAnyT_take (i := 7) (v := ?v7) rfl (by kernel_rfl) (by kernel_rfl) (by kernel_rfl) (by kernel_rfl) (fun _ _ _ h => h) (Or.inl ⟨by rfl, ?hy7⟩) hS ?rest7
  case hy7 => (intro w hSw; (try dsimp only at hSw); (first | (go_simp; done) | (go_simp; with_reducible rfl)))
  try simp only [Act.put, List.setIfInBounds_toArray, List.set_cons_zero, List.set_cons_succ]
  refine wpAnyT_take (i := 8) (v := ?v8) rfl (by kernel_rfl) (by kernel_rfl) (by kernel_rfl) (by kernel_rfl) (fun _ _ _ h => h) (Or.inl ⟨by rfl, ?hy8⟩) hS ?rest8
  case hy8 => (intro w hSw; (try dsimp only at hSw); (first | (go_simp; done) | (go_simp; with_reducible rfl)))
  try simp only [Act.put, List.setIfInBounds_toArray, List.set_cons_zero, List.set_cons_succ]
  refine wpAnyT_take (i := 9) (v := ?v9) rfl (by kernel_rfl) (by kernel_rfl) (by kernel_rfl) (by kernel_rfl) (fun _ _ _ h => h) (Or.inl ⟨by rfl, ?hy9⟩) hS ?rest9
  case hy9 => (intro w hSw; (try dsimp only at hSw); (first | (go_simp; done) | (go_simp; with_reducible rfl)))
  try simp only [Act.put, List.setIfInBounds_toArray, List.set_cons_zero, List.set_cons_succ]
  refine wpAnyT_take (i := 10) (v := ?v10) rfl (by kernel_rfl) (by kernel_rfl) (by kernel_rfl) (by kernel_rfl) (fun _ _ _ h => h) (Or.inl ⟨by rfl, ?hy10⟩) hS ?rest10
  case hy10 => (intro w hSw; (try dsimp only at hSw); (first | (go_simp; done) | (go_simp; with_reducible rfl)))
  try simp only [Act.put, List.setIfInBounds_toArray, List.set_cons_zero, List.set_cons_succ]
  refine wpAnyT_step 11 rfl (by kernel_rfl) (by decide) (fun K hK => ?_)
  try go_simp
  go_at_call 35
  refine (PU.out V9.drew (drew_below V9)).mono ?_
  rintro e w6 ⟨a6, c6, rfl, hel6, h61, h62, hb6⟩
  have B6 := Lib.hid ((drew_below V9).trans hb6)
  have E6 := Lib.hid hel6
  have H61 := Lib.hid h61
  have H62 := Lib.hid h62
  have z8 := cell_later B6.out y8
  have zi := cell_later B6.out yi
  have T6 := Lib.hid (T9.out.keep B6.out)
  have f8 := free_nine T6.out 8
  clear hel6 h61 h62 hb6
  refine hK.out _ _ ⟨z8, zi⟩ (fun hS => ?_)
  clear hK K
  try simp only [Act.put, List.setIfInBounds_toArray, List.set_cons_zero, List.set_cons_succ]
  refine wpAnyT_take (i := 12) (v := ?v12) rfl (by kernel_rfl) (by kernel_rfl) (by kernel_rfl) (by kernel_rfl) (fun _ _ _ h => h) (Or.inl ⟨by rfl, ?hy12⟩) hS ?rest12
  case hy12 => (intro w hSw; (try dsimp only at hSw); (first | (go_simp; done) | (go_simp; with_reducible rfl)))
  try simp only [Act.put, List.setIfInBounds_toArray, List.set_cons_zero, List.set_cons_succ]
  refine wpAnyT_last rfl (by kernel_rfl) (by kernel_rfl) (fun K hK => ?_)
  go_simp
  refine hK.out _ _ ?_
  clear hK K
  obtain ⟨VE, hVE⟩ : ∃ VE, VE = w6.setCell ⟨D, 8, none⟩ (.slice a6 (n3 + 1) c6) := ⟨_, rfl⟩
  have BE : Hid (Below D W VE) := Lib.hid (by rw [hVE]; exact (B9.out.trans (B6.out.mono (by rw [HD.out]; exact B9.out.size))).setCell (p := ⟨D, 8, none⟩) (Nat.le_refl _) _)
  have TE : Hid (RTab VE D (upd s i (s i + 1)) (.slice a6 (n3 + 1) c6)) := Lib.hid (by rw [hVE]; exact T6.out.slice)
  have EE : Hid (El VE a6 (n3 + 1) (insE R ⟨k, v, i, s i + 1, hi⟩)) := Lib.hid (by rw [hVE]; exact El.only E6.out (cell_nine T6.out).1 (fun b q hb => only_set b q hb) (by simp))
  have RE : Hid (VE.heap[D + 1]? = some (.cells #[.int .i64 0, .int .i64 0, .int .i64 0, .int .i64 0, .int .i64 0, .int .i64 0, .int .i64 0, .int .i64 0, .slice none 0 0] 36 (0, 0))) := Lib.hid (by rw [hVE, Below.heap_setCell _ _ _ _ (by simp)]; exact row_keep B6.out R9.out)
  rw [← hVE]
  clear hVE y8 yi z8 zi f8
  obtain ⟨x0, x1, x2, x3, x4, x5, x6, x7, x8⟩ := cell_nine TE.out
  obtain ⟨r0, r1, r2, r3, r4, r5, r6, r7, r8⟩ := cell_nine RE.out
  have f0 := free_nine RE.out 0; have f1 := free_nine RE.out 1; have f2 := free_nine RE.out 2; have f3 := free_nine RE.out 3; have f4 := free_nine RE.out 4; have f5 := free_nine RE.out 5; have f6 := free_nine RE.out 6; have f7 := free_nine RE.out 7; have f8 := free_nine RE.out 8
  go_wp2
  refine bodyPost_ret (v := .tuple #[tabV (upd s i (s i + 1)) (.slice a6 (n3 + 1) c6), .int .i64 0]) (results_cell_tmp Try.results24 _ _ (D + 1) 36 (tabC (upd s i (s i + 1)) (.slice a6 (n3 + 1) c6)) (0, 0) _ rfl (set_nine RE.out) Try.underlying36 (by kernel_rfl) (by kernel_rfl)) rfl ?_
  exact ⟨a6, n3 + 1, c6, rfl, El.only EE.out r0 (fun b o hb => cell_set9 _ _ _ _ _ _ _ _ _ _ _ _ _ hb) (by simp), H61.out, H62.out, below_set9 _ _ _ _ _ _ _ _ _ (by have k := BE.out; rw [HD.out] at k; exact k) (by rw [HD.out]; omega)⟩

theorem refput_ok (s : Nat → Nat) (ao : Option Addr) (n c : Nat) (xs : List Ent) (i : Nat) (k v : ByteArray) (W : World) (h : El W ao n xs) (hn : n ≤ 300000) (hi : i < 8) (hk : 1 ≤ k.size ∧ k.size ≤ 64) (hv : v.size ≤ 64) (hsi : s i < 1099511627776) (hne : ∀ e ∈ xs, 1 ≤ e.key.size) (hroom : room xs k = true) :
    Calls Try.prog 24 #[tabV s (.slice ao n c), .int .i64 (i : Int), .string k, .string v] W fun e w' => ∃ ao' n' c', e = .returned (.tuple #[tabV (putT ⟨s, xs⟩ i hi k v).seen (.slice ao' n' c'), .int .i64 0]) ∧ El w' ao' n' (putT ⟨s, xs⟩ i hi k v).L ∧ n' ≤ c' ∧ c' ≤ maxLen ∧ Below W.heap.size W w' := by
  by_cases hr : keysF ⟨#[]⟩ xs < 64
  · exact refput_ok1 s ao n c xs i k v W h hn hi hk hv hsi hne hr
  · refine refput_ok2 s ao n c xs i k v W h hn hi hk hv hsi hne ⟨by omega, ?_⟩
    unfold room at hroom
    rw [decide_eq_false hr, Bool.or_false, decide_eq_true_iff] at hroom
    exact hroom
end Go.Proofs.Ytpghehckojdgeaa
