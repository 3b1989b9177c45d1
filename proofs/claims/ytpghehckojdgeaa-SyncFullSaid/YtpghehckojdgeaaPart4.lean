/- Part 4 of the contracts: SKeys, SPut, SPutOk, SLat, SApi, SAwake, SNil, RLess. -/
import Derived.IntWalk
import Derived.WalkLawsBesides
import Derived.Test.YtpghehckojdgeaaPart3

/- The program's keys, hasRoom; strings.Clone. (By gen_keys.py.) -/
set_option linter.unusedVariables false
set_option linter.unusedSimpArgs false
namespace Go.Proofs.Ytpghehckojdgeaa
open Go.RowKit Go.Shelf Go.Sort

noncomputable def kN (k : ByteArray) (e : Ent) : Nat := cond (isKeyB k e) 0 1
theorem kN_le (k : ByteArray) (e : Ent) : kN k e ≤ 1 := by unfold kN; cases isKeyB k e <;> simp
/-- how often the key changes -/
noncomputable def keysF : ByteArray → List Ent → Nat
  | _, [] => 0
  | k, e :: l => kN k e + keysF e.key l
def lastK : ByteArray → List Ent → ByteArray
  | k, [] => k
  | _, e :: l => lastK e.key l
theorem keysF_snoc (y : Ent) : ∀ (xs : List Ent) (k : ByteArray), keysF k (xs ++ [y]) = keysF k xs + kN (lastK k xs) y ∧ lastK k (xs ++ [y]) = y.key
  | [], k => ⟨by simp [keysF, lastK], rfl⟩
  | e :: l, k => by
    have := keysF_snoc y l e.key
    exact ⟨by simp only [List.cons_append, keysF, lastK]; rw [this.1]; omega, this.2⟩
theorem keysF_len : ∀ (xs : List Ent) (k : ByteArray), keysF k xs ≤ xs.length
  | [], _ => Nat.le_refl _
  | e :: l, k => by
    have := keysF_len l e.key
    have := kN_le k e
    simp only [keysF, List.length_cons]
    omega

set_option maxRecDepth 100000 in
set_option maxHeartbeats 4000000 in
theorem keys_any (s : Nat → Nat) (ao : Option Addr) (n c : Nat) (xs : List Ent) (W : World) (h : El W ao n xs) (hn : n ≤ 900000) :
    Calls Try.prog 75 #[tabV s (.slice ao n c)] W fun e w' => e = .returned (.int .i64 (keysF ⟨#[]⟩ xs : Int)) ∧ Below W.heap.size W w' := by
  obtain ⟨V, hV⟩ : ∃ V, V = W.alloc (.cells #[.int .i64 (s 0 : Int), .int .i64 (s 1 : Int), .int .i64 (s 2 : Int), .int .i64 (s 3 : Int), .int .i64 (s 4 : Int), .int .i64 (s 5 : Int), .int .i64 (s 6 : Int), .int .i64 (s 7 : Int), .slice ao n c] 34) := ⟨_, rfl⟩
  have HB : Hid (Below W.heap.size W V) := Lib.hid (by rw [hV]; exact box_below W _)
  have r8 : V.cell? ⟨W.heap.size, 8, none⟩ = some (.slice ao n c) := (nine_cells (s := s) (sl := .slice ao n c) (ty := 34) (by rw [hV]; exact heap_alloc_new _ _)).2.2.2.2.2.2.2.2
  have HE := Lib.hid (h.keep HB.out)
  have HN := Lib.hid h.1
  have HV := Lib.hid hV
  have pn : (n : Int) ≤ 900000 := by omega
  clear hV h
  unfold tabV
  go_enter Try.func75, Try.ntmps75
  go_upto_region 1 with fail
  rw [← HV.out]
  go_wp2
  go_loopg [3, 4, 6, 10] n (fun gg s3 s4 s6 s10 wr => ∃ (j m : Nat) (z : ByteArray), s10 = .int .i64 (j : Int) ∧ j ≤ n ∧ n - j ≤ gg ∧ s3 = .int .i64 (m : Int) ∧ s4 = .string z ∧ m ≤ j ∧ Hid (m = keysF ⟨#[]⟩ (xs.take j) ∧ z = lastK ⟨#[]⟩ (xs.take j)) ∧ Hid (Below V.heap.size V wr))
  case atStart => exact ⟨0, 0, ⟨#[]⟩, rfl, Nat.zero_le _, by omega, rfl, rfl, Nat.le_refl _, Lib.hid ⟨rfl, rfl⟩, Lib.hid (Below.refl _ _)⟩
  case round =>
    obtain ⟨j, m, z, rfl, hj, hgg, rfl, rfl, hmj, HI, HBr⟩ := hrel
    by_cases hlt : j < n
    · have hltz : (j : Int) < (n : Int) := by omega
      obtain ⟨g, hg, hc⟩ : ∃ g, ao = some ⟨g, 0, none⟩ ∧ At4 wr g (j * 4) xs[j]! := by
        have he := HE.out.keep HBr.out
        rcases he.2 with ⟨_, h0⟩ | ⟨g, hg, hr⟩
        · omega
        · exact ⟨g, hg, hr.2 j (by rw [HN.out]; exact hlt)⟩
      have HSN := Lib.hid (keysF_snoc xs[j]! (xs.take j) ⟨#[]⟩)
      have HTK : Hid (xs.take (j + 1) = xs.take j ++ [xs[j]!]) := Lib.hid (take_succ! (by rw [HN.out]; exact hlt))
      obtain ⟨y, hy⟩ : ∃ y, y = xs[j]! := ⟨_, rfl⟩
      rw [← hy] at hc HSN HTK
      clear hy
      obtain ⟨c0, c1, c2, c3⟩ := hc
      subst hg
      have q8 := cell_later HBr.out r8
      by_cases hk : y.key = z
      · have qk := str_eq hk
        have HK := Lib.hid hk
        clear hk
        go_wp2
        go_roundg (n - (j + 1))
        case measure => omega
        case rel =>
          refine ⟨j + 1, m, z, by go_num, by omega, Nat.le_refl _, rfl, rfl, by omega, Lib.hid ?_, Lib.hid (HBr.out.alloc HBr.out.size _)⟩
          rw [HTK.out, HSN.out.1, HSN.out.2, ← HI.out.1, ← HI.out.2, show kN z y = 0 from by unfold kN isKeyB; rw [decide_eq_true HK.out]; rfl]
          exact ⟨rfl, HK.out.symm⟩
      · have qk := str_ne hk
        have HK := Lib.hid hk
        clear hk
        go_wp2_with fail
        go_quiet (fail)
        go_wp2
        go_roundg (n - (j + 1))
        case measure => omega
        case rel =>
          refine ⟨j + 1, m + 1, y.key, by go_num, by omega, Nat.le_refl _, by go_num, rfl, by omega, Lib.hid ?_, Lib.hid (below_drewN (HBr.out.alloc HBr.out.size _) _)⟩
          rw [HTK.out, HSN.out.1, HSN.out.2, ← HI.out.1, ← HI.out.2, show kN z y = 1 from by unfold kN isKeyB; rw [decide_eq_false HK.out]; rfl]
          exact ⟨rfl, rfl⟩
    · obtain rfl : j = n := by omega
      have hltz : ¬ (j : Int) < (j : Int) := by omega
      go_wp2
      go_ret
      have hi := HI.out.1
      rw [List.take_of_length_le (by rw [HN.out]; exact Nat.le_refl _)] at hi
      exact ⟨by rw [← hi]; rfl, HB.out.trans (HBr.out.mono HB.out.size)⟩

/-- may a key be added? -/
noncomputable def room (xs : List Ent) (k : ByteArray) : Bool := decide (0 < (getL xs k).length) || decide (keysF ⟨#[]⟩ xs < 64)
set_option maxRecDepth 100000 in
set_option maxHeartbeats 4000000 in
theorem hasRoom_any (s : Nat → Nat) (ao : Option Addr) (n c : Nat) (xs : List Ent) (k : ByteArray) (W : World) (h : El W ao n xs) (hn : n ≤ 900000) :
    Calls Try.prog 52 #[tabV s (.slice ao n c), .string k] W fun e w' => e = .returned (.bool (room xs k)) ∧ Below W.heap.size W w' := by
  obtain ⟨V, hV⟩ : ∃ V, V = W.alloc (.cells #[.int .i64 (s 0 : Int), .int .i64 (s 1 : Int), .int .i64 (s 2 : Int), .int .i64 (s 3 : Int), .int .i64 (s 4 : Int), .int .i64 (s 5 : Int), .int .i64 (s 6 : Int), .int .i64 (s 7 : Int), .slice ao n c] 34) := ⟨_, rfl⟩
  have HB : Hid (Below W.heap.size W V) := Lib.hid (by rw [hV]; exact box_below W _)
  have TA : Hid (TabAt V W.heap.size s (.slice ao n c)) := Lib.hid (by unfold TabAt; rw [hV]; exact heap_alloc_new _ _)
  have HE := Lib.hid (h.keep HB.out)
  have CG := Lib.hid (get_any s ao n c xs k V HE.out hn)
  have CK : Hid (∀ w, Below V.heap.size V w → Calls Try.prog 75 #[tabV s (.slice ao n c)] w fun e w' => e = .returned (.int .i64 (keysF ⟨#[]⟩ xs : Int)) ∧ Below w.heap.size w w') := Lib.hid fun w hw => keys_any s ao n c xs w (HE.out.keep hw) hn
  have HV := Lib.hid hV
  obtain ⟨r0, r1, r2, r3, r4, r5, r6, r7, r8⟩ := cell_nine TA.out
  have hl := getL_len xs k
  have hkl := keysF_len xs ⟨#[]⟩
  have hxn := h.1
  have hl9 : (getL xs k).length ≤ 900000 := by omega
  have hk9 : keysF ⟨#[]⟩ xs ≤ 900000 := by omega
  clear hV h hl hkl hxn
  show Calls _ _ _ _ (fun e w' => e = .returned (.bool (decide (0 < (getL xs k).length) || decide (keysF ⟨#[]⟩ xs < 64))) ∧ Below W.heap.size W w')
  generalize keysF ⟨#[]⟩ xs = m at CK hk9 ⊢
  generalize getL xs k = ss at CG hl9 ⊢
  obtain ⟨l, hl⟩ : ∃ l, l = ss.length := ⟨_, rfl⟩
  unfold OutS at CG
  rw [← hl] at CG hl9 ⊢
  clear hl
  unfold tabV at *
  by_cases h0 : 0 < l
  · have e : (decide (0 < l) || decide (m < 64)) = true := by simp [h0]
    rw [e]
    have q1 : (0 : Int) < (l : Int) := by omega
    clear e
    go_enter Try.func52, Try.ntmps52
    go_upto_region 1 with fail
    rw [← HV.out]
    go_wp2_with (go_at_call 12; refine CG.out.mono ?_; rintro e w1 ⟨a1, k1, rfl, hs1, hb1⟩; have B1 := Lib.hid hb1; clear hs1 hb1)
    go_ret
    exact ⟨rfl, HB.out.trans (B1.out.mono HB.out.size)⟩
  · have q1 : ¬ (0 : Int) < (l : Int) := by omega
    by_cases h1 : m < 64
    · have e : (decide (0 < l) || decide (m < 64)) = true := by simp [h1]
      rw [e]
      have q2 : (m : Int) < 64 := by omega
      have q3 : decide ((0 : Int) < (l : Int)) = false := by simpa using q1
      clear e
      go_enter Try.func52, Try.ntmps52
      go_upto_region 1 with fail
      rw [← HV.out]
      go_wp2_with (first | (go_at_call 12; refine CG.out.mono ?_; rintro e w1 ⟨a1, k1, rfl, hs1, hb1⟩; have B1 := Lib.hid hb1; obtain ⟨p0, p1, p2, p3, p4, p5, p6, p7, p8⟩ := cell_nine (TA.out.keep hb1); clear hs1 hb1) | (go_at_call 75; refine (CK.out _ B1.out).mono ?_; rintro e w2 ⟨rfl, hb2⟩; have B2 := Lib.hid (below_then B1.out hb2); clear hb2))
      go_ret
      exact ⟨rfl, HB.out.trans (B2.out.mono HB.out.size)⟩
    · have e : (decide (0 < l) || decide (m < 64)) = false := by simp [h1]; omega
      rw [e]
      have q2 : ¬ (m : Int) < 64 := by omega
      have q4 : decide ((m : Int) < 64) = false := by simpa using q2
      have q3 : decide ((0 : Int) < (l : Int)) = false := by simpa using q1
      clear e
      go_enter Try.func52, Try.ntmps52
      go_upto_region 1 with fail
      rw [← HV.out]
      go_wp2_with (first | (go_at_call 12; refine CG.out.mono ?_; rintro e w1 ⟨a1, k1, rfl, hs1, hb1⟩; have B1 := Lib.hid hb1; obtain ⟨p0, p1, p2, p3, p4, p5, p6, p7, p8⟩ := cell_nine (TA.out.keep hb1); clear hs1 hb1) | (go_at_call 75; refine (CK.out _ B1.out).mono ?_; rintro e w2 ⟨rfl, hb2⟩; have B2 := Lib.hid (below_then B1.out hb2); clear hb2))
      go_ret
      exact ⟨rfl, HB.out.trans (B2.out.mono HB.out.size)⟩
theorem clone_str (k : ByteArray) (W : World) (hk : k.size ≤ 64) : Calls Try.prog 54 #[.string k] W fun e w' => e = .returned (.string k) ∧ Below W.heap.size W w' := by
  have hc := Try.stringslite_Clone k W (by omega)
  go_enter Try.func54, Try.ntmps54
  go_wp2_with (go_at_call 77; refine hc.mono ?_; rintro e w1 ⟨rfl, hb1⟩; have B1 := Lib.hid hb1; clear hb1)
  go_ret
  exact ⟨rfl, B1.out⟩
end Go.Proofs.Ytpghehckojdgeaa

/- The program's Put. (By gen_put.py.) -/
set_option linter.unusedVariables false
set_option linter.unusedSimpArgs false
namespace Go.Proofs.Ytpghehckojdgeaa
open Go.RowKit Go.Shelf Go.Sort

theorem results_cell_tmp {P : Program} {fn : Func} {p q : Tmp} {ty : TypeId} (h : fn.results = #[.cell p ty, .tmp q]) (tmps : Array Value) (w : World) (g : Nat) (t : TypeId) (cs : Array Value) (fr : Nat × Nat) (d : TypeDesc)
    (hp : tmps.getD p undef = .pointer (some ⟨g, 0, none⟩)) (hg : w.heap[g]? = some (.cells cs t fr))
    (hu : P.underlying ty = some d) (hd : (match d with | .struct _ | .array _ _ => true | _ => false) = true) (hi : (P.info? ty).map (·.size) = some cs.size) :
    (results fn tmps).run P w = .ok (.tuple #[.agg cs, tmps.getD q undef]) w := by
  have hp' : tmps[p]?.getD undef = .pointer (some ⟨g, 0, none⟩) := by simpa using hp
  simp [results, h, hp', asAddr, run_loadVar_row w g t ty cs fr d hg hu hd hi, Result.andThen]

set_option maxRecDepth 100000 in
set_option maxHeartbeats 4000000 in
theorem put_site (s : Nat → Nat) (ao : Option Addr) (n c : Nat) (i : Int) (k v : ByteArray) (W : World) (hi : i < 0 ∨ 8 ≤ i) :
    Calls Try.prog 23 #[tabV s (.slice ao n c), .int .i64 i, .string k, .string v] W fun e w' => e = .returned (.tuple #[zeroT, .int .i64 80]) ∧ Below W.heap.size W w' := by
  obtain ⟨V, hV⟩ : ∃ V, V = (W.alloc (.cells #[.int .i64 (s 0 : Int), .int .i64 (s 1 : Int), .int .i64 (s 2 : Int), .int .i64 (s 3 : Int), .int .i64 (s 4 : Int), .int .i64 (s 5 : Int), .int .i64 (s 6 : Int), .int .i64 (s 7 : Int), .slice ao n c] 34)).alloc (.cells #[.int .i64 0, .int .i64 0, .int .i64 0, .int .i64 0, .int .i64 0, .int .i64 0, .int .i64 0, .int .i64 0, .slice none 0 0] 34) := ⟨_, rfl⟩
  have HB : Hid (Below W.heap.size W V) := Lib.hid (by rw [hV]; exact below2 W _ _)
  have TA : Hid (TabAt V W.heap.size s (.slice ao n c)) := Lib.hid (by unfold TabAt; rw [hV]; exact block1 W _ _)
  have TR : Hid (V.heap[W.heap.size + 1]? = some (.cells #[.int .i64 0, .int .i64 0, .int .i64 0, .int .i64 0, .int .i64 0, .int .i64 0, .int .i64 0, .int .i64 0, .slice none 0 0] 34 (0, 0))) := Lib.hid (by rw [hV]; exact block2 W _ _)
  have hbv : W.heap.size + 1 < V.heap.size := (Array.getElem?_eq_some_iff.1 TR.out).1
  have HV := Lib.hid hV
  clear hV
  have hs : (decide (0 ≤ i) && decide (i < 8)) = false := by simp; omega
  obtain ⟨q0, q1, q2, q3, q4, q5, q6, q7, q8⟩ := cell_nine TR.out
  have f0 := free_nine TR.out 0; have f1 := free_nine TR.out 1; have f2 := free_nine TR.out 2; have f3 := free_nine TR.out 3; have f4 := free_nine TR.out 4; have f5 := free_nine TR.out 5; have f6 := free_nine TR.out 6; have f7 := free_nine TR.out 7; have f8 := free_nine TR.out 8
  unfold tabV
  go_enter Try.func23, Try.ntmps23
  go_upto_region 1 with fail
  rw [← HV.out]
  go_wp2_with (go_at_call 49; refine (isSite_any _ _).mono ?_; rintro e w1 ⟨rfl, rfl⟩)
  refine bodyPost_ret (v := .tuple #[zeroT, .int .i64 80]) (results_cell_tmp Try.results23 _ _ (W.heap.size + 1) 34 zeroC (0, 0) _ rfl (set_nine TR.out) Try.underlying34 (by kernel_rfl) (by kernel_rfl)) rfl ?_
  exact ⟨rfl, below_set9 _ _ _ _ _ _ _ _ _ HB.out (by omega)⟩

set_option maxRecDepth 100000 in
set_option maxHeartbeats 4000000 in
theorem put_arg (s : Nat → Nat) (ao : Option Addr) (n c : Nat) (i : Int) (k v : ByteArray) (W : World) (hi : 0 ≤ i ∧ i < 8) (hk : ¬ ((1 ≤ k.size ∧ k.size ≤ 64) ∧ v.size ≤ 64)) :
    Calls Try.prog 23 #[tabV s (.slice ao n c), .int .i64 i, .string k, .string v] W fun e w' => e = .returned (.tuple #[zeroT, .int .i64 2]) ∧ Below W.heap.size W w' := by
  obtain ⟨V, hV⟩ : ∃ V, V = (W.alloc (.cells #[.int .i64 (s 0 : Int), .int .i64 (s 1 : Int), .int .i64 (s 2 : Int), .int .i64 (s 3 : Int), .int .i64 (s 4 : Int), .int .i64 (s 5 : Int), .int .i64 (s 6 : Int), .int .i64 (s 7 : Int), .slice ao n c] 34)).alloc (.cells #[.int .i64 0, .int .i64 0, .int .i64 0, .int .i64 0, .int .i64 0, .int .i64 0, .int .i64 0, .int .i64 0, .slice none 0 0] 34) := ⟨_, rfl⟩
  have HB : Hid (Below W.heap.size W V) := Lib.hid (by rw [hV]; exact below2 W _ _)
  have TA : Hid (TabAt V W.heap.size s (.slice ao n c)) := Lib.hid (by unfold TabAt; rw [hV]; exact block1 W _ _)
  have TR : Hid (V.heap[W.heap.size + 1]? = some (.cells #[.int .i64 0, .int .i64 0, .int .i64 0, .int .i64 0, .int .i64 0, .int .i64 0, .int .i64 0, .int .i64 0, .slice none 0 0] 34 (0, 0))) := Lib.hid (by rw [hV]; exact block2 W _ _)
  have hbv : W.heap.size + 1 < V.heap.size := (Array.getElem?_eq_some_iff.1 TR.out).1
  have HV := Lib.hid hV
  clear hV
  have hs : (decide (0 ≤ i) && decide (i < 8)) = true := by simp; omega
  obtain ⟨q0, q1, q2, q3, q4, q5, q6, q7, q8⟩ := cell_nine TR.out
  have f0 := free_nine TR.out 0; have f1 := free_nine TR.out 1; have f2 := free_nine TR.out 2; have f3 := free_nine TR.out 3; have f4 := free_nine TR.out 4; have f5 := free_nine TR.out 5; have f6 := free_nine TR.out 6; have f7 := free_nine TR.out 7; have f8 := free_nine TR.out 8
  unfold tabV
  by_cases hkk : 1 ≤ k.size ∧ k.size ≤ 64
  · have hs2 : (decide (1 ≤ k.size) && decide (k.size ≤ 64)) = true := by simp; omega
    have hs3 : decide (v.size ≤ 64) = false := by simp; omega
    clear hkk hk
    go_enter Try.func23, Try.ntmps23
    go_upto_region 1 with fail
    rw [← HV.out]
    go_wp2_with (first | (go_at_call 49; refine (isSite_any _ _).mono ?_; rintro e w1 ⟨rfl, rfl⟩) | (go_at_call 50; refine (isKey_any _ _).mono ?_; rintro e w1 ⟨rfl, rfl⟩) | (go_at_call 51; refine (isValue_any _ _).mono ?_; rintro e w1 ⟨rfl, rfl⟩))
    refine bodyPost_ret (v := .tuple #[zeroT, .int .i64 2]) (results_cell_tmp Try.results23 _ _ (W.heap.size + 1) 34 zeroC (0, 0) _ rfl (set_nine TR.out) Try.underlying34 (by kernel_rfl) (by kernel_rfl)) rfl ?_
    exact ⟨rfl, below_set9 _ _ _ _ _ _ _ _ _ HB.out (by omega)⟩
  · have hs2 : (decide (1 ≤ k.size) && decide (k.size ≤ 64)) = false := by simp; omega
    clear hkk hk
    go_enter Try.func23, Try.ntmps23
    go_upto_region 1 with fail
    rw [← HV.out]
    go_wp2_with (first | (go_at_call 49; refine (isSite_any _ _).mono ?_; rintro e w1 ⟨rfl, rfl⟩) | (go_at_call 50; refine (isKey_any _ _).mono ?_; rintro e w1 ⟨rfl, rfl⟩) | (go_at_call 51; refine (isValue_any _ _).mono ?_; rintro e w1 ⟨rfl, rfl⟩))
    refine bodyPost_ret (v := .tuple #[zeroT, .int .i64 2]) (results_cell_tmp Try.results23 _ _ (W.heap.size + 1) 34 zeroC (0, 0) _ rfl (set_nine TR.out) Try.underlying34 (by kernel_rfl) (by kernel_rfl)) rfl ?_
    exact ⟨rfl, below_set9 _ _ _ _ _ _ _ _ _ HB.out (by omega)⟩

set_option maxRecDepth 100000 in
set_option maxHeartbeats 4000000 in
theorem put_full (s : Nat → Nat) (ao : Option Addr) (n c : Nat) (xs : List Ent) (i : Nat) (k v : ByteArray) (W : World) (h : El W ao n xs) (hn : n ≤ 900000) (hi : i < 8) (hk : (1 ≤ k.size ∧ k.size ≤ 64) ∧ v.size ≤ 64) (hsi : s i < 1099511627776) (hroom : room xs k = false) :
    Calls Try.prog 23 #[tabV s (.slice ao n c), .int .i64 (i : Int), .string k, .string v] W fun e w' => e = .returned (.tuple #[zeroT, .int .i64 5]) ∧ Below W.heap.size W w' := by
  obtain ⟨V, hV⟩ : ∃ V, V = (W.alloc (.cells #[.int .i64 (s 0 : Int), .int .i64 (s 1 : Int), .int .i64 (s 2 : Int), .int .i64 (s 3 : Int), .int .i64 (s 4 : Int), .int .i64 (s 5 : Int), .int .i64 (s 6 : Int), .int .i64 (s 7 : Int), .slice ao n c] 34)).alloc (.cells #[.int .i64 0, .int .i64 0, .int .i64 0, .int .i64 0, .int .i64 0, .int .i64 0, .int .i64 0, .int .i64 0, .slice none 0 0] 34) := ⟨_, rfl⟩
  have HB : Hid (Below W.heap.size W V) := Lib.hid (by rw [hV]; exact below2 W _ _)
  have TA : Hid (TabAt V W.heap.size s (.slice ao n c)) := Lib.hid (by unfold TabAt; rw [hV]; exact block1 W _ _)
  have TR : Hid (V.heap[W.heap.size + 1]? = some (.cells #[.int .i64 0, .int .i64 0, .int .i64 0, .int .i64 0, .int .i64 0, .int .i64 0, .int .i64 0, .int .i64 0, .slice none 0 0] 34 (0, 0))) := Lib.hid (by rw [hV]; exact block2 W _ _)
  have hbv : W.heap.size + 1 < V.heap.size := (Array.getElem?_eq_some_iff.1 TR.out).1
  have HV := Lib.hid hV
  clear hV
  have hs : (decide (0 ≤ (i : Int)) && decide ((i : Int) < 8)) = true := by simp; omega
  have hs2 : (decide (1 ≤ k.size) && decide (k.size ≤ 64)) = true := by simp; omega
  have hs3 : decide (v.size ≤ 64) = true := by simp; omega
  have hs4 : ((s i : Int) == 1099511627776) = false := beq_eq_false_iff_ne.2 (by omega)
  have i0 : (0 : Int) ≤ (i : Int) := by omega
  have i8 : (i : Int) < 8 := by omega
  have CR := Lib.hid (hasRoom_any s ao n c xs k V (h.keep HB.out) hn)
  rw [hroom] at CR
  obtain ⟨r0, r1, r2, r3, r4, r5, r6, r7, r8⟩ := cell_nine TA.out
  have ri := nine_at TA.out i hi
  clear hk hsi hroom h
  unfold tabV at *
  go_enter Try.func23, Try.ntmps23
  go_upto_region 1 with fail
  rw [← HV.out]
  go_wp2_with (first | (go_at_call 49; refine (isSite_any _ _).mono ?_; rintro e w1 ⟨rfl, rfl⟩) | (go_at_call 50; refine (isKey_any _ _).mono ?_; rintro e w1 ⟨rfl, rfl⟩) | (go_at_call 51; refine (isValue_any _ _).mono ?_; rintro e w1 ⟨rfl, rfl⟩) | (go_at_call 52; refine CR.out.mono ?_; rintro e w2 ⟨rfl, hb2⟩; have B2 := Lib.hid hb2; have TR2 := Lib.hid (row_keep hb2 TR.out); obtain ⟨q0, q1, q2, q3, q4, q5, q6, q7, q8⟩ := cell_nine TR2.out; have f0 := free_nine TR2.out 0; have f1 := free_nine TR2.out 1; have f2 := free_nine TR2.out 2; have f3 := free_nine TR2.out 3; have f4 := free_nine TR2.out 4; have f5 := free_nine TR2.out 5; have f6 := free_nine TR2.out 6; have f7 := free_nine TR2.out 7; have f8 := free_nine TR2.out 8; clear hb2))
  refine bodyPost_ret (v := .tuple #[zeroT, .int .i64 5]) (results_cell_tmp Try.results23 _ _ (W.heap.size + 1) 34 zeroC (0, 0) _ rfl (set_nine TR2.out) Try.underlying34 (by kernel_rfl) (by kernel_rfl)) rfl ?_
  exact ⟨rfl, below_set9 _ _ _ _ _ _ _ _ _ (HB.out.trans (B2.out.mono HB.out.size)) (by omega)⟩
end Go.Proofs.Ytpghehckojdgeaa

/- The program's Put where it succeeds. (By gen_putok.py.) -/
set_option linter.unusedVariables false
set_option linter.unusedSimpArgs false
namespace Go.Proofs.Ytpghehckojdgeaa
open Go.RowKit Go.Shelf Go.Sort

theorem bump {w : World} {T i : Nat} {s : Nat → Nat} {sl : Value} (h : TabAt w T s sl) (hi : i < 8) : TabAt (w.setCell ⟨T, i, none⟩ (.int .i64 ((s i : Int) + 1))) T (upd s i (s i + 1)) sl := by
  unfold TabAt at *
  have : i = 0 ∨ i = 1 ∨ i = 2 ∨ i = 3 ∨ i = 4 ∨ i = 5 ∨ i = 6 ∨ i = 7 := by omega
  simp only [World.setCell, Array.getElem?_modify]
  rw [h]
  rcases this with rfl | rfl | rfl | rfl | rfl | rfl | rfl | rfl <;> simp [upd]
theorem setSl {w : World} {T : Nat} {s : Nat → Nat} {sl sl' : Value} (h : TabAt w T s sl) : TabAt (w.setCell ⟨T, 8, none⟩ sl') T s sl' := by
  unfold TabAt at *
  simp only [World.setCell, Array.getElem?_modify]
  rw [h]
  simp
theorem only_set {w : World} {T o : Nat} {v : Value} (b q : Nat) (h : b ≠ T) : (w.setCell ⟨T, o, none⟩ v).cell? ⟨b, q, none⟩ = w.cell? ⟨b, q, none⟩ := World.cell?_setCell_other w ⟨T, o, none⟩ ⟨b, q, none⟩ v (fun e => h (by injection e with e1; exact e1.symm))
theorem put_pair {m : Nat} {T : Tab} (h : T.Ok m) {i : Nat} {hi : i < 8} {k v : ByteArray} : ((remT T k).L ++ [(⟨k, v, i, T.seen i + 1, hi⟩ : Ent)]).Pairwise fun a b => cfE a b ≠ 0 := by
  refine List.pairwise_append.2 ⟨List.Pairwise.imp (fun {x y} k e => by rw [ltE_congr e, ltE_irrefl] at k; cases k) (rem_ok h k).srt, List.pairwise_singleton .., fun a ha b hb e => ?_⟩
  simp at hb
  subst hb
  exact (mem_rem.1 ha).2 (cfE_zero.1 e).1
theorem put_sorted {m : Nat} {T : Tab} (h : T.Ok m) {i : Nat} {hi : i < 8} {k v : ByteArray} : Sorted (putT T i hi k v).L := insE_sorted (rem_ok h k).srt fun e he e0 => (mem_rem.1 he).2 (cfE_zero.1 e0).1
theorem put_mem {T : Tab} {i : Nat} {hi : i < 8} {k v : ByteArray} (e : Ent) : e ∈ (putT T i hi k v).L ↔ e ∈ (remT T k).L ++ [(⟨k, v, i, T.seen i + 1, hi⟩ : Ent)] := by
  rw [mem_put, List.mem_append, mem_rem, List.mem_singleton]
  exact ⟨fun h => h.elim .inr .inl, fun h => h.elim .inr .inl⟩
theorem rowE_one {w : World} {B : Nat} {k v : ByteArray} {i cnt : Nat} (hi : i < 8) {t : TypeId} {cz : Int} (hc : (cnt : Int) = cz) (h : w.heap[B]? = some (.cells #[.string k, .string v, .int .i64 (i : Int), .int .i64 cz] t (0, 0))) : El w (some ⟨B, 0, none⟩) 1 [⟨k, v, i, cnt, hi⟩] := by
  refine ⟨rfl, .inr ⟨B, rfl, (Array.getElem?_eq_some_iff.1 h).1, fun j hj => ?_⟩⟩
  have : j = 0 := by simpa using hj
  subst this
  subst hc
  obtain ⟨a, b, c, d⟩ := four_cells h
  exact ⟨a, b, c, d⟩

/-- a table and OK are returned -/
def OutP (W : World) (T : Tab) (e : Ending) (w' : World) : Prop := ∃ ao n cap, e = .returned (.tuple #[tabV T.seen (.slice ao n cap), .int .i64 0]) ∧ El w' ao n T.L ∧ Below W.heap.size W w'

set_option maxRecDepth 100000 in
set_option maxHeartbeats 8000000 in
theorem put_ok_any (m : Nat) (s : Nat → Nat) (ao : Option Addr) (n c : Nat) (xs : List Ent) (i : Nat) (k v : ByteArray) (W : World) (h : El W ao n xs) (hn : n ≤ 400000) (hi : i < 8) (hk : (1 ≤ k.size ∧ k.size ≤ 64) ∧ v.size ≤ 64) (hsi : s i < 1099511627776) (hroom : room xs k = true) (hok : (Tab.mk s xs).Ok m) :
    Calls Try.prog 23 #[tabV s (.slice ao n c), .int .i64 (i : Int), .string k, .string v] W (OutP W (putT ⟨s, xs⟩ i hi k v)) := by
  obtain ⟨V, hV⟩ : ∃ V, V = (W.alloc (.cells #[.int .i64 (s 0 : Int), .int .i64 (s 1 : Int), .int .i64 (s 2 : Int), .int .i64 (s 3 : Int), .int .i64 (s 4 : Int), .int .i64 (s 5 : Int), .int .i64 (s 6 : Int), .int .i64 (s 7 : Int), .slice ao n c] 34)).alloc (.cells #[.int .i64 0, .int .i64 0, .int .i64 0, .int .i64 0, .int .i64 0, .int .i64 0, .int .i64 0, .int .i64 0, .slice none 0 0] 34) := ⟨_, rfl⟩
  have HB : Hid (Below W.heap.size W V) := Lib.hid (by rw [hV]; exact below2 W _ _)
  have TA : Hid (TabAt V W.heap.size s (.slice ao n c)) := Lib.hid (by unfold TabAt; rw [hV]; exact block1 W _ _)
  have TR : Hid (V.heap[W.heap.size + 1]? = some (.cells #[.int .i64 0, .int .i64 0, .int .i64 0, .int .i64 0, .int .i64 0, .int .i64 0, .int .i64 0, .int .i64 0, .slice none 0 0] 34 (0, 0))) := Lib.hid (by rw [hV]; exact block2 W _ _)
  have hbv : W.heap.size + 1 < V.heap.size := (Array.getElem?_eq_some_iff.1 TR.out).1
  have HV := Lib.hid hV
  clear hV
  have hs : (decide (0 ≤ (i : Int)) && decide ((i : Int) < 8)) = true := by simp; omega
  have hs2 : (decide (1 ≤ k.size) && decide (k.size ≤ 64)) = true := by simp; omega
  have hs3 : decide (v.size ≤ 64) = true := by simp; omega
  have hs4 : ((s i : Int) == 1099511627776) = false := beq_eq_false_iff_ne.2 (by omega)
  have i0 : (0 : Int) ≤ (i : Int) := by omega
  have i8 : (i : Int) < 8 := by omega
  have si0 : (0 : Int) ≤ (s i : Int) := by omega
  have si1 : (s i : Int) ≤ 1099511627776 := by omega
  have CR := Lib.hid (hasRoom_any s ao n c xs k V (h.keep HB.out) (by omega))
  rw [hroom] at CR
  have CM : Hid (∀ w, Below V.heap.size V w → Calls Try.prog 53 #[tabV s (.slice ao n c), .string k] w (fun e w' => ∃ ao n cap, e = .returned (tabV s (.slice ao n cap)) ∧ El w' ao n (remT ⟨s, xs⟩ k).L ∧ Below w.heap.size w w')) := Lib.hid fun w hw => remove_any s ao n c xs k w ((h.keep HB.out).keep hw) (by omega)
  have CS : Hid (∀ (b : Nat) (a1 a2 : Option Addr) (n1 k1 k2 : Nat) (w : World), El w a1 n1 (remT ⟨s, xs⟩ k).L → El w a2 1 [⟨k, v, i, s i + 1, hi⟩] → w.cell? ⟨b, 0, none⟩ = some (.slice a1 n1 k1) → w.cell? ⟨b, 1, none⟩ = some (.slice a2 1 k2) →
      Calls Try.prog 55 #[.func (.func 56) #[] #[], .slice (some ⟨b, 0, none⟩) 2 2] w (OutE w.heap.size w (putT ⟨s, xs⟩ i hi k v).L)) :=
    Lib.hid fun b a1 a2 n1 k1 k2 w e1 e2 hc1 hc2 => sorted_any b a1 a2 n1 1 k1 k2 _ _ _ w e1 e2 hc1 hc2 (by
      have e := h.1
      have e' := e1.1
      have := List.length_filter_le (fun e => !(decide (e.key = k))) xs
      have e3 : (remT ⟨s, xs⟩ k).L.length ≤ xs.length := this
      omega) (by omega) (put_pair hok) (put_sorted hok) put_mem
  have HK64 := Lib.hid hk.1.2
  have HV64 := Lib.hid hk.2
  obtain ⟨r0, r1, r2, r3, r4, r5, r6, r7, r8⟩ := cell_nine TA.out
  have ri := nine_at TA.out i hi
  clear hk hsi hroom h hok
  show Calls _ _ _ _ (OutP W ⟨upd s i (s i + 1), (putT ⟨s, xs⟩ i hi k v).L⟩)
  generalize (putT ⟨s, xs⟩ i hi k v).L = L at CS ⊢
  generalize (remT ⟨s, xs⟩ k).L = R at CS CM
  unfold tabV at *
  go_enter Try.func23, Try.ntmps23
  go_upto_region 1 with fail
  rw [← HV.out]
  go_upto_region 8 with ((first | (go_at_call 49; refine (isSite_any _ _).mono ?_; rintro e w1 ⟨rfl, rfl⟩) | (go_at_call 50; refine (isKey_any _ _).mono ?_; rintro e w1 ⟨rfl, rfl⟩) | (go_at_call 51; refine (isValue_any _ _).mono ?_; rintro e w1 ⟨rfl, rfl⟩) | (go_at_call 52; refine CR.out.mono ?_; rintro e w2 ⟨rfl, hb2⟩; have B2 := Lib.hid hb2; obtain ⟨t0, t1, t2, t3, t4, t5, t6, t7, t8⟩ := cell_nine (TA.out.keep hb2); clear hb2) | (go_at_call 53; refine (CM.out _ B2.out).mono ?_; rintro e w3 ⟨a3, n3, c3, rfl, hel3, hb3⟩; have B3 := Lib.hid (below_then B2.out hb3); have E3 := Lib.hid hel3; clear hb3 hel3)))
  clear r0 t0 r1 t1 r2 t2 r3 t3 r4 t4 r5 t5 r6 t6 r7 t7 r8 t8 ri
  obtain ⟨V8, hV8⟩ : ∃ V8, V8 = w3.alloc (.cells #[.int .i64 (s 0 : Int), .int .i64 (s 1 : Int), .int .i64 (s 2 : Int), .int .i64 (s 3 : Int), .int .i64 (s 4 : Int), .int .i64 (s 5 : Int), .int .i64 (s 6 : Int), .int .i64 (s 7 : Int), .slice a3 n3 c3] 34) := ⟨_, rfl⟩
  have B8 : Hid (Below V.heap.size V V8) := Lib.hid (by rw [hV8]; exact below_then B3.out (box_below _ _))
  have T8 : Hid (TabAt V8 w3.heap.size s (.slice a3 n3 c3)) := Lib.hid (by unfold TabAt; rw [hV8]; exact heap_alloc_new _ _)
  have E8 : Hid (El V8 a3 n3 R) := Lib.hid (by rw [hV8]; exact E3.out.keep (box_below _ _))
  have hD : W.heap.size + 1 < w3.heap.size := Nat.lt_of_lt_of_le hbv B3.out.size
  have hDV : V.heap.size ≤ w3.heap.size := B3.out.size
  rw [← hV8]
  clear hV8
  generalize w3.heap.size = D at T8 hD hDV ⊢
  have ri := nine_at T8.out i hi
  have fi := free_nine T8.out i
  have wr1 : IntKind.i64.wrap ((s i : Int) + 1) = (s i : Int) + 1 := IntWalk.i64_in _ (by omega)
  go_upto_region 9 with fail
  obtain ⟨V9, hV9⟩ : ∃ V9, V9 = V8.setCell ⟨D, i, none⟩ (.int .i64 ((s i : Int) + 1)) := ⟨_, rfl⟩
  have B9 : Hid (Below V.heap.size V V9) := Lib.hid (by rw [hV9]; exact B8.out.setCell (p := ⟨D, i, none⟩) hDV _)
  have T9 : Hid (TabAt V9 D (upd s i (s i + 1)) (.slice a3 n3 c3)) := Lib.hid (by rw [hV9]; exact bump T8.out hi)
  have E9 : Hid (El V9 a3 n3 R) := Lib.hid (by rw [hV9]; exact El.only E8.out (cell_nine T8.out).1 (fun b q hb => only_set b q hb) (by simp))
  rw [← hV9]
  clear hV9 ri fi wr1
  go_upto_region 10 with ((first | (go_at_call 54; have _t := B10; refine (clone_str _ _ (by first | exact HK64.out | exact HV64.out)).mono ?_; rintro e w11 ⟨rfl, hb11⟩; have B11 := Lib.hid (B10.out.trans (hb11.mono B10.out.size)); have T11 := Lib.hid (T10.out.keep hb11); have E11 := Lib.hid (E10.out.keep hb11); clear hb11) | (go_at_call 54; refine (clone_str _ _ (by first | exact HK64.out | exact HV64.out)).mono ?_; rintro e w10 ⟨rfl, hb10⟩; have B10 := Lib.hid (B9.out.trans (hb10.mono B9.out.size)); have T10 := Lib.hid (T9.out.keep hb10); have E10 := Lib.hid (E9.out.keep hb10); clear hb10)))
  have ri := nine_at T11.out i hi
  rw [upd_self] at ri
  go_upto_region 11 with fail
  obtain ⟨V12, hV12⟩ : ∃ V12, V12 = w11.alloc (.cells #[.string k, .string v, .int .i64 (i : Int), .int .i64 ((s i : Int) + 1)] 82) := ⟨_, rfl⟩
  have B12 : Hid (Below V.heap.size V V12) := Lib.hid (by rw [hV12]; exact B11.out.trans ((box_below _ _).mono B11.out.size))
  have T12 : Hid (TabAt V12 D (upd s i (s i + 1)) (.slice a3 n3 c3)) := Lib.hid (by rw [hV12]; exact T11.out.keep (box_below _ _))
  have E12 : Hid (El V12 a3 n3 R) := Lib.hid (by rw [hV12]; exact E11.out.keep (box_below _ _))
  have hF := heap_alloc_new w11 (.cells #[.string k, .string v, .int .i64 (i : Int), .int .i64 ((s i : Int) + 1)] 82)
  rw [← hV12] at hF ⊢
  clear hV12 ri
  generalize w11.heap.size = F at hF ⊢
  obtain ⟨x0, x1, x2, x3⟩ := four_cells hF
  obtain ⟨y0, y1, y2, y3, y4, y5, y6, y7, y8⟩ := cell_nine T12.out
  have P1 : Hid (El (V12.alloc (.cells #[.string k, .string v, .int .i64 (i : Int), .int .i64 ((s i : Int) + 1)] 82)) (some ⟨V12.heap.size, 0, none⟩) 1 [⟨k, v, i, s i + 1, hi⟩]) := Lib.hid (rowE_one hi (Int.natCast_add (s i) 1) (heap_alloc_new _ _))
  obtain ⟨Q1, hQ1⟩ : ∃ Q1, Q1 = V12.alloc (.cells #[.string k, .string v, .int .i64 (i : Int), .int .i64 ((s i : Int) + 1)] 82) := ⟨_, rfl⟩
  have BQ : Hid (Below V12.heap.size V12 Q1) := Lib.hid (by rw [hQ1]; exact box_below _ _)
  have EQ := Lib.hid (E12.out.keep BQ.out)
  have hQs : Q1.heap.size = V12.heap.size + 1 := by rw [hQ1]; simp
  rw [← hQ1] at P1
  have PN := pair_new Q1 (.slice a3 n3 c3) (.slice (some ⟨V12.heap.size, 0, none⟩) 1 1) 32
  have BQ2 := box_below Q1 (.cells #[.slice a3 n3 c3, .slice (some ⟨V12.heap.size, 0, none⟩) 1 1] 32)
  have HS := CS.out Q1.heap.size a3 (some ⟨V12.heap.size, 0, none⟩) n3 c3 1 _ (EQ.out.keep BQ2) (P1.out.keep BQ2) PN.1 PN.2
  have BQ3 := Lib.hid (below_then BQ.out BQ2)
  rw [hQs, hQ1] at HS
  rw [hQ1] at BQ3
  have HS := Lib.hid HS
  clear PN BQ2 hQs hQ1 P1 EQ BQ
  go_upto_region 12 with ((go_at_call 55; refine HS.out.mono ?_; rintro e w13 ⟨a13, c13, rfl, hel13, hb13⟩; have B13' := Lib.hid (below_then BQ3.out hb13); have E13 := Lib.hid hel13; have T13 := Lib.hid (T12.out.keep B13'.out); obtain ⟨z0, z1, z2, z3, z4, z5, z6, z7, z8⟩ := cell_nine T13.out; have f8 := free_nine T13.out 8; clear hel13 hb13))
  obtain ⟨V14, hV14⟩ : ∃ V14, V14 = w13.setCell ⟨D, 8, none⟩ (.slice a13 L.length c13) := ⟨_, rfl⟩
  have B13 := Lib.hid (B12.out.trans (B13'.out.mono B12.out.size))
  have B14 : Hid (Below V.heap.size V V14) := Lib.hid (by rw [hV14]; exact B13.out.setCell (p := ⟨D, 8, none⟩) hDV _)
  have T14 : Hid (TabAt V14 D (upd s i (s i + 1)) (.slice a13 L.length c13)) := Lib.hid (by rw [hV14]; exact setSl T13.out)
  have E14 : Hid (El V14 a13 L.length L) := Lib.hid (by rw [hV14]; exact El.only E13.out z0 (fun b q hb => only_set b q hb) (by simp))
  rw [← hV14]
  clear hV14 z0 y0 z1 y1 z2 y2 z3 y3 z4 y4 z5 y5 z6 y6 z7 y7 z8 y8 f8 x0 x1 x2 x3
  obtain ⟨z0, z1, z2, z3, z4, z5, z6, z7, z8⟩ := cell_nine T14.out
  have TRR := Lib.hid (row_keep B14.out TR.out)
  obtain ⟨q0, q1, q2, q3, q4, q5, q6, q7, q8⟩ := cell_nine TRR.out
  have f0 := free_nine TRR.out 0; have f1 := free_nine TRR.out 1; have f2 := free_nine TRR.out 2; have f3 := free_nine TRR.out 3; have f4 := free_nine TRR.out 4; have f5 := free_nine TRR.out 5; have f6 := free_nine TRR.out 6; have f7 := free_nine TRR.out 7; have f8 := free_nine TRR.out 8
  go_wp2
  refine bodyPost_ret (v := .tuple #[tabV (upd s i (s i + 1)) (.slice a13 L.length c13), .int .i64 0]) (results_cell_tmp Try.results23 _ _ (W.heap.size + 1) 34 (tabC (upd s i (s i + 1)) (.slice a13 L.length c13)) (0, 0) _ rfl (set_nine TRR.out) Try.underlying34 (by kernel_rfl) (by kernel_rfl)) rfl ?_
  exact ⟨a13, L.length, c13, rfl, El.only E14.out q0 (fun b o hb => cell_set9 _ _ _ _ _ _ _ _ _ _ _ _ _ hb) (by simp), below_set9 _ _ _ _ _ _ _ _ _ (HB.out.trans (B14.out.mono HB.out.size)) (by omega)⟩
end Go.Proofs.Ytpghehckojdgeaa

/- The merge as the least upper bound of tables; what a Put and a Remove cover; two writes. No function of the program is walked here. -/
set_option linter.unusedVariables false
set_option linter.unusedSimpArgs false
namespace Go.Proofs.Ytpghehckojdgeaa
open Go

/-- has seen -/
def Sw (T : Tab) (e : Ent) : Prop := saw T.seen e = true
theorem sw_not {T : Tab} {e : Ent} : saw T.seen e = false ↔ ¬ Sw T e := by unfold Sw; simp
theorem sw_mer {a b : Tab} {e : Ent} : Sw (merT a b) e ↔ Sw a e ∨ Sw b e := by unfold Sw; rw [saw_mer, Bool.or_eq_true]
theorem sw_own {m : Nat} {T : Tab} (h : T.Ok m) {e : Ent} (he : e ∈ T.L) : Sw T e := saw_own h he
theorem mem_merS {m n : Nat} {a b : Tab} (ha : a.Ok m) (hb : b.Ok n) {e : Ent} : e ∈ (merT a b).L ↔ (e ∈ a.L ∧ e ∈ b.L) ∨ (e ∈ a.L ∧ ¬ Sw b e) ∨ (e ∈ b.L ∧ ¬ Sw a e) := by
  rw [mem_mer ha hb, sw_not, sw_not]
theorem mer_comm {m : Nat} {a b : Tab} (ha : a.Ok m) (hb : b.Ok m) : merT a b = merT b a := by
  refine Tab.Ok.eq (mer_ok ha hb (Nat.le_refl _) (Nat.le_refl _)) (mer_ok hb ha (Nat.le_refl _) (Nat.le_refl _)) (fun i => Nat.max_comm _ _) fun e => ?_
  rw [mem_merS ha hb, mem_merS hb ha]
  constructor
  · rintro (⟨h1, h2⟩ | h | h)
    · exact .inl ⟨h2, h1⟩
    · exact .inr (.inr h)
    · exact .inr (.inl h)
  · rintro (⟨h1, h2⟩ | h | h)
    · exact .inl ⟨h2, h1⟩
    · exact .inr (.inr h)
    · exact .inr (.inl h)
theorem mer_idem {m : Nat} {a : Tab} (ha : a.Ok m) : merT a a = a := by
  refine Tab.Ok.eq (mer_ok ha ha (Nat.le_refl _) (Nat.le_refl _)) ha (fun i => Nat.max_self _) fun e => ?_
  rw [mem_merS ha ha]
  constructor
  · rintro (⟨h1, h2⟩ | h | h)
    · exact h1
    · exact h.1
    · exact h.1
  · intro h; exact .inl ⟨h, h⟩
theorem assoc_taut {A B C SA SB SC : Prop} (h1 : A → SA) (h2 : B → SB) (h3 : C → SC) :
    (((A ∧ B) ∨ (A ∧ ¬ SB) ∨ (B ∧ ¬ SA)) ∧ C) ∨ (((A ∧ B) ∨ (A ∧ ¬ SB) ∨ (B ∧ ¬ SA)) ∧ ¬ SC) ∨ (C ∧ ¬ (SA ∨ SB)) ↔ (A ∧ ((B ∧ C) ∨ (B ∧ ¬ SC) ∨ (C ∧ ¬ SB))) ∨ (A ∧ ¬ (SB ∨ SC)) ∨ (((B ∧ C) ∨ (B ∧ ¬ SC) ∨ (C ∧ ¬ SB)) ∧ ¬ SA) := by
  by_cases A <;> by_cases B <;> by_cases C <;> by_cases SA <;> by_cases SB <;> by_cases SC <;> simp_all
theorem mer_assoc {m : Nat} {a b c : Tab} (ha : a.Ok m) (hb : b.Ok m) (hc : c.Ok m) : merT (merT a b) c = merT a (merT b c) := by
  have hab := mer_ok ha hb (Nat.le_refl _) (Nat.le_refl _)
  have hbc := mer_ok hb hc (Nat.le_refl _) (Nat.le_refl _)
  refine Tab.Ok.eq (mer_ok hab hc (Nat.le_refl _) (Nat.le_refl _)) (mer_ok ha hbc (Nat.le_refl _) (Nat.le_refl _)) (fun i => Nat.max_assoc _ _ _) fun e => ?_
  rw [mem_merS hab hc, mem_merS ha hbc, mem_merS ha hb, mem_merS hb hc, sw_mer, sw_mer]
  have h1 : e ∈ a.L → Sw a e := sw_own ha
  have h2 : e ∈ b.L → Sw b e := sw_own hb
  have h3 : e ∈ c.L → Sw c e := sw_own hc
  exact assoc_taut h1 h2 h3
theorem mer_none {m : Nat} {a : Tab} (ha : a.Ok m) : merT a Tab.none = a := by
  have hn := Tab.none_ok.more (Nat.zero_le m)
  refine Tab.Ok.eq (mer_ok ha hn (Nat.le_refl _) (Nat.le_refl _)) ha (fun i => Nat.max_eq_left (Nat.zero_le _)) fun e => ?_
  rw [mem_merS ha hn]
  have hs : e ∈ a.L → ¬ Sw Tab.none e := fun h => by
    have := (ha.ent e h).2.1
    unfold Sw saw Tab.none
    simp; omega
  have h0 : ¬ e ∈ Tab.none.L := by simp [Tab.none]
  constructor
  · rintro (⟨h1, h2⟩ | h | h)
    · exact h1
    · exact h.1
    · exact absurd h.1 h0
  · intro h; exact .inr (.inl ⟨h, hs h⟩)

/-- a covers b -/
def Cov (a b : Tab) : Prop := merT a b = a
theorem cov_left {m : Nat} {a b : Tab} (ha : a.Ok m) (hb : b.Ok m) : Cov (merT a b) a := by
  unfold Cov
  rw [mer_comm (mer_ok ha hb (Nat.le_refl _) (Nat.le_refl _)) ha, ← mer_assoc ha ha hb, mer_idem ha]
theorem cov_right {m : Nat} {a b : Tab} (ha : a.Ok m) (hb : b.Ok m) : Cov (merT a b) b := by
  unfold Cov
  rw [mer_assoc ha hb hb, mer_idem hb]
theorem cov_trans {m : Nat} {a b c : Tab} (ha : a.Ok m) (hb : b.Ok m) (hc : c.Ok m) (h1 : Cov a b) (h2 : Cov b c) : Cov a c := by
  unfold Cov at *
  rw [← h1, mer_assoc ha hb hc, h2]
theorem cov_anti {m : Nat} {a b : Tab} (ha : a.Ok m) (hb : b.Ok m) (h1 : Cov a b) (h2 : Cov b a) : a = b := by
  unfold Cov at *
  rw [← h1, mer_comm ha hb, h2]
theorem cov_lub {m : Nat} {a b c : Tab} (ha : a.Ok m) (hb : b.Ok m) (hc : c.Ok m) (h1 : Cov c a) (h2 : Cov c b) : Cov c (merT a b) := by
  unfold Cov at *
  rw [← mer_assoc hc ha hb, h1, h2]
theorem cov_refl {m : Nat} {a : Tab} (ha : a.Ok m) : Cov a a := mer_idem ha

theorem rem_cov {m : Nat} {T : Tab} (h : T.Ok m) (k : ByteArray) : Cov (remT T k) T := by
  have hr := rem_ok h k
  refine Tab.Ok.eq (mer_ok hr h (Nat.le_refl _) (Nat.le_refl _)) hr (fun i => Nat.max_self _) fun e => ?_
  rw [mem_merS hr h]
  have hs : Sw (remT T k) e ↔ Sw T e := Iff.rfl
  have h1 : e ∈ T.L → Sw T e := sw_own h
  have h2 : e ∈ (remT T k).L → e ∈ T.L := fun h => (mem_rem.1 h).1
  rw [hs]
  constructor
  · rintro (⟨a, b⟩ | ⟨a, b⟩ | ⟨a, b⟩)
    · exact a
    · exact a
    · exact absurd (h1 a) b
  · intro a; exact .inl ⟨a, h2 a⟩
theorem sw_put {T : Tab} {i : Nat} {hi : i < 8} {k v : ByteArray} {e : Ent} (h : Sw T e) : Sw (putT T i hi k v) e := by
  unfold Sw saw at *
  have := upd_ge T.seen i e.site
  simp only [decide_eq_true_eq] at *
  exact Nat.le_trans h this
theorem put_cov {m : Nat} {T : Tab} (h : T.Ok m) {i : Nat} {hi : i < 8} {k v : ByteArray} (hk : 1 ≤ k.size ∧ k.size ≤ 64) (hv : v.size ≤ 64) : Cov (putT T i hi k v) T := by
  have hp := put_ok h hi hk hv
  have h' := h.more (Nat.le_succ m)
  refine Tab.Ok.eq (mer_ok hp h' (Nat.le_refl _) (Nat.le_refl _)) hp (fun j => Nat.max_eq_left (upd_ge T.seen i j)) fun e => ?_
  rw [mem_merS hp h']
  have h1 : e ∈ T.L → Sw T e := sw_own h
  constructor
  · rintro (⟨a, b⟩ | ⟨a, b⟩ | ⟨a, b⟩)
    · exact a
    · exact a
    · exact absurd (sw_put (h1 a)) b
  · intro a
    rcases mem_put.1 a with rfl | ⟨b, _⟩
    · refine .inr (.inl ⟨a, ?_⟩)
      unfold Sw saw
      simp
    · exact .inl ⟨a, b⟩

/-! ### two writes -/
theorem put_none {i : Nat} (hi : i < 8) (k v : ByteArray) : (putT Tab.none i hi k v).L = [⟨k, v, i, 1, hi⟩] := rfl
theorem put_none_seen {i : Nat} (hi : i < 8) (k v : ByteArray) (j : Nat) : (putT Tab.none i hi k v).seen j = if j = i then 1 else 0 := rfl
theorem mer_two {i j : Nat} (hi : i < 8) (hj : j < 8) (hij : i ≠ j) (k v u : ByteArray) (hk : 1 ≤ k.size ∧ k.size ≤ 64) (hv : v.size ≤ 64) (hu : u.size ≤ 64) :
    ∀ e, e ∈ (merT (putT Tab.none i hi k v) (putT Tab.none j hj k u)).L ↔ e = ⟨k, v, i, 1, hi⟩ ∨ e = ⟨k, u, j, 1, hj⟩ := by
  intro e
  have ha := put_ok Tab.none_ok hi hk hv
  have hb := put_ok Tab.none_ok hj hk hu
  rw [mem_merS ha hb, put_none, put_none, List.mem_singleton, List.mem_singleton]
  have s1 : e = ⟨k, v, i, 1, hi⟩ → ¬ Sw (putT Tab.none j hj k u) e := fun h => by
    subst h; unfold Sw saw; simp [put_none_seen, hij]
  have s2 : e = ⟨k, u, j, 1, hj⟩ → ¬ Sw (putT Tab.none i hi k v) e := fun h => by
    subst h; unfold Sw saw; simp [put_none_seen, Ne.symm hij]
  constructor
  · rintro (⟨a, b⟩ | ⟨a, b⟩ | ⟨a, b⟩)
    · exact .inl a
    · exact .inl a
    · exact .inr a
  · rintro (a | a)
    · exact .inr (.inl ⟨a, s1 a⟩)
    · exact .inr (.inr ⟨a, s2 a⟩)
theorem mer_two_lt {i j : Nat} (hi : i < 8) (hj : j < 8) (hij : i < j) (k v u : ByteArray) (hk : 1 ≤ k.size ∧ k.size ≤ 64) (hv : v.size ≤ 64) (hu : u.size ≤ 64) :
    (merT (putT Tab.none i hi k v) (putT Tab.none j hj k u)).L = [⟨k, v, i, 1, hi⟩, ⟨k, u, j, 1, hj⟩] := by
  refine Sorted.uniq (mer_sorted (put_ok Tab.none_ok hi hk hv) (put_ok Tab.none_ok hj hk hu)) ?_ fun e => ?_
  · refine List.pairwise_cons.2 ⟨fun b hb => ?_, List.pairwise_singleton ..⟩
    rw [List.mem_singleton] at hb
    subst hb
    exact ltE_iff.2 (.inr ⟨rfl, .inl hij⟩)
  · rw [mer_two hi hj (by omega) k v u hk hv hu]; simp
theorem mer_two_gt {i j : Nat} (hi : i < 8) (hj : j < 8) (hij : j < i) (k v u : ByteArray) (hk : 1 ≤ k.size ∧ k.size ≤ 64) (hv : v.size ≤ 64) (hu : u.size ≤ 64) :
    (merT (putT Tab.none i hi k v) (putT Tab.none j hj k u)).L = [⟨k, u, j, 1, hj⟩, ⟨k, v, i, 1, hi⟩] := by
  refine Sorted.uniq (mer_sorted (put_ok Tab.none_ok hi hk hv) (put_ok Tab.none_ok hj hk hu)) ?_ fun e => ?_
  · refine List.pairwise_cons.2 ⟨fun b hb => ?_, List.pairwise_singleton ..⟩
    rw [List.mem_singleton] at hb
    subst hb
    exact ltE_iff.2 (.inr ⟨rfl, .inl hij⟩)
  · rw [mer_two hi hj (by omega) k v u hk hv hu]; simp [or_comm]
end Go.Proofs.Ytpghehckojdgeaa

/- The program's functions on tables, in the words of tables. (By gen_api.py.) -/
set_option linter.unusedVariables false
set_option linter.unusedSimpArgs false
namespace Go.Proofs.Ytpghehckojdgeaa
open Go.RowKit Go.Shelf Go.Sort

/-- the slice (ao, n) holds the entries of the table T, which was made with at most m writes -/
structure Held (w : World) (m : Nat) (T : Tab) (ao : Option Addr) (n : Nat) : Prop where
  el : El w ao n T.L
  ok : T.Ok m
theorem Held.keep {w w' : World} {m : Nat} {T : Tab} {ao : Option Addr} {n : Nat} (h : Held w m T ao n) (hb : Below w.heap.size w w') : Held w' m T ao n := ⟨h.el.keep hb, h.ok⟩
theorem Held.more {w : World} {m q : Nat} {T : Tab} {ao : Option Addr} {n : Nat} (h : Held w m T ao n) (hq : m ≤ q) : Held w q T ao n := ⟨h.el, h.ok.more hq⟩
theorem Held.len {w : World} {m : Nat} {T : Tab} {ao : Option Addr} {n : Nat} (h : Held w m T ao n) : n ≤ 8 * m := by rw [← h.el.1]; exact h.ok.len
theorem Held.none (w : World) : Held w 0 Tab.none none 0 := ⟨El.nil w, Tab.none_ok⟩

theorem putA {W : World} {m : Nat} {T : Tab} {ao : Option Addr} {n : Nat} (c : Nat) (h : Held W m T ao n) (hm : m ≤ 40000) (i : Nat) (hi : i < 8) (k v : ByteArray) (hk : 1 ≤ k.size ∧ k.size ≤ 64) (hv : v.size ≤ 64) (hroom : room T.L k = true) :
    Calls Try.prog 23 #[.agg #[.int .i64 (T.seen 0 : Int), .int .i64 (T.seen 1 : Int), .int .i64 (T.seen 2 : Int), .int .i64 (T.seen 3 : Int), .int .i64 (T.seen 4 : Int), .int .i64 (T.seen 5 : Int), .int .i64 (T.seen 6 : Int), .int .i64 (T.seen 7 : Int), .slice ao n c], .int .i64 (i : Int), .string k, .string v] W fun e w' => ∃ T' ao' n' c', e = .returned (.tuple #[.agg #[.int .i64 (T'.seen 0 : Int), .int .i64 (T'.seen 1 : Int), .int .i64 (T'.seen 2 : Int), .int .i64 (T'.seen 3 : Int), .int .i64 (T'.seen 4 : Int), .int .i64 (T'.seen 5 : Int), .int .i64 (T'.seen 6 : Int), .int .i64 (T'.seen 7 : Int), .slice ao' n' c'], .int .i64 0]) ∧ Hid (T' = putT T i hi k v) ∧ Held w' (m + 1) T' ao' n' ∧ Below W.heap.size W w' := by
  have hl := h.len
  refine (put_ok_any m T.seen ao n c T.L i k v W h.el (by omega) hi ⟨hk, hv⟩ (by have := h.ok.few i; omega) hroom h.ok).mono ?_
  rintro e w' ⟨ao', n', c', he, hel, hb⟩
  exact ⟨_, ao', n', c', he, Lib.hid rfl, ⟨hel, put_ok h.ok hi hk hv⟩, hb⟩
theorem putA_full {W : World} {m : Nat} {T : Tab} {ao : Option Addr} {n : Nat} (c : Nat) (h : Held W m T ao n) (hm : m ≤ 40000) (i : Nat) (hi : i < 8) (k v : ByteArray) (hk : 1 ≤ k.size ∧ k.size ≤ 64) (hv : v.size ≤ 64) (hroom : room T.L k = false) :
    Calls Try.prog 23 #[.agg #[.int .i64 (T.seen 0 : Int), .int .i64 (T.seen 1 : Int), .int .i64 (T.seen 2 : Int), .int .i64 (T.seen 3 : Int), .int .i64 (T.seen 4 : Int), .int .i64 (T.seen 5 : Int), .int .i64 (T.seen 6 : Int), .int .i64 (T.seen 7 : Int), .slice ao n c], .int .i64 (i : Int), .string k, .string v] W fun e w' => e = .returned (.tuple #[.agg #[.int .i64 0, .int .i64 0, .int .i64 0, .int .i64 0, .int .i64 0, .int .i64 0, .int .i64 0, .int .i64 0, .slice none 0 0], .int .i64 5]) ∧ Below W.heap.size W w' := by
  have hl := h.len
  exact put_full T.seen ao n c T.L i k v W h.el (by omega) hi ⟨hk, hv⟩ (by have := h.ok.few i; omega) hroom
theorem removeA {W : World} {m : Nat} {T : Tab} {ao : Option Addr} {n : Nat} (c : Nat) (h : Held W m T ao n) (hm : m ≤ 40000) (k : ByteArray) :
    Calls Try.prog 53 #[.agg #[.int .i64 (T.seen 0 : Int), .int .i64 (T.seen 1 : Int), .int .i64 (T.seen 2 : Int), .int .i64 (T.seen 3 : Int), .int .i64 (T.seen 4 : Int), .int .i64 (T.seen 5 : Int), .int .i64 (T.seen 6 : Int), .int .i64 (T.seen 7 : Int), .slice ao n c], .string k] W fun e w' => ∃ T' ao' n' c', e = .returned (.agg #[.int .i64 (T'.seen 0 : Int), .int .i64 (T'.seen 1 : Int), .int .i64 (T'.seen 2 : Int), .int .i64 (T'.seen 3 : Int), .int .i64 (T'.seen 4 : Int), .int .i64 (T'.seen 5 : Int), .int .i64 (T'.seen 6 : Int), .int .i64 (T'.seen 7 : Int), .slice ao' n' c']) ∧ Hid (T' = remT T k) ∧ Held w' m T' ao' n' ∧ Below W.heap.size W w' := by
  have hl := h.len
  refine (remove_any T.seen ao n c T.L k W h.el (by omega)).mono ?_
  rintro e w' ⟨ao', n', c', he, hel, hb⟩
  exact ⟨_, ao', n', c', he, Lib.hid rfl, ⟨hel, rem_ok h.ok k⟩, hb⟩
theorem mergeA {W : World} {m : Nat} {T U : Tab} {ao ao' : Option Addr} {n n' : Nat} (c c' : Nat) (h : Held W m T ao n) (h' : Held W m U ao' n') (hm : m ≤ 40000) :
    Calls Try.prog 25 #[.agg #[.int .i64 (T.seen 0 : Int), .int .i64 (T.seen 1 : Int), .int .i64 (T.seen 2 : Int), .int .i64 (T.seen 3 : Int), .int .i64 (T.seen 4 : Int), .int .i64 (T.seen 5 : Int), .int .i64 (T.seen 6 : Int), .int .i64 (T.seen 7 : Int), .slice ao n c], .agg #[.int .i64 (U.seen 0 : Int), .int .i64 (U.seen 1 : Int), .int .i64 (U.seen 2 : Int), .int .i64 (U.seen 3 : Int), .int .i64 (U.seen 4 : Int), .int .i64 (U.seen 5 : Int), .int .i64 (U.seen 6 : Int), .int .i64 (U.seen 7 : Int), .slice ao' n' c']] W fun e w' => ∃ T' ao2 n2 c2, e = .returned (.agg #[.int .i64 (T'.seen 0 : Int), .int .i64 (T'.seen 1 : Int), .int .i64 (T'.seen 2 : Int), .int .i64 (T'.seen 3 : Int), .int .i64 (T'.seen 4 : Int), .int .i64 (T'.seen 5 : Int), .int .i64 (T'.seen 6 : Int), .int .i64 (T'.seen 7 : Int), .slice ao2 n2 c2]) ∧ Hid (T' = merT T U) ∧ Held w' m T' ao2 n2 ∧ Below W.heap.size W w' := by
  have hl := h.len
  have hl' := h'.len
  refine (Merge_any m m T.seen U.seen ao ao' n c n' c' T.L U.L W h.el h'.el (by omega) (by omega) h.ok h'.ok).mono ?_
  rintro e w' ⟨ao', n', c', he, hel, hb⟩
  exact ⟨_, ao', n', c', he, Lib.hid rfl, ⟨hel, mer_ok h.ok h'.ok (Nat.le_refl _) (Nat.le_refl _)⟩, hb⟩
theorem coversA {W : World} {m : Nat} {T U : Tab} {ao ao' : Option Addr} {n n' : Nat} (c c' : Nat) (h : Held W m T ao n) (h' : Held W m U ao' n') (hm : m ≤ 40000) :
    Calls Try.prog 16 #[.agg #[.int .i64 (T.seen 0 : Int), .int .i64 (T.seen 1 : Int), .int .i64 (T.seen 2 : Int), .int .i64 (T.seen 3 : Int), .int .i64 (T.seen 4 : Int), .int .i64 (T.seen 5 : Int), .int .i64 (T.seen 6 : Int), .int .i64 (T.seen 7 : Int), .slice ao n c], .agg #[.int .i64 (U.seen 0 : Int), .int .i64 (U.seen 1 : Int), .int .i64 (U.seen 2 : Int), .int .i64 (U.seen 3 : Int), .int .i64 (U.seen 4 : Int), .int .i64 (U.seen 5 : Int), .int .i64 (U.seen 6 : Int), .int .i64 (U.seen 7 : Int), .slice ao' n' c']] W fun e w' => e = .returned (.bool (sameT (merT T U) T)) ∧ Below W.heap.size W w' := by
  have hl := h.len
  have hl' := h'.len
  have hk := (mer_ok h.ok h'.ok (Nat.le_refl _) (Nat.le_refl _)).len
  exact Covers_any m m T.seen U.seen ao ao' n c n' c' T.L U.L W h.el h'.el (by omega) (by omega) h.ok h'.ok (by
    have e : merT ⟨T.seen, T.L⟩ ⟨U.seen, U.L⟩ = merT T U := rfl
    rw [e]; omega)
theorem equalA {W : World} {m : Nat} {T U : Tab} {ao ao' : Option Addr} {n n' : Nat} (c c' : Nat) (h : Held W m T ao n) (h' : Held W m U ao' n') (hm : m ≤ 40000) :
    Calls Try.prog 14 #[.agg #[.int .i64 (T.seen 0 : Int), .int .i64 (T.seen 1 : Int), .int .i64 (T.seen 2 : Int), .int .i64 (T.seen 3 : Int), .int .i64 (T.seen 4 : Int), .int .i64 (T.seen 5 : Int), .int .i64 (T.seen 6 : Int), .int .i64 (T.seen 7 : Int), .slice ao n c], .agg #[.int .i64 (U.seen 0 : Int), .int .i64 (U.seen 1 : Int), .int .i64 (U.seen 2 : Int), .int .i64 (U.seen 3 : Int), .int .i64 (U.seen 4 : Int), .int .i64 (U.seen 5 : Int), .int .i64 (U.seen 6 : Int), .int .i64 (U.seen 7 : Int), .slice ao' n' c']] W fun e w' => e = .returned (.bool (sameT T U)) ∧ Below W.heap.size W w' := by
  have hl := h.len
  have hl' := h'.len
  exact Equal_any T.seen U.seen ao ao' n c n' c' T.L U.L W h.el h'.el (by omega) (by omega)
theorem getA {W : World} {m : Nat} {T : Tab} {ao : Option Addr} {n : Nat} (c : Nat) (h : Held W m T ao n) (hm : m ≤ 40000) (k : ByteArray) :
    Calls Try.prog 12 #[.agg #[.int .i64 (T.seen 0 : Int), .int .i64 (T.seen 1 : Int), .int .i64 (T.seen 2 : Int), .int .i64 (T.seen 3 : Int), .int .i64 (T.seen 4 : Int), .int .i64 (T.seen 5 : Int), .int .i64 (T.seen 6 : Int), .int .i64 (T.seen 7 : Int), .slice ao n c], .string k] W fun e w' => ∃ l ao' c' ss, e = .returned (.slice ao' l c') ∧ Hid (ss = getL T.L k) ∧ Sl w' ao' l ss ∧ Below W.heap.size W w' := by
  have hl := h.len
  refine (get_any T.seen ao n c T.L k W h.el (by omega)).mono ?_
  rintro e w' ⟨ao', c', he, hs, hb⟩
  exact ⟨_, ao', c', _, he, Lib.hid rfl, hs, hb⟩
end Go.Proofs.Ytpghehckojdgeaa

/- The law's awake. (By gen_awake.py.) -/
set_option linter.unusedVariables false
set_option linter.unusedSimpArgs false
namespace Go.Proofs.Ytpghehckojdgeaa
open Go.RowKit Go.Shelf Go.Sort

theorem room_none (k : ByteArray) : room Tab.none.L k = true := by unfold room Tab.none keysF; simp
/-- a Put into the table without entries -/
theorem putZ (W : World) (i : Nat) (hi : i < 8) (iz : Int) (hiz : iz = (i : Int)) (k v : ByteArray) (hk : 1 ≤ k.size ∧ k.size ≤ 64) (hv : v.size ≤ 64) :
    Calls Try.prog 23 #[.agg #[.int .i64 0, .int .i64 0, .int .i64 0, .int .i64 0, .int .i64 0, .int .i64 0, .int .i64 0, .int .i64 0, .slice none 0 0], .int .i64 iz, .string k, .string v] W fun e w' => ∃ T' ao' n' c', e = .returned (.tuple #[.agg #[.int .i64 (T'.seen 0 : Int), .int .i64 (T'.seen 1 : Int), .int .i64 (T'.seen 2 : Int), .int .i64 (T'.seen 3 : Int), .int .i64 (T'.seen 4 : Int), .int .i64 (T'.seen 5 : Int), .int .i64 (T'.seen 6 : Int), .int .i64 (T'.seen 7 : Int), .slice ao' n' c'], .int .i64 0]) ∧ Hid (T' = putT Tab.none i hi k v) ∧ Held w' 1 T' ao' n' ∧ Below W.heap.size W w' := by
  subst hiz
  exact putA 0 (Held.none W) (by omega) i hi k v hk hv (room_none k)
theorem coversZ {W : World} {m : Nat} {T : Tab} {ao : Option Addr} {n : Nat} (c : Nat) (h : Held W m T ao n) (hm : m ≤ 40000) :
    Calls Try.prog 16 #[.agg #[.int .i64 (T.seen 0 : Int), .int .i64 (T.seen 1 : Int), .int .i64 (T.seen 2 : Int), .int .i64 (T.seen 3 : Int), .int .i64 (T.seen 4 : Int), .int .i64 (T.seen 5 : Int), .int .i64 (T.seen 6 : Int), .int .i64 (T.seen 7 : Int), .slice ao n c], .agg #[.int .i64 0, .int .i64 0, .int .i64 0, .int .i64 0, .int .i64 0, .int .i64 0, .int .i64 0, .int .i64 0, .slice none 0 0]] W fun e w' => e = .returned (.bool true) ∧ Below W.heap.size W w' := by
  have hc := coversA c 0 h ((Held.none W).more (Nat.zero_le m)) hm
  rw [mer_none h.ok, (sameT_iff h.ok h.ok).2 rfl] at hc
  exact hc
theorem getL_two (a b : Ent) (k : ByteArray) (ha : a.key = k) (hb : b.key = k) : getL [a, b] k = [a.val, b.val] := by
  unfold getL isKeyB; simp [ha, hb]
/-- what both wrote -/
theorem two_get {T U M : Tab} {i j : Nat} {hi : i < 8} {hj : j < 8} {k v u : ByteArray} (hij : i < j) (hk : 1 ≤ k.size ∧ k.size ≤ 64) (hv : v.size ≤ 64) (hu : u.size ≤ 64) (hT : T = putT Tab.none i hi k v) (hU : U = putT Tab.none j hj k u) (hM : M = merT T U) : getL M.L k = [v, u] := by
  subst hT hU hM
  rw [mer_two_lt hi hj hij k v u hk hv hu]
  exact getL_two _ _ k rfl rfl

set_option maxRecDepth 100000 in
set_option maxHeartbeats 8000000 in
theorem awake_any (W : World) : Calls Try.prog 8 #[] W fun e w' => e = .returned (.bool true) ∧ Below W.heap.size W w' := by
  go_enter Try.func8, Try.ntmps8
  go_upto_region 2 with fail
  obtain ⟨V, hV⟩ : ∃ V, V = W.alloc (.cells #[.int .i64 0, .int .i64 0, .int .i64 0, .int .i64 0, .int .i64 0, .int .i64 0, .int .i64 0, .int .i64 0, .slice none 0 0] 34) := ⟨_, rfl⟩
  have B0 : Hid (Below W.heap.size W V) := Lib.hid (by rw [hV]; exact box_below W _)
  have TZ : Hid (V.heap[W.heap.size]? = some (.cells #[.int .i64 0, .int .i64 0, .int .i64 0, .int .i64 0, .int .i64 0, .int .i64 0, .int .i64 0, .int .i64 0, .slice none 0 0] 34 (0, 0))) := Lib.hid (by rw [hV]; exact heap_alloc_new _ _)
  rw [← hV]
  clear hV
  obtain ⟨z0, z1, z2, z3, z4, z5, z6, z7, z8⟩ := cell_nine TZ.out
  go_upto_region 3 with ((go_at_call 23; refine (putZ V 0 (by omega) 0 rfl ⟨#[107]⟩ ⟨#[120]⟩ (by decide) (by decide)).mono ?_; rintro e w1 ⟨T1, a1, n1, c1, rfl, HT1, hh1, hb1⟩; have H1 := Lib.hid hh1; have B1 := Lib.hid hb1; clear hh1 hb1))
  obtain ⟨V1, hV1⟩ : ∃ V1, V1 = w1.alloc (.cells #[.int .i64 (T1.seen 0 : Int), .int .i64 (T1.seen 1 : Int), .int .i64 (T1.seen 2 : Int), .int .i64 (T1.seen 3 : Int), .int .i64 (T1.seen 4 : Int), .int .i64 (T1.seen 5 : Int), .int .i64 (T1.seen 6 : Int), .int .i64 (T1.seen 7 : Int), .slice a1 n1 c1] 34) := ⟨_, rfl⟩
  have B2 : Hid (Below V.heap.size V V1) := Lib.hid (by rw [hV1]; exact below_then B1.out (box_below _ _))
  have K1 : Hid (TabAt V1 w1.heap.size T1.seen (.slice a1 n1 c1)) := Lib.hid (by unfold TabAt; rw [hV1]; exact heap_alloc_new _ _)
  have H1' : Hid (Held V1 1 T1 a1 n1) := Lib.hid (by rw [hV1]; exact H1.out.keep (box_below _ _))
  have TZ1 := Lib.hid (row_keep B2.out TZ.out)
  rw [← hV1]
  clear hV1 H1 z0 z1 z2 z3 z4 z5 z6 z7 z8
  generalize w1.heap.size = D1 at K1 ⊢
  obtain ⟨z0, z1, z2, z3, z4, z5, z6, z7, z8⟩ := cell_nine TZ1.out
  go_upto_region 4 with ((go_at_call 23; refine (putZ V1 1 (by omega) 1 rfl ⟨#[107]⟩ ⟨#[121]⟩ (by decide) (by decide)).mono ?_; rintro e w2 ⟨T2, a2, n2, c2, rfl, HT2, hh2, hb2⟩; have H2 := Lib.hid hh2; have B3 := Lib.hid hb2; clear hh2 hb2))
  obtain ⟨V2, hV2⟩ : ∃ V2, V2 = w2.alloc (.cells #[.int .i64 (T2.seen 0 : Int), .int .i64 (T2.seen 1 : Int), .int .i64 (T2.seen 2 : Int), .int .i64 (T2.seen 3 : Int), .int .i64 (T2.seen 4 : Int), .int .i64 (T2.seen 5 : Int), .int .i64 (T2.seen 6 : Int), .int .i64 (T2.seen 7 : Int), .slice a2 n2 c2] 34) := ⟨_, rfl⟩
  have B4 : Hid (Below V1.heap.size V1 V2) := Lib.hid (by rw [hV2]; exact below_then B3.out (box_below _ _))
  have K2 : Hid (TabAt V2 w2.heap.size T2.seen (.slice a2 n2 c2)) := Lib.hid (by unfold TabAt; rw [hV2]; exact heap_alloc_new _ _)
  have H2' : Hid (Held V2 1 T2 a2 n2) := Lib.hid (by rw [hV2]; exact H2.out.keep (box_below _ _))
  have H12 := Lib.hid (H1'.out.keep B4.out)
  have K12 := Lib.hid (K1.out.keep B4.out)
  have TZ2 := Lib.hid (row_keep B4.out TZ1.out)
  rw [← hV2]
  clear hV2 H2 z0 z1 z2 z3 z4 z5 z6 z7 z8
  generalize w2.heap.size = D2 at K2 ⊢
  obtain ⟨y0, y1, y2, y3, y4, y5, y6, y7, y8⟩ := cell_nine K12.out
  obtain ⟨x0, x1, x2, x3, x4, x5, x6, x7, x8⟩ := cell_nine K2.out
  go_upto_region 5 with (first
    | (go_at_call 25; refine (mergeA c1 c2 H12.out H2'.out (by omega)).mono ?_; rintro e w3 ⟨T3, a3, n3, c3, rfl, HT3, hh3, hb3⟩; have H3 := Lib.hid hh3; have B5 := Lib.hid hb3; clear hh3 hb3)
    | (go_at_call 12; refine (getA c3 H3.out (by omega) ⟨#[107]⟩).mono ?_; rintro e w4 ⟨l4, a4, c4, ss, rfl, HS, hs4, hb4⟩; have HS4 := Lib.hid hs4; have B6 := Lib.hid (below_then B5.out hb4); clear hs4 hb4))
  have hss : ss = [⟨#[120]⟩, ⟨#[121]⟩] := by
    rw [HS.out]
    exact two_get (i := 0) (j := 1) (hi := by omega) (hj := by omega) (by omega) (by decide) (by decide) (by decide) HT1.out HT2.out HT3.out
  obtain ⟨hl4, hs4⟩ := HS4.out
  rw [hss] at hl4 hs4
  have hl4' : l4 = 2 := hl4.symm
  subst hl4'
  rcases hs4 with ⟨_, h0⟩ | ⟨g4, rfl, hg4, hc4⟩
  · cases h0
  · have s0 : w4.cell? ⟨g4, 0, none⟩ = some (.string ⟨#[120]⟩) := hc4 0 (by omega)
    have s1 : w4.cell? ⟨g4, 1, none⟩ = some (.string ⟨#[121]⟩) := hc4 1 (by omega)
    clear hc4 hl4 hss HS4 y0 x0 y1 x1 y2 x2 y3 x3 y4 x4 y5 x5 y6 x6 y7 x7 y8 x8
    obtain ⟨y0, y1, y2, y3, y4, y5, y6, y7, y8⟩ := cell_nine (K12.out.keep B6.out)
    obtain ⟨z0, z1, z2, z3, z4, z5, z6, z7, z8⟩ := cell_nine (row_keep B6.out TZ2.out)
    have H14 := Lib.hid (H12.out.keep B6.out)
    go_wp2_with (go_at_call 16; refine (coversZ c1 H14.out (by omega)).mono ?_; rintro e w5 ⟨rfl, hb5⟩; have B7 := Lib.hid (below_then B6.out hb5); clear hb5)
    go_ret
    exact ⟨rfl, B0.out.trans ((B2.out.trans ((B4.out.trans (B7.out.mono B4.out.size)).mono B2.out.size)).mono B0.out.size)⟩
end Go.Proofs.Ytpghehckojdgeaa

/- The methods of a net that is nil. (By gen_nil.py.) -/
set_option linter.unusedVariables false
set_option linter.unusedSimpArgs false
namespace Go.Proofs.Ytpghehckojdgeaa
open Go.RowKit Go.Shelf Go.Sort

set_option maxRecDepth 100000 in
set_option maxHeartbeats 2000000 in
theorem usable_nil (W : World) : Calls Try.prog 67 #[.pointer none] W fun e w' => e = .returned (.bool false) ∧ W = w' := by
  go_enter Try.func67, Try.ntmps67
  go_wp2
  go_ret
  exact ⟨rfl, rfl⟩

set_option maxRecDepth 100000 in
set_option maxHeartbeats 2000000 in
theorem find_nil (ao : Option Addr) (n c : Nat) (W : World) : Calls Try.prog 66 #[.pointer none, .slice ao n c] W fun e w' => e = .returned (.int .i64 1) ∧ W = w' := by
  go_enter Try.func66, Try.ntmps66
  go_wp2_with ((go_at_call 67; refine (usable_nil _).mono ?_; rintro e w1 ⟨rfl, rfl⟩))
  go_ret
  exact ⟨rfl, rfl⟩

set_option maxRecDepth 100000 in
set_option maxHeartbeats 2000000 in
theorem findLetter_nil (i : Int) (W : World) : Calls Try.prog 73 #[.pointer none, .int .i64 i] W fun e w' => e = .returned (.int .i64 1) ∧ W = w' := by
  go_enter Try.func73, Try.ntmps73
  go_wp2_with ((go_at_call 67; refine (usable_nil _).mono ?_; rintro e w1 ⟨rfl, rfl⟩))
  go_ret
  exact ⟨rfl, rfl⟩

set_option maxRecDepth 100000 in
set_option maxHeartbeats 2000000 in
theorem deliver_nil (i : Int) (b : Bool) (W : World) : Calls Try.prog 43 #[.pointer none, .int .i64 i, .bool b] W fun e w' => e = .returned (.int .i64 1) ∧ W = w' := by
  go_enter Try.func43, Try.ntmps43
  go_wp2_with ((go_at_call 73; refine (findLetter_nil _ _).mono ?_; rintro e w1 ⟨rfl, rfl⟩))
  go_ret
  exact ⟨rfl, rfl⟩

set_option maxRecDepth 100000 in
set_option maxHeartbeats 2000000 in
theorem lose_nil (i : Int) (W : World) : Calls Try.prog 45 #[.pointer none, .int .i64 i] W fun e w' => e = .returned (.int .i64 1) ∧ W = w' := by
  go_enter Try.func45, Try.ntmps45
  go_wp2_with ((go_at_call 73; refine (findLetter_nil _ _).mono ?_; rintro e w1 ⟨rfl, rfl⟩))
  go_ret
  exact ⟨rfl, rfl⟩

set_option maxRecDepth 100000 in
set_option maxHeartbeats 2000000 in
theorem sites_nil (W : World) : Calls Try.prog 36 #[.pointer none] W fun e w' => e = .returned (.int .i64 0) ∧ W = w' := by
  go_enter Try.func36, Try.ntmps36
  go_wp2_with ((go_at_call 67; refine (usable_nil _).mono ?_; rintro e w1 ⟨rfl, rfl⟩))
  go_ret
  exact ⟨rfl, rfl⟩

set_option maxRecDepth 100000 in
set_option maxHeartbeats 2000000 in
theorem letters_nil (W : World) : Calls Try.prog 28 #[.pointer none] W fun e w' => e = .returned (.slice none 0 0) ∧ W = w' := by
  go_enter Try.func28, Try.ntmps28
  go_wp2_with ((go_at_call 67; refine (usable_nil _).mono ?_; rintro e w1 ⟨rfl, rfl⟩))
  go_ret
  exact ⟨rfl, rfl⟩

set_option maxRecDepth 100000 in
set_option maxHeartbeats 2000000 in
theorem settled_nil (W : World) : Calls Try.prog 37 #[.pointer none] W fun e w' => e = .returned (.bool false) ∧ W = w' := by
  go_enter Try.func37, Try.ntmps37
  go_wp2_with ((go_at_call 67; refine (usable_nil _).mono ?_; rintro e w1 ⟨rfl, rfl⟩))
  go_ret
  exact ⟨rfl, rfl⟩

set_option maxRecDepth 100000 in
set_option maxHeartbeats 2000000 in
theorem netPut_nil (i : Int) (k v : ByteArray) (W : World) : Calls Try.prog 47 #[.pointer none, .int .i64 i, .string k, .string v] W fun e w' => e = .returned (.int .i64 1) ∧ Below W.heap.size W w' := by
  go_enter Try.func47, Try.ntmps47
  go_wp2_with ((go_at_call 66; refine (find_nil _ _ _ _).mono ?_; rintro e w1 ⟨rfl, rfl⟩))
  go_ret
  exact ⟨rfl, box_below _ _⟩

set_option maxRecDepth 100000 in
set_option maxHeartbeats 2000000 in
theorem netRemove_nil (i : Int) (k : ByteArray) (W : World) : Calls Try.prog 40 #[.pointer none, .int .i64 i, .string k] W fun e w' => e = .returned (.int .i64 1) ∧ Below W.heap.size W w' := by
  go_enter Try.func40, Try.ntmps40
  go_wp2_with ((go_at_call 66; refine (find_nil _ _ _ _).mono ?_; rintro e w1 ⟨rfl, rfl⟩))
  go_ret
  exact ⟨rfl, box_below _ _⟩

set_option maxRecDepth 100000 in
set_option maxHeartbeats 2000000 in
theorem netSend_nil (i j : Int) (W : World) : Calls Try.prog 27 #[.pointer none, .int .i64 i, .int .i64 j] W fun e w' => e = .returned (.int .i64 1) ∧ Below W.heap.size W w' := by
  go_enter Try.func27, Try.ntmps27
  go_wp2_with ((go_at_call 66; refine (find_nil _ _ _ _).mono ?_; rintro e w1 ⟨rfl, rfl⟩))
  go_ret
  exact ⟨rfl, box_below _ _⟩

set_option maxRecDepth 100000 in
set_option maxHeartbeats 4000000 in
theorem netTable_nil (i : Int) (W : World) : Calls Try.prog 39 #[.pointer none, .int .i64 i] W fun e w' => e = .returned (.tuple #[zeroT, .int .i64 1]) ∧ Below W.heap.size W w' := by
  obtain ⟨V, hV⟩ : ∃ V, V = (W.alloc (.cells #[.int .i64 0, .int .i64 0, .int .i64 0, .int .i64 0, .int .i64 0, .int .i64 0, .int .i64 0, .int .i64 0, .slice none 0 0] 34)).alloc (.cells #[.int .i64 i] 3) := ⟨_, rfl⟩
  have HB : Hid (Below W.heap.size W V) := Lib.hid (by rw [hV]; exact below2 W _ _)
  have TR : Hid (V.heap[W.heap.size]? = some (.cells #[.int .i64 0, .int .i64 0, .int .i64 0, .int .i64 0, .int .i64 0, .int .i64 0, .int .i64 0, .int .i64 0, .slice none 0 0] 34 (0, 0))) := Lib.hid (by rw [hV]; exact block1 W _ _)
  have hbv : W.heap.size < V.heap.size := (Array.getElem?_eq_some_iff.1 TR.out).1
  have HV := Lib.hid hV
  clear hV
  obtain ⟨q0, q1, q2, q3, q4, q5, q6, q7, q8⟩ := cell_nine TR.out
  have f0 := free_nine TR.out 0; have f1 := free_nine TR.out 1; have f2 := free_nine TR.out 2; have f3 := free_nine TR.out 3; have f4 := free_nine TR.out 4; have f5 := free_nine TR.out 5; have f6 := free_nine TR.out 6; have f7 := free_nine TR.out 7; have f8 := free_nine TR.out 8
  go_enter Try.func39, Try.ntmps39
  go_upto_region 2 with (go_at_call 66; refine (find_nil _ _ _ _).mono ?_; rintro e w1 ⟨rfl, rfl⟩)
  rw [← HV.out]
  go_wp2_with fail
  refine bodyPost_ret (v := .tuple #[zeroT, .int .i64 1]) (results_cell_tmp Try.results39 _ _ W.heap.size 34 zeroC (0, 0) _ rfl (set_nine TR.out) Try.underlying34 (by kernel_rfl) (by kernel_rfl)) rfl ?_
  exact ⟨rfl, below_set9 _ _ _ _ _ _ _ _ _ HB.out (Nat.le_refl _)⟩
end Go.Proofs.Ytpghehckojdgeaa

/- The document's less. (By gen_rless.py.) -/
set_option linter.unusedVariables false
set_option linter.unusedSimpArgs false
namespace Go.Proofs.Ytpghehckojdgeaa
open Go.RowKit Go.Shelf Go.Sort

theorem bytes_less : ∀ a b : List UInt8, Op.bytesLess a b = decide (Lib.compareBytes a b = -1)
  | [], [] => by simp [Op.bytesLess, Lib.compareBytes]
  | _ :: _, [] => by simp [Op.bytesLess, Lib.compareBytes]
  | [], _ :: _ => by simp [Op.bytesLess, Lib.compareBytes]
  | x :: a, y :: b => by
    unfold Op.bytesLess Lib.compareBytes
    rw [bytes_less a b]
    by_cases h1 : x < y
    · simp [h1]
    · by_cases h2 : y < x
      · have : x ≠ y := fun e => by subst e; exact UInt8.lt_irrefl _ h2
        simp [h1, h2, this]
      · have : x = y := UInt8.le_antisymm (UInt8.not_lt.1 h2) (UInt8.not_lt.1 h1)
        subst this
        simp [h1]
theorem ltE_key {x y : Ent} (h : x.key ≠ y.key) : ltE x y = Op.bytesLess x.key.toList y.key.toList := by
  rw [ByteArray.toList_eq, ByteArray.toList_eq, bytes_less, Bool.eq_iff_iff, ltE_iff, decide_eq_true_iff]
  exact ⟨fun k => k.elim id (fun k => absurd k.1 h), .inl⟩
theorem ltE_site {x y : Ent} (h : x.key = y.key) (hs : x.site ≠ y.site) : ltE x y = decide (x.site < y.site) := by
  rw [Bool.eq_iff_iff, ltE_iff, decide_eq_true_iff, show keyCmp x.key y.key = 0 from keyCmp_zero.2 h]
  constructor
  · rintro (k | ⟨_, k | k⟩)
    · omega
    · exact k
    · exact absurd k.1 hs
  · exact fun k => .inr ⟨h, .inl k⟩
theorem ltE_count {x y : Ent} (h : x.key = y.key) (hs : x.site = y.site) : ltE x y = decide (x.count < y.count) := by
  rw [Bool.eq_iff_iff, ltE_iff, decide_eq_true_iff, show keyCmp x.key y.key = 0 from keyCmp_zero.2 h]
  constructor
  · rintro (k | ⟨_, k | k⟩)
    · omega
    · omega
    · exact k.2
  · exact fun k => .inr ⟨h, .inr ⟨hs, k⟩⟩
set_option maxRecDepth 100000 in
set_option maxHeartbeats 4000000 in
theorem less_any (x y : Ent) (W : World) :
    Calls Try.prog 68 #[.agg #[.string x.key, .string x.val, .int .i64 (x.site : Int), .int .i64 (x.count : Int)], .agg #[.string y.key, .string y.val, .int .i64 (y.site : Int), .int .i64 (y.count : Int)]] W fun e w' => e = .returned (.bool (ltE x y)) ∧ Below W.heap.size W w' := by
  obtain ⟨V, hV⟩ : ∃ V, V = (W.alloc (.cells #[.string x.key, .string x.val, .int .i64 (x.site : Int), .int .i64 (x.count : Int)] 82)).alloc (.cells #[.string y.key, .string y.val, .int .i64 (y.site : Int), .int .i64 (y.count : Int)] 82) := ⟨_, rfl⟩
  have HB : Hid (Below W.heap.size W V) := Lib.hid (by rw [hV]; exact below2 W _ _)
  obtain ⟨x0, x1, x2, x3⟩ := four_cells (w := V) (T := W.heap.size) (ty := 82) (by rw [hV]; exact block1 W _ _)
  obtain ⟨y0, y1, y2, y3⟩ := four_cells (w := V) (T := W.heap.size + 1) (ty := 82) (by rw [hV]; exact block2 W _ _)
  have HV := Lib.hid hV
  clear hV
  by_cases hk : x.key = y.key
  · have qk := str_eq hk
    by_cases hs : x.site = y.site
    · have qs : ((x.site : Int) == (y.site : Int)) = true := beq_iff_eq.2 (by omega)
      rw [ltE_count hk hs]
      clear hk hs
      go_enter Try.func68, Try.ntmps68
      go_upto_region 1 with fail
      rw [← HV.out]
      go_wp2
      go_ret
      exact ⟨rfl, HB.out⟩
    · have qs : ((x.site : Int) == (y.site : Int)) = false := beq_eq_false_iff_ne.2 (by omega)
      rw [ltE_site hk hs]
      clear hk hs
      go_enter Try.func68, Try.ntmps68
      go_upto_region 1 with fail
      rw [← HV.out]
      go_wp2
      go_ret
      exact ⟨rfl, HB.out⟩
  · have qk := str_ne hk
    rw [ltE_key hk]
    clear hk
    go_enter Try.func68, Try.ntmps68
    go_upto_region 1 with fail
    rw [← HV.out]
    go_wp2
    go_ret
    exact ⟨rfl, HB.out⟩
end Go.Proofs.Ytpghehckojdgeaa
