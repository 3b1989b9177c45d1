/- Part 19 of the contracts: PlanBestsW. -/
import Derived.Test.YtbidadkcdchomaaDoorPart18

/- PlanBests, at any house and batches in memory. (By gen_pbests.py.) -/
set_option linter.unusedVariables false
set_option linter.unusedSimpArgs false
namespace Go.Proofs.YtbidadkcdchomaaDoor
open Go.RowKit

theorem TrueN.uniq {vn : List Nat} {bn : List BN} {n e1 e2 : Nat} {s1 s2 : List Nat} (h1 : TrueN vn bn n e1 s1) (h2 : TrueN vn bn n e2 s2) : e1 = e2 ∧ s1 = s2 := by
  have a1 : ¬ e1 < e2 := fun c => h2.least _ _ c h1.feas
  have a2 : ¬ e2 < e1 := fun c => h1.least _ _ c h2.feas
  obtain rfl : e1 = e2 := by omega
  refine ⟨rfl, leLex_antisymm _ _ (by rw [h1.len, h2.len]) ?_ ?_⟩
  · have := h1.lex _ h2.feas
    rw [range_get s2 n h2.len] at this
    exact this
  · have := h2.lex _ h1.feas
    rw [range_get s1 n h1.len] at this
    exact this
/-- few, and what it says -/
def FewP (vl bl : Nat) (bs : List Bt) : Prop := bl ≤ 10 ∧ vl ≤ 10 ∧ ∀ i, i < bl → (bs[i]!).tm.length ≤ 10
def OutFew (vl bl : Nat) (bs : List Bt) (W : World) (e : Ending) (w' : World) : Prop := ∃ b : Bool, e = .returned (.bool b) ∧ (b = true → FewP vl bl bs) ∧ Below W.heap.size W w'
set_option maxRecDepth 100000 in
set_option maxHeartbeats 2000000 in
theorem few2_any (va : Option Addr) (vl vc : Nat) (ba : Option Addr) (bl bc : Nat) (bs : List Bt) (W : World) (hb : Bats W ba bl bs) :
    Calls Tryd.prog 8 #[.slice va vl vc, .slice ba bl bc] W (OutFew vl bl bs W) := by
  have HB := Lib.hid hb
  clear hb
  go_enter Tryd.func8, Tryd.ntmps8
  go_wp2
  go_loopg [5] 10 (fun gg s5 wr => ∃ k : Nat, s5 = .int .i64 (k : Int) ∧ k ≤ 10 ∧ k ≤ bl ∧ 10 - k ≤ gg ∧ Hid (∀ i, i < k → (bs[i]!).tm.length ≤ 10) ∧ Hid (Below W.heap.size W wr))
  case atStart => exact ⟨0, rfl, Nat.zero_le _, Nat.zero_le _, by omega, Lib.hid (fun i hi => absurd hi (Nat.not_lt_zero _)), Lib.hid (Below.refl _ _)⟩
  case round =>
    obtain ⟨k, rfl, hk, hkb, hgg, HJ, HD⟩ := hrel
    by_cases h1 : k < bl ∧ k < 10
    · obtain ⟨h1, h2⟩ := h1
      have u0 : (0 : Int) ≤ (k : Int) := by omega
      have u1 : (k : Int) < (bl : Int) := by omega
      have u2 : (k : Int) < 10 := by omega
      obtain ⟨g, o, ta, tl, tc, rfl, hx⟩ := (HB.out.keep HD.out).at h1
      have c0 := hx.c0
      have c1 := hx.c1
      have hl := hx.il.len
      have HL := Lib.hid hl
      clear hx hl
      by_cases h3 : (10 : Int) < (tl : Int)
      · go_wp2
        go_ret
        exact ⟨false, rfl, fun h => (by cases h), HD.out⟩
      · have HJ2 : Hid (∀ i, i < k + 1 → (bs[i]!).tm.length ≤ 10) := Lib.hid (fun i hi => by
          rcases Nat.lt_succ_iff_lt_or_eq.1 hi with hi | rfl
          · exact HJ.out i hi
          · have := HL.out; omega)
        go_wp2
        go_roundg (10 - (k + 1))
        case measure => omega
        case rel => exact ⟨k + 1, by go_num, by omega, by omega, Nat.le_refl _, HJ2, HD⟩
    · have HF : Hid (bl ≤ 10 → vl ≤ 10 → FewP vl bl bs) := Lib.hid (fun h4 h5 => ⟨h4, h5, fun i hi => HJ.out i (by omega)⟩)
      by_cases h3 : (k : Int) < (bl : Int)
      · have u2 : ¬ (k : Int) < 10 := by omega
        by_cases h4 : (vl : Int) ≤ 10
        · by_cases h5 : (bl : Int) ≤ 10
          · go_wp2
            go_ret
            exact ⟨true, rfl, fun _ => HF.out (by omega) (by omega), HD.out⟩
          · go_wp2
            go_ret
            exact ⟨false, rfl, fun h => (by cases h), HD.out⟩
        · go_wp2
          go_ret
          exact ⟨false, rfl, fun h => (by cases h), HD.out⟩
      · by_cases h4 : (vl : Int) ≤ 10
        · by_cases h5 : (bl : Int) ≤ 10
          · go_wp2
            go_ret
            exact ⟨true, rfl, fun _ => HF.out (by omega) (by omega), HD.out⟩
          · go_wp2
            go_ret
            exact ⟨false, rfl, fun h => (by cases h), HD.out⟩
        · go_wp2
          go_ret
          exact ⟨false, rfl, fun h => (by cases h), HD.out⟩
set_option maxHeartbeats 1000000 in
theorem empty_any (W : World) : Calls Tryd.prog 13 #[.agg #[.int .i64 0, .slice none 0 0, .slice none 0 0]] W (YesL W) := by
  obtain ⟨V, hV⟩ : ∃ V, V = W.alloc (.cells #[.int .i64 0, .slice none 0 0, .slice none 0 0] 28) := ⟨_, rfl⟩
  have HB : Hid (Below W.heap.size W V) := Lib.hid (by rw [hV]; exact box_below W _)
  have R : Hid (V.heap[W.heap.size]? = some (.cells #[.int .i64 0, .slice none 0 0, .slice none 0 0] 28 (0, 0))) := Lib.hid (by rw [hV]; exact new_row W _)
  obtain ⟨q0, q1, q2⟩ := cells3 R.out
  have HV := Lib.hid hV
  clear hV
  go_enter Tryd.func13, Tryd.ntmps13
  go_upto_region 1 with fail
  rw [← HV.out]
  go_wp2
  go_ret
  exact ⟨rfl, HB.out⟩
set_option maxRecDepth 100000 in
set_option maxHeartbeats 8000000 in
theorem bests_walk (vs : List Int) (bs : List Bt) (va : Option Addr) (vl vc : Nat) (ba : Option Addr) (bl bc : Nat) (W : World)
    (hv : Il W va vl vs) (hb : Bats W ba bl bs) (hN : NowM W) (hvl : vl ≤ 9223372036854775807) (hbl : bl ≤ 9223372036854775807) (hbc : bl ≤ bc) :
    Calls Tryd.prog 3 #[.slice va vl vc, .slice ba bl bc] W (YesL W) := by
  have HVI := Lib.hid hv
  have HBB := Lib.hid hb
  have HNN := Lib.hid hN
  clear hv hb hN
  go_enter Tryd.func3, Tryd.ntmps3
  go_upto_region 1 with fail
  go_wp2_with fail
  refine (few2_any va vl vc ba bl bc bs W HBB.out).mono ?_
  rintro e w1 ⟨b, rfl, hfew, hb1⟩
  have HB1 := Lib.hid hb1
  have HFW := Lib.hid hfew
  clear hb1 hfew
  cases b with
  | false =>
    have PA := Lib.hid (awake_any w1 (HNN.out.keep HB1.out))
    go_wp2_with (go_at_call 9; refine PA.out.mono ?_; rintro e wz ⟨rfl, hbz⟩; have HBZ := Lib.hid (below_then HB1.out hbz); clear hbz)
    go_ret
    exact ⟨rfl, HBZ.out⟩
  | true =>
    obtain ⟨hb10, hv10, ht10⟩ := HFW.out rfl
    have HT10 := Lib.hid ht10
    clear ht10
    go_wp2_with fail
    refine (task_any va vl vc ba bl bc vs bs w1 (HVI.out.keep HB1.out) (HBB.out.keep HB1.out) hvl hbl).mono ?_
    rintro e w3 ⟨⟨ht, rfl⟩ | ⟨ht, rfl⟩, hb3⟩
    · have HB3 := Lib.hid (below_then HB1.out hb3)
      obtain ⟨vn, bn, rfl, rfl, hT⟩ := task_nat ht
      have HTP := Lib.hid ht
      have HT := Lib.hid hT
      have HL := Lib.hid (few_bats HBB.out)
      have hlv : vn.length = vl := by have := HVI.out.len; rwa [vI_len] at this
      have hv1 : 1 ≤ vl := by have := HT.out.some; omega
      have HLV := Lib.hid hlv
      clear hb3 ht hT hlv
      have PR := Lib.hid (refbest_any va vl vc ba bl bc vn bn 20000 w3 (HVI.out.keep HB3.out) (HBB.out.keep HB3.out) HT.out hbc (by omega) (by omega))
      go_upto_region 6 with fail
      go_wp2_with fail
      refine PR.out.mono ?_
      rintro e w4 ⟨z, sa, sl, sc, ya, yl, yc, err, known, rfl, hb4, hwant⟩
      obtain ⟨w5, hw5⟩ : ∃ w5, w5 = w4.alloc (.cells #[.int .i64 z, .slice sa sl sc, .slice ya yl yc] 28) := ⟨_, rfl⟩
      have HB45 : Hid (Below w4.heap.size w4 w5) := Lib.hid (by rw [hw5]; exact box_below w4 _)
      have HB5 := Lib.hid (below_then HB3.out (below_then hb4 HB45.out))
      have R5 : Hid (w5.heap[w4.heap.size]? = some (.cells #[.int .i64 z, .slice sa sl sc, .slice ya yl yc] 28 (0, 0))) := Lib.hid (by rw [hw5]; exact new_row w4 _)
      have HWA := Lib.hid hwant
      clear hb4 hwant
      go_upto_region 7 with fail
      rw [← hw5]
      clear hw5
      cases known with
      | false =>
        have PA := Lib.hid (awake_any w5 (HNN.out.keep HB5.out))
        go_wp2_with (go_at_call 9; refine PA.out.mono ?_; rintro e wz ⟨rfl, hbz⟩; have HBZ := Lib.hid (below_then HB5.out hbz); clear hbz)
        go_ret
        exact ⟨rfl, HBZ.out⟩
      | true =>
        have GB := Lib.hid ((Below.refl w5.heap.size w5).alloc (Nat.le_refl _) (.cells #[] 3))
        have HI := Lib.hid ((HVI.out.keep HB5.out).keep GB.out)
        have HCL : Hid (∀ i, i < bl → ((bn.map bI)[i]!).tm.length ≤ 1000) := Lib.hid (fun i hi => by have := HT10.out i hi; omega)
        go_upto_region 9 with fail
        go_wp2_with (at_builtin; refine wpList_appRow rfl _ _ 22 rfl w5.heap.size 3 8 Tryd.underlying22 (by kernel_rfl) _ 0 [] rfl (own_empty w5) _ vl vc (vI vn) rfl HI.out (by omega) (by omega) (by omega) GB.out.size ?_; intro v' w6 hown' hbel'; rw [List.nil_append, Nat.zero_add] at hown'; obtain ⟨oa, cap, rfl, hil6, _⟩ := own_form hown'; have HI6 := Lib.hid hil6; have HB56 := Lib.hid (GB.out.trans hbel'); have HB6 := Lib.hid (below_then HB5.out HB56.out); clear hown' hbel' hil6)
        refine (copied_any ba bl bc (bn.map bI) w6 (HBB.out.keep HB6.out) (by omega) HCL.out).mono ?_
        rintro e w7 ⟨v7, l7, rfl, ho7, hm7, hb7⟩
        obtain ⟨ca, ccap, rfl, hbt, _⟩ := ho7.bats
        rw [hm7] at hbt
        have HBT := Lib.hid hbt
        have HB57 := Lib.hid (below_then HB56.out hb7)
        have HB7 := Lib.hid (below_then HB5.out HB57.out)
        have HI7 := Lib.hid (HI6.out.keep hb7)
        clear ho7 hm7 hb7 hbt
        go_wp2_with fail
        refine (best_any (vI vn) (bn.map bI) oa vl cap ca bl ccap w7 HI7.out HBT.out (HNN.out.keep HB7.out) hvl hbl (fun vn' bn' h1 h2 h3 => has_best h3 (by rw [← bI_inj h2]; exact HL.out))).mono ?_
        rintro e w8 ⟨hb8, ⟨hn, _⟩ | ⟨_, vn', bn', h1, h2, _, ho⟩⟩
        · exact absurd HTP.out hn
        obtain rfl := vI_inj h1
        obtain rfl := bI_inj h2
        have HB58 := Lib.hid (below_then HB57.out hb8)
        have HWT := HWA.out (by trivial)
        rcases ho with ⟨hno, rfl⟩ | ⟨en, ss, col, sb, sd, yb, hbest, rfl, hss, hrows⟩
        · cases hwk : HWT with
          | some en ss col _ _ _ h30 ht hc hs hy => exact absurd ht.feas (none_truth HT.out HL.out hno _ _ h30)
          | none h =>
            obtain ⟨w9, hw9⟩ : ∃ w9, w9 = w8.alloc (.cells #[.int .i64 0, .slice none 0 0, .slice none 0 0] 28) := ⟨_, rfl⟩
            have HB59 : Hid (Below w5.heap.size w5 w9) := Lib.hid (by rw [hw9]; exact below_then HB58.out (box_below w8 _))
            have HB9 := Lib.hid (below_then HB5.out HB59.out)
            have R9 : Hid (w9.heap[w8.heap.size]? = some (.cells #[.int .i64 0, .slice none 0 0, .slice none 0 0] 28 (0, 0))) := Lib.hid (by rw [hw9]; exact new_row w8 _)
            obtain ⟨a0, a1, a2⟩ := cells3 (row_keep HB59.out R5.out)
            obtain ⟨b0, b1, b2⟩ := cells3 R9.out
            clear hb8 hno h1 h2 hwk
            go_upto_region 10 with fail
            rw [← hw9]
            clear hw9
            go_wp2_with fail
            refine (sched_same 0 none none none none 0 0 0 0 0 0 [] [] w9 (Il.nil _ _) (Il.nil _ _) ⟨rfl, 0, 0, fun h => absurd h (Nat.lt_irrefl _), fun i hi => absurd hi (Nat.not_lt_zero _)⟩ ⟨rfl, 0, 0, fun h => absurd h (Nat.lt_irrefl _), fun i hi => absurd hi (Nat.not_lt_zero _)⟩ (by omega) (by omega) (fun i hi => absurd hi (Nat.not_lt_zero _))).mono ?_
            rintro e wF ⟨rfl, hbF⟩
            have HBF := Lib.hid (below_then HB9.out hbF)
            clear hbF
            have PA := Lib.hid (awake_any wF (HNN.out.keep HBF.out))
            go_wp2_with (go_at_call 9; refine PA.out.mono ?_; rintro e wz ⟨rfl, hbz⟩; have HBZ := Lib.hid (below_then HBF.out hbz); clear hbz)
            go_ret
            exact ⟨rfl, HBZ.out⟩
        · cases hwk : HWT with
          | none h => exact absurd (hbest.truth HT.out HL.out).feas (h _ _ hbest.le)
          | some en2 ss2 col2 _ _ _ h30 ht hc hs hy =>
            obtain ⟨he, hse⟩ := (hbest.truth HT.out HL.out).uniq ht
            subst he hse
            have HRW : Hid (rowsB col2 bl vn.length = rowsB col bl vn.length) := Lib.hid (rowsB_congr bl vn.length fun k hk => by
              have k1 := hbest.col k hk
              rw [hc k hk] at k1
              exact Option.some.inj k1)
            obtain ⟨w9, hw9⟩ : ∃ w9, w9 = w8.alloc (.cells #[.int .i64 (en : Int), .slice sb bl sd, .slice yb bl bl] 28) := ⟨_, rfl⟩
            have HB59 : Hid (Below w5.heap.size w5 w9) := Lib.hid (by rw [hw9]; exact below_then HB58.out (box_below w8 _))
            have HB9 := Lib.hid (below_then HB5.out HB59.out)
            have R9 : Hid (w9.heap[w8.heap.size]? = some (.cells #[.int .i64 (en : Int), .slice sb bl sd, .slice yb bl bl] 28 (0, 0))) := Lib.hid (by rw [hw9]; exact new_row w8 _)
            have HS9 : Hid (Il w9 sb bl (vI ss)) := Lib.hid (by rw [hw9]; exact hss.keep (box_below w8 _))
            have HY9 : Hid (Rows2 w9 yb bl (rowsB col bl vn.length)) := Lib.hid (by rw [hw9]; exact hrows.keep (box_below w8 _))
            have HS2 := Lib.hid (hs.keep (below_then HB45.out HB59.out))
            have HY2 := Lib.hid (hy.keep (below_then HB45.out HB59.out))
            rw [HRW.out] at HY2
            obtain ⟨a0, a1, a2⟩ := cells3 (row_keep HB59.out R5.out)
            obtain ⟨b0, b1, b2⟩ := cells3 R9.out
            clear hb8 h1 h2 hwk hbest hss hrows ht hc hs hy
            go_upto_region 10 with fail
            rw [← hw9]
            clear hw9
            go_wp2_with fail
            refine (sched_same (en : Int) sb _ yb _ bl sd _ bl bl bl (vI ss) (rowsB col bl vn.length) w9 HS9.out HS2.out HY9.out HY2.out (by omega) (by omega) (fun q hq => by rw [rowsB_at _ _ _ _ hq, vI_len, rowG_len]; have := HT.out.house.few; omega)).mono ?_
            rintro e wF ⟨rfl, hbF⟩
            have HBF := Lib.hid (below_then HB9.out hbF)
            clear hbF
            have PA := Lib.hid (awake_any wF (HNN.out.keep HBF.out))
            go_wp2_with (go_at_call 9; refine PA.out.mono ?_; rintro e wz ⟨rfl, hbz⟩; have HBZ := Lib.hid (below_then HBF.out hbz); clear hbz)
            go_ret
            exact ⟨rfl, HBZ.out⟩
    · have HB3 := Lib.hid (below_then HB1.out hb3)
      have HNT := Lib.hid ht
      clear hb3 ht
      go_upto_region 4 with fail
      go_wp2_with fail
      refine (copied_any ba bl bc bs w3 (HBB.out.keep HB3.out) (by omega) (fun i hi => by have := HT10.out i hi; omega)).mono ?_
      rintro e w4 ⟨v4, l4, rfl, ho4, hm4, hb4⟩
      obtain ⟨ca, ccap, rfl, hbt, _⟩ := ho4.bats
      rw [hm4] at hbt
      have HBT := Lib.hid hbt
      have HB4 := Lib.hid (below_then HB3.out hb4)
      clear ho4 hm4 hb4 hbt
      go_wp2_with fail
      refine (best_any vs bs va vl vc ca bl ccap w4 (HVI.out.keep HB4.out) HBT.out (HNN.out.keep HB4.out) hvl hbl (fun vn' bn' h1 h2 h3 => has_best h3 (by have := HBB.out.1; rw [h2] at this; simpa using this))).mono ?_
      rintro e w5 ⟨hb5, ⟨_, rfl⟩ | ⟨hn, _⟩⟩
      · obtain ⟨w6, hw6⟩ : ∃ w6, w6 = w5.alloc (.cells #[.int .i64 0, .slice none 0 0, .slice none 0 0] 28) := ⟨_, rfl⟩
        have HB6 : Hid (Below W.heap.size W w6) := Lib.hid (by rw [hw6]; exact below_then HB4.out (below_then hb5 (box_below w5 _)))
        have R6 : w6.heap[w5.heap.size]? = some (.cells #[.int .i64 0, .slice none 0 0, .slice none 0 0] 28 (0, 0)) := by rw [hw6]; exact new_row w5 _
        obtain ⟨b0, b1, b2⟩ := cells3 R6
        have PE := Lib.hid (empty_any w6)
        clear hb5 R6
        go_upto_region 5 with fail
        rw [← hw6]
        clear hw6
        go_wp2_with fail
        refine PE.out.mono ?_
        rintro e w7 ⟨rfl, hb7⟩
        have HB7 := Lib.hid (below_then HB6.out hb7)
        clear hb7
        have PA := Lib.hid (awake_any w7 (HNN.out.keep HB7.out))
        go_wp2_with (go_at_call 9; refine PA.out.mono ?_; rintro e wz ⟨rfl, hbz⟩; have HBZ := Lib.hid (below_then HB7.out hbz); clear hbz)
        go_ret
        exact ⟨rfl, HBZ.out⟩
      · exact absurd hn HNT.out
end Go.Proofs.YtbidadkcdchomaaDoor
