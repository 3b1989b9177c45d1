/- Part 17 of the contracts: PlanMoreW, RSearch, RBest. -/
import Derived.Deep.AppendLies
import Derived.BigQuiet
import Derived.Deep.RegionHeld3
import Derived.OrdersHeld
import Derived.Test.YtbidadkcdchomaaDoorPart16

/- PlanMore, at any house and batches in memory. (By gen_pmorew.py.) -/
set_option linter.unusedVariables false
set_option linter.unusedSimpArgs false
namespace Go.Proofs.YtbidadkcdchomaaDoor
open Go.RowKit

theorem own_cell {w : World} {base e g cap n : Nat} {vn : List Nat} (h : OwnI w base e (.slice (some ⟨g, 0, none⟩) n cap) n (vI vn)) {k : Nat} (hk : k < n) : w.cell? ⟨g, k, none⟩ = some (.int .i64 ((vn[k]! : Nat) : Int)) := by
  have hl := h.len
  rw [vI_len] at hl
  rw [World.ownsRow.cellAt h k (by omega), getElem!_pos vn k (by omega)]
  unfold vI
  rw [List.getElem?_map, List.getElem?_map, List.getElem?_eq_getElem (show k < vn.length by omega)]
  rfl
theorem own_store {w : World} {base e g cap n : Nat} {vn : List Nat} (h : OwnI w base e (.slice (some ⟨g, 0, none⟩) n cap) n (vI vn)) (k x : Nat) : OwnI (w.setCell ⟨g, k, none⟩ (.int .i64 (x : Int))) base e (.slice (some ⟨g, 0, none⟩) n cap) n (vI (vn.set k x)) := by
  have := (World.ownsRow.stored h k (.int .i64 (x : Int))).1
  unfold OwnI vI at *
  rw [List.map_set, List.map_set]
  exact this
theorem own_il {w : World} {base e g cap n : Nat} {xs : List Int} (h : OwnI w base e (.slice (some ⟨g, 0, none⟩) n cap) n xs) : Il w (some ⟨g, 0, none⟩) n xs := by
  obtain ⟨ao, c, e, _, _, hi⟩ := h.il
  cases e
  exact hi
theorem Bats.less {w : World} {ba : Option Addr} {bl : Nat} {bn : List BN} (h : Bats w ba bl (bn.map bI)) (m : Nat) (hm : m ≤ bl) : Bats w ba m ((bn.take m).map bI) := by
  have hl := few_bats h
  obtain ⟨h1, g, o, h2, h3⟩ := h
  refine ⟨by rw [List.length_map, List.length_take]; omega, g, o, fun h0 => h2 (by omega), fun i hi => ?_⟩
  have := h3 i (by omega)
  rw [bI_at (by omega)] at this
  rw [bI_at (by rw [List.length_take]; omega), take_get m i hi]
  exact this
theorem TaskN.taskP {vn : List Nat} {bn : List BN} (h : TaskN vn bn) : TaskP (vI vn) (bn.map bI) := by
  refine ⟨⟨by rw [vI_len]; exact h.some, by rw [vI_len]; exact h.house.few, fun j hj => ?_⟩, by rw [List.length_map]; exact h.few, fun i hi => ?_⟩
  · rw [vI_len] at hj
    have := h.house.one j hj
    rw [vI_get]
    omega
  · rw [List.length_map] at hi
    rw [bI_at hi]
    refine ⟨Int.natCast_nonneg _, by have := h.rdy i hi; show (bn[i]!.rdy : Int) ≤ 30; omega, by rw [vI_len]; show (vI bn[i]!.tm).length = _; rw [vI_len]; exact h.len i hi, fun j hj => ?_⟩
    have hj : j < (vI bn[i]!.tm).length := hj
    rw [vI_len] at hj
    have := h.tm i hi j (by rw [← h.len i hi]; exact hj)
    show 1 ≤ (vI bn[i]!.tm)[j]?.getD 0 ∧ (vI bn[i]!.tm)[j]?.getD 0 ≤ 30
    rw [vI_get]
    omega
theorem OutB.some {vs : List Int} {bs : List Bt} {bl : Nat} {W w' : World} {e : Ending} (h : OutB vs bs bl W e w') : ∃ (z err : Int) (sa : Option Addr) (sl sc : Nat) (ya : Option Addr) (yl yc : Nat), e = .returned (.tuple #[.agg #[.int .i64 z, .slice sa sl sc, .slice ya yl yc], .int .i64 err]) ∧ Below W.heap.size W w' := by
  obtain ⟨hb, ⟨_, rfl⟩ | ⟨_, vn, bn, _, _, _, ⟨_, rfl⟩ | ⟨en, ss, col, sa, sc, ya, _, rfl, _, _⟩⟩⟩ := h
  · exact ⟨0, 2, none, 0, 0, none, 0, 0, rfl, hb⟩
  · exact ⟨0, 40, none, 0, 0, none, 0, 0, rfl, hb⟩
  · exact ⟨en, 0, sa, bl, sc, ya, bl, bl, rfl, hb⟩
set_option maxRecDepth 100000 in
set_option maxHeartbeats 8000000 in
theorem more_walk (vs : List Int) (bs : List Bt) (st : Nat) (va : Option Addr) (vl vc : Nat) (ba : Option Addr) (bl bc : Nat) (W : World)
    (hv : Il W va vl vs) (hb : Bats W ba bl bs) (hN : NowM W) (hvl : vl ≤ 9223372036854775807) (hbl : bl ≤ 9223372036854775807) (hbc : bl ≤ bc) (hst : st ≤ 255) :
    Calls Tryd.prog 6 #[.slice va vl vc, .slice ba bl bc, .int .u8 (st : Int)] W (YesL W) := by
  have HVI := Lib.hid hv
  have HBB := Lib.hid hb
  have HNN := Lib.hid hN
  clear hv hb hN
  go_enter Tryd.func6, Tryd.ntmps6
  go_upto_region 1 with fail
  go_wp2_with fail
  refine (few_any va vl vc ba bl bc bs W HBB.out).mono ?_
  rintro e w1 ⟨b, rfl, hb1⟩
  have HB1 := Lib.hid hb1
  clear hb1
  cases b with
  | false =>
    have PA := Lib.hid (awake_any w1 (HNN.out.keep HB1.out))
    go_wp2_with (go_at_call 9; refine PA.out.mono ?_; rintro e wz ⟨rfl, hbz⟩; have HBZ := Lib.hid (below_then HB1.out hbz); clear hbz)
    go_ret
    exact ⟨rfl, HBZ.out⟩
  | true =>
    go_wp2_with fail
    refine (task_any va vl vc ba bl bc vs bs w1 (HVI.out.keep HB1.out) (HBB.out.keep HB1.out) hvl hbl).mono ?_
    rintro e w3 ⟨⟨ht, rfl⟩ | ⟨ht, rfl⟩, hb3⟩
    · have HB3 := Lib.hid (below_then HB1.out hb3)
      obtain ⟨vn, bn, rfl, rfl, hT⟩ := task_nat ht
      have HTP := Lib.hid ht
      have HT := Lib.hid hT
      have HL := Lib.hid (few_bats HBB.out)
      clear hb3 ht hT
      go_wp2_with fail
      refine (work_any ba bl bc w3 (HBB.out.keep HB3.out) HT.out).mono ?_
      rintro e w4 ⟨wk, rfl, hb4⟩
      have HB4 := Lib.hid (below_then HB3.out hb4)
      clear hb4
      by_cases hwk : (100000 : Int) < wk
      · skip
        have PA := Lib.hid (awake_any w4 (HNN.out.keep HB4.out))
        go_wp2_with (go_at_call 9; refine PA.out.mono ?_; rintro e wz ⟨rfl, hbz⟩; have HBZ := Lib.hid (below_then HB4.out hbz); clear hbz)
        go_ret
        exact ⟨rfl, HBZ.out⟩
      · have hlv : vn.length = vl := by have := HVI.out.len; rwa [vI_len] at this
        have HLV := Lib.hid hlv
        have hv3 : vl ≤ 3 := by have := HT.out.house.few; omega
        have hv1 : 1 ≤ vl := by have := HT.out.some; omega
        have u0 : ¬ (vl : Int) = 0 := by omega
        obtain ⟨k, hk⟩ : ∃ k, k = st % vl := ⟨_, rfl⟩
        have hkl : k < vl := by rw [hk]; exact Nat.mod_lt _ (by omega)
        have hkm : (st : Int) % (vl : Int) = (k : Int) := by rw [hk]; exact (Int.natCast_emod _ _).symm
        have hx1 := HT.out.house.one k (by omega)
        have u1 : (0 : Int) ≤ (k : Int) := by omega
        have u2 : (k : Int) < (vl : Int) := by omega
        clear hlv hk
        go_upto_region 4 with fail
        rw [hkm]
        have GB := Lib.hid ((Below.refl w4.heap.size w4).alloc (Nat.le_refl _) (.cells #[] 3))
        have HI := Lib.hid ((HVI.out.keep HB4.out).keep GB.out)
        go_upto_region 5 with (at_builtin; refine wpList_appRow rfl _ _ 22 rfl w4.heap.size 3 8 Tryd.underlying22 (by kernel_rfl) _ 0 [] rfl (own_empty w4) _ vl vc (vI vn) rfl HI.out (by omega) (by omega) (by omega) GB.out.size ?_; intro v' w5 hown' hbel'; rw [List.nil_append, Nat.zero_add] at hown'; obtain ⟨g, cap, rfl, hg1, hg2⟩ := World.ownsRow.form hown' hv1; have HO5 := Lib.hid hown'; have HB5 := Lib.hid (GB.out.trans hbel'); have c0 := own_cell hown' hkl; have f0 := World.ownsRow.frozenAt hown' k; clear hown' hbel')
        have HPX : Hid ((plusV vn k) = vn.set k (vn[k]! + 1)) := Lib.hid rfl
        have HX1 := Lib.hid (plusV_len vn k)
        obtain ⟨x, hx⟩ : ∃ x, x = vn[k]! := ⟨_, rfl⟩
        rw [← hx] at c0 hx1
        have HX := Lib.hid hx
        clear hx
        go_upto_region 6 with fail
        have hx2 : ((x + 1 : Nat) : Int) = (x : Int) + 1 := by omega
        obtain ⟨w6, hw6⟩ : ∃ w6, w6 = w5.setCell ⟨g, k, none⟩ (.int .i64 ((x : Int) + 1)) := ⟨_, rfl⟩
        have HO6 : Hid (OwnI w6 w4.heap.size 3 (.slice (some ⟨g, 0, none⟩) vl cap) vl (vI (plusV vn k))) := Lib.hid (by rw [hw6, HPX.out, ← HX.out, ← hx2]; exact own_store HO5.out k (x + 1))
        have HB6 : Hid (Below W.heap.size W w6) := Lib.hid (by rw [hw6]; exact (below_then HB4.out HB5.out).setCell (by have := HB4.out.size; show W.heap.size ≤ g; omega) _)
        have c6 : w6.cell? ⟨g, k, none⟩ = some (.int .i64 ((x : Int) + 1)) := by
          rw [own_cell HO6.out hkl, HPX.out, get_set_eq _ _ _ (by rw [HLV.out]; exact hkl), ← HX.out, hx2]
        have HI6 := Lib.hid (own_il HO6.out)
        rw [← hw6]
        clear hw6 c0 f0
        have HLEN : bn.length = bl := HL.out
        have PA1 := Lib.hid (best_any (vI vn) (bn.map bI) va vl vc ba bl bc w6 (HVI.out.keep HB6.out) (HBB.out.keep HB6.out) (HNN.out.keep HB6.out) hvl (hbl) (fun vn' bn' h1 h2 h3 => has_best h3 (by rw [← bI_inj h2]; exact HLEN)))
        go_wp2_with fail
        refine PA1.out.mono ?_
        rintro e w7 ⟨hb7, ⟨hn, _⟩ | ⟨_, vn', bn', h1, h2, _, ho⟩⟩
        · exact absurd HTP.out hn
        obtain rfl := vI_inj h1
        obtain rfl := bI_inj h2
        rcases ho with ⟨hno, rfl⟩ | ⟨en, ss, col, sa, sc, ya, hbest, rfl, hss, hrows⟩
        · obtain ⟨w8, hw8⟩ : ∃ w8, w8 = w7.alloc (.cells #[.int .i64 0, .slice none 0 0, .slice none 0 0] 28) := ⟨_, rfl⟩
          have HB8 : Hid (Below W.heap.size W w8) := Lib.hid (by rw [hw8]; exact below_then HB6.out (below_then hb7 (box_below w7 _)))
          clear hb7 hno h1 h2
          go_upto_region 7 with fail
          rw [← hw8]
          clear hw8
          go_upto_region 11 with fail
          by_cases h0 : bl = 0
          · have v0 : (bl : Int) = 0 := by omega
            have PA := Lib.hid (awake_any w8 (HNN.out.keep HB8.out))
            go_wp2_with (go_at_call 9; refine PA.out.mono ?_; rintro e wz ⟨rfl, hbz⟩; have HBZ := Lib.hid (below_then HB8.out hbz); clear hbz)
            go_ret
            exact ⟨rfl, HBZ.out⟩
          · have v0 : ¬ (bl : Int) = 0 := by omega
            obtain ⟨m, rfl⟩ : ∃ m, bl = m + 1 := ⟨bl - 1, by omega⟩
            obtain ⟨gB, oB, _, _, _, rfl, _⟩ := HBB.out.at (i := 0) (by omega)
            have v1 : (0 : Int) ≤ (m : Int) := by omega
            have v2 : (m : Int) ≤ (bc : Int) := by omega
            have HBL := Lib.hid ((HBB.out.keep HB8.out).less m (by omega))
            have HLEN : (bn.take m).length = m := by rw [List.length_take, HL.out]; omega
            have PC := Lib.hid (best_any (vI vn) ((bn.take m).map bI) va vl vc (some ⟨gB, oB, none⟩) m bc w8 (HVI.out.keep HB8.out) HBL.out (HNN.out.keep HB8.out) hvl (by omega) (fun vn' bn' h1 h2 h3 => has_best h3 (by rw [← bI_inj h2]; exact HLEN)))
            have HLEN := Lib.hid HLEN
            go_upto_region 13 with fail
            go_wp2_with fail
            refine PC.out.mono ?_
            intro e wx ho
            obtain ⟨z, err, sa', sl', sc', ya', yl', yc', rfl, hbx⟩ := ho.some
            have HBX := Lib.hid (below_then HB8.out (below_then hbx (box_below wx (.cells #[.int .i64 z, .slice sa' sl' sc', .slice ya' yl' yc'] 28))))
            clear ho hbx
            go_upto_region 14 with fail
            have PA := Lib.hid (awake_any _ (HNN.out.keep HBX.out))
            go_wp2_with (go_at_call 9; refine PA.out.mono ?_; rintro e wz ⟨rfl, hbz⟩; have HBZ := Lib.hid (below_then HBX.out hbz); clear hbz)
            go_ret
            exact ⟨rfl, HBZ.out⟩
        · have HT1 := Lib.hid (hbest.truth HT.out HL.out)
          have HFP := Lib.hid (hbest.feasP HT.out HL.out)
          have hen : en ≤ 30 := hbest.le
          obtain ⟨w8, hw8⟩ : ∃ w8, w8 = w7.alloc (.cells #[.int .i64 (en : Int), .slice sa bl sc, .slice ya bl bl] 28) := ⟨_, rfl⟩
          have HB68 : Hid (Below w6.heap.size w6 w8) := Lib.hid (by rw [hw8]; exact below_then hb7 (box_below w7 _))
          have HB8 := Lib.hid (below_then HB6.out HB68.out)
          have RAw8 : Hid (w8.heap[w7.heap.size]? = some (.cells #[.int .i64 (en : Int), .slice sa bl sc, .slice ya bl bl] 28 (0, 0))) := Lib.hid (by rw [hw8]; exact new_row w7 _)
          have HS8 : Hid (Il w8 sa bl (vI ss)) := Lib.hid (by rw [hw8]; exact hss.keep (box_below w7 _))
          have HY8 : Hid (Rows2 w8 ya bl (rowsB col bl vn.length)) := Lib.hid (by rw [hw8]; exact hrows.keep (box_below w7 _))
          have c8 := cell_later HB68.out c6
          clear hb7 hbest hss hrows h1 h2 c6
          go_upto_region 7 with fail
          rw [← hw8]
          clear hw8
          by_cases hx8 : x + 1 ≤ 8
          · have w1' : (x : Int) + 1 ≤ 8 := by omega
            have HTM := Lib.hid (HT.out.more (k := k) (by rw [HLV.out]; exact hkl) (by rw [← HX.out]; exact hx8))
            have PB := Lib.hid (best_any (vI (plusV vn k)) (bn.map bI) (some ⟨g, 0, none⟩) vl cap ba bl bc w8 (HI6.out.keep HB68.out) (HBB.out.keep HB8.out) (HNN.out.keep HB8.out) hvl hbl (fun vn' bn' h1 h2 h3 => has_best h3 (by rw [← bI_inj h2]; exact HLEN)))
            go_upto_region 8 with fail
            go_wp2_with fail
            refine PB.out.mono ?_
            rintro e w9 ⟨hb9, ⟨hn, _⟩ | ⟨_, vn', bn', h1, h2, _, ho⟩⟩
            · exact absurd (HTM.out.taskP) hn
            have hvn := vI_inj h1
            subst hvn
            obtain rfl := bI_inj h2
            rcases ho with ⟨hno, rfl⟩ | ⟨en2, ss2, col2, sa2, sc2, ya2, hbest2, rfl, hss2, hrows2⟩
            · exact absurd (HT1.out.feas.more k) (none_truth HTM.out HL.out hno _ _ hen)
            · have hle2 : en2 ≤ en := by
                rcases Nat.lt_or_ge en en2 with g1 | g1
                · exact absurd (HT1.out.feas.more k) ((hbest2.truth HTM.out HL.out).least _ _ g1)
                · exact g1
              have v4 : ¬ (en : Int) < (en2 : Int) := by omega
              obtain ⟨w10, hw10⟩ : ∃ w10, w10 = w9.alloc (.cells #[.int .i64 (en2 : Int), .slice sa2 bl sc2, .slice ya2 bl bl] 28) := ⟨_, rfl⟩
              have HB810 : Hid (Below w8.heap.size w8 w10) := Lib.hid (by rw [hw10]; exact below_then hb9 (box_below w9 _))
              have HB10 := Lib.hid (below_then HB8.out HB810.out)
              have R10 : Hid (w10.heap[w9.heap.size]? = some (.cells #[.int .i64 (en2 : Int), .slice sa2 bl sc2, .slice ya2 bl bl] 28 (0, 0))) := Lib.hid (by rw [hw10]; exact new_row w9 _)
              have RAw10 := Lib.hid (row_keep HB810.out RAw8.out)
              obtain ⟨a0, a1, a2⟩ := cells3 RAw10.out
              clear hb9 hbest2 hss2 hrows2 h1 h2
              go_upto_region 9 with fail
              rw [← hw10]
              clear hw10
              go_wp2_with fail
              refine (check_any (vI (plusV vn k)) (bn.map bI) (en : Int) (some ⟨g, 0, none⟩) vl cap ba bl bc sa bl sc (vI ss) ya bl bl (rowsB col bl vn.length) w10 (HI6.out.keep (below_then HB68.out HB810.out)) (HBB.out.keep HB10.out) (HS8.out.keep HB810.out) (HY8.out.keep HB810.out) hvl hbl hbl hbl).mono ?_
              rintro e w11 ⟨z, rfl, hR, hb11⟩
              have HB11 := Lib.hid (below_then HB10.out hb11)
              have RAw11 := Lib.hid (row_keep hb11 RAw10.out)
              obtain ⟨a0, a1, a2⟩ := cells3 RAw11.out
              obtain ⟨e0, e1, e2⟩ := cells3 (row_keep hb11 R10.out)
              rcases hR with ⟨h, _⟩ | ⟨_, vn', bn', h1, h2, _, ⟨hg, rfl⟩ | ⟨hg, rfl⟩⟩
              · exact absurd (HTM.out.taskP) h
              · clear hb11 hg h1 h2
                go_upto_region 11 with fail
                by_cases h0 : bl = 0
                · have v0 : (bl : Int) = 0 := by omega
                  have PA := Lib.hid (awake_any w11 (HNN.out.keep HB11.out))
                  go_wp2_with (go_at_call 9; refine PA.out.mono ?_; rintro e wz ⟨rfl, hbz⟩; have HBZ := Lib.hid (below_then HB11.out hbz); clear hbz)
                  go_ret
                  exact ⟨rfl, HBZ.out⟩
                · have v0 : ¬ (bl : Int) = 0 := by omega
                  obtain ⟨m, rfl⟩ : ∃ m, bl = m + 1 := ⟨bl - 1, by omega⟩
                  obtain ⟨gB, oB, _, _, _, rfl, _⟩ := HBB.out.at (i := 0) (by omega)
                  have v1 : (0 : Int) ≤ (m : Int) := by omega
                  have v2 : (m : Int) ≤ (bc : Int) := by omega
                  have HBL := Lib.hid ((HBB.out.keep HB11.out).less m (by omega))
                  have HLEN : (bn.take m).length = m := by rw [List.length_take, HL.out]; omega
                  have PC := Lib.hid (best_any (vI vn) ((bn.take m).map bI) va vl vc (some ⟨gB, oB, none⟩) m bc w11 (HVI.out.keep HB11.out) HBL.out (HNN.out.keep HB11.out) hvl (by omega) (fun vn' bn' h1 h2 h3 => has_best h3 (by rw [← bI_inj h2]; exact HLEN)))
                  have HLEN := Lib.hid HLEN
                  go_upto_region 13 with fail
                  go_wp2_with fail
                  refine PC.out.mono ?_
                  rintro e wx ⟨hbx, ⟨hn, _⟩ | ⟨_, vn', bn', h1, h2, _, ho⟩⟩
                  · exact absurd ((HT.out.less m).taskP) hn
                  obtain rfl := vI_inj h1
                  have hbn := bI_inj h2
                  subst hbn
                  rcases ho with ⟨hno, rfl⟩ | ⟨en3, ss3, col3, sa3, sc3, ya3, hbest3, rfl, hss3, hrows3⟩
                  · exact absurd (HT1.out.feas.less (Nat.le_succ m)) (none_truth (HT.out.less m) HLEN.out hno _ _ hen)
                  · have hle3 : en3 ≤ en := by
                      rcases Nat.lt_or_ge en en3 with g1 | g1
                      · exact absurd (HT1.out.feas.less (Nat.le_succ m)) ((hbest3.truth (HT.out.less m) HLEN.out).least _ _ g1)
                      · exact g1
                    have v3 : ¬ (en : Int) < (en3 : Int) := by omega
                    obtain ⟨wy, hwy⟩ : ∃ wy, wy = wx.alloc (.cells #[.int .i64 (en3 : Int), .slice sa3 m sc3, .slice ya3 m m] 28) := ⟨_, rfl⟩
                    have HBy : Hid (Below w11.heap.size w11 wy) := Lib.hid (by rw [hwy]; exact below_then hbx (box_below wx _))
                    have HBX := Lib.hid (below_then HB11.out HBy.out)
                    have RY : wy.heap[wx.heap.size]? = some (.cells #[.int .i64 (en3 : Int), .slice sa3 m sc3, .slice ya3 m m] 28 (0, 0)) := by rw [hwy]; exact new_row wx _
                    obtain ⟨y0, y1, y2⟩ := cells3 RY
                    obtain ⟨a0, a1, a2⟩ := cells3 (row_keep HBy.out RAw11.out)
                    clear hbx hbest3 hss3 hrows3 h1 h2 RY
                    go_upto_region 14 with fail
                    rw [← hwy]
                    clear hwy
                    have PA := Lib.hid (awake_any wy (HNN.out.keep HBX.out))
                    go_wp2_with (go_at_call 9; refine PA.out.mono ?_; rintro e wz ⟨rfl, hbz⟩; have HBZ := Lib.hid (below_then HBX.out hbz); clear hbz)
                    go_ret
                    exact ⟨rfl, HBZ.out⟩
              · have hvn := vI_inj h1
                subst hvn
                obtain rfl := bI_inj h2
                exact absurd (HFP.out.more k) hg
          · have w1' : ¬ (x : Int) + 1 ≤ 8 := by omega
            go_upto_region 11 with fail
            by_cases h0 : bl = 0
            · have v0 : (bl : Int) = 0 := by omega
              have PA := Lib.hid (awake_any w8 (HNN.out.keep HB8.out))
              go_wp2_with (go_at_call 9; refine PA.out.mono ?_; rintro e wz ⟨rfl, hbz⟩; have HBZ := Lib.hid (below_then HB8.out hbz); clear hbz)
              go_ret
              exact ⟨rfl, HBZ.out⟩
            · have v0 : ¬ (bl : Int) = 0 := by omega
              obtain ⟨m, rfl⟩ : ∃ m, bl = m + 1 := ⟨bl - 1, by omega⟩
              obtain ⟨gB, oB, _, _, _, rfl, _⟩ := HBB.out.at (i := 0) (by omega)
              have v1 : (0 : Int) ≤ (m : Int) := by omega
              have v2 : (m : Int) ≤ (bc : Int) := by omega
              have HBL := Lib.hid ((HBB.out.keep HB8.out).less m (by omega))
              have HLEN : (bn.take m).length = m := by rw [List.length_take, HL.out]; omega
              have PC := Lib.hid (best_any (vI vn) ((bn.take m).map bI) va vl vc (some ⟨gB, oB, none⟩) m bc w8 (HVI.out.keep HB8.out) HBL.out (HNN.out.keep HB8.out) hvl (by omega) (fun vn' bn' h1 h2 h3 => has_best h3 (by rw [← bI_inj h2]; exact HLEN)))
              have HLEN := Lib.hid HLEN
              go_upto_region 13 with fail
              go_wp2_with fail
              refine PC.out.mono ?_
              rintro e wx ⟨hbx, ⟨hn, _⟩ | ⟨_, vn', bn', h1, h2, _, ho⟩⟩
              · exact absurd ((HT.out.less m).taskP) hn
              obtain rfl := vI_inj h1
              have hbn := bI_inj h2
              subst hbn
              rcases ho with ⟨hno, rfl⟩ | ⟨en3, ss3, col3, sa3, sc3, ya3, hbest3, rfl, hss3, hrows3⟩
              · exact absurd (HT1.out.feas.less (Nat.le_succ m)) (none_truth (HT.out.less m) HLEN.out hno _ _ hen)
              · have hle3 : en3 ≤ en := by
                  rcases Nat.lt_or_ge en en3 with g1 | g1
                  · exact absurd (HT1.out.feas.less (Nat.le_succ m)) ((hbest3.truth (HT.out.less m) HLEN.out).least _ _ g1)
                  · exact g1
                have v3 : ¬ (en : Int) < (en3 : Int) := by omega
                obtain ⟨wy, hwy⟩ : ∃ wy, wy = wx.alloc (.cells #[.int .i64 (en3 : Int), .slice sa3 m sc3, .slice ya3 m m] 28) := ⟨_, rfl⟩
                have HBy : Hid (Below w8.heap.size w8 wy) := Lib.hid (by rw [hwy]; exact below_then hbx (box_below wx _))
                have HBX := Lib.hid (below_then HB8.out HBy.out)
                have RY : wy.heap[wx.heap.size]? = some (.cells #[.int .i64 (en3 : Int), .slice sa3 m sc3, .slice ya3 m m] 28 (0, 0)) := by rw [hwy]; exact new_row wx _
                obtain ⟨y0, y1, y2⟩ := cells3 RY
                obtain ⟨a0, a1, a2⟩ := cells3 (row_keep HBy.out RAw8.out)
                clear hbx hbest3 hss3 hrows3 h1 h2 RY
                go_upto_region 14 with fail
                rw [← hwy]
                clear hwy
                have PA := Lib.hid (awake_any wy (HNN.out.keep HBX.out))
                go_wp2_with (go_at_call 9; refine PA.out.mono ?_; rintro e wz ⟨rfl, hbz⟩; have HBZ := Lib.hid (below_then HBX.out hbz); clear hbz)
                go_ret
                exact ⟨rfl, HBZ.out⟩
    · have HB3 := Lib.hid (below_then HB1.out hb3)
      clear hb3 ht
      have PA := Lib.hid (awake_any w3 (HNN.out.keep HB3.out))
      go_wp2_with (go_at_call 9; refine PA.out.mono ?_; rintro e wz ⟨rfl, hbz⟩; have HBZ := Lib.hid (below_then HB3.out hbz); clear hbz)
      go_ret
      exact ⟨rfl, HBZ.out⟩
end Go.Proofs.YtbidadkcdchomaaDoor

/- The document's search. -/
set_option linter.unusedVariables false
set_option linter.unusedSimpArgs false
namespace Go.Proofs.YtbidadkcdchomaaDoor
open Go.RowKit

/-- any integers are appended -/
theorem wpList_appL {P : Program} {w : World} {ops : Array Oper} {rest : List Oper} {o : Oper} {a : Act} {Q : Exit → Act → World → Prop} (hgd : o.guard = none) (s x : Operand) (t : TypeId)
    (ho : o.op = .call { callee := .builtin .append, args := #[s, x], argTypes := #[t, t] }) (base e : Nat) (bytes : Nat)
    (h1 : P.underlying t = some (.slice e)) (h2 : (P.info? e).map (fun i => (i.zero, i.size, i.bytes)) = some (some (.int .i64 0), 1, bytes))
    (v : Value) (n : Nat) (xs : List Int) (hs : a.eval s = v) (hown : OwnI w base e v n xs) (ao : Option Addr) (m c : Nat) (ys : List Int) (hx : a.eval x = .slice ao m c) (hil : Il w ao m ys) (hn0 : ao = none → c = 0)
    (hn : n + m ≤ 1000000) (hby : bytes ≤ 8) (hbase : base ≤ w.heap.size)
    (h : ∀ v' w', OwnI w' base e v' (n + m) (xs ++ ys) → Below base w w' → wpList P ops Q rest (a.put o.dst v') w') :
    wpList P ops Q (o :: rest) a w := by
  rcases Nat.eq_zero_or_pos m with h0 | h0
  · subst h0
    obtain rfl := List.eq_nil_of_length_eq_zero hil.len
    refine wpList_appNil hgd s x t ho base e bytes h1 h2 v n xs hs hown ao c hx hn0 (by omega) hby hbase fun v' w' ho' hb' => h v' w' (by rw [List.append_nil]; exact ho') hb'
  · exact wpList_appRow hgd s x t ho base e bytes h1 h2 v n xs hs hown ao m c ys hx hil h0 (by omega) hby hbase h
theorem own_form {w : World} {base e n : Nat} {v : Value} {xs : List Int} (h : OwnI w base e v n xs) : ∃ ao cap, v = .slice ao n cap ∧ Il w ao n xs ∧ (ao = none → cap = 0) := by
  obtain ⟨ao, cap, rfl, _, _, hi⟩ := h.il
  refine ⟨ao, cap, rfl, hi, fun e => ?_⟩
  subst e
  rcases h.2 with ⟨h2, _⟩ | ⟨g, cap', cur, h2, _⟩
  · cases h2; rfl
  · cases h2
/-- what a search answers: given up, or what it says is so -/
def OutSrch (vn : List Nat) (bn : List BN) (n en : Nat) (ss : List Nat) (sa : Option Addr) (W : World) (e : Ending) (w' : World) : Prop :=
  ∃ (lo : Option Addr) (ln lc : Nat) (left : Int) (found : Bool), e = .returned (.tuple #[.slice lo ln lc, .int .i64 left, .bool found]) ∧ Below W.heap.size W w' ∧ -1 ≤ left ∧ left ≤ 20000 ∧
    ((left < 0 ∧ found = false) ∨ (0 ≤ left ∧ found = true ∧ ln = n ∧ ∃ ts, Found vn bn n en ss (some ts) ∧ Il w' lo n (vI ts) ∧ ∀ a, lo = some a → sa = some a ∨ W.heap.size ≤ a.block) ∨ (0 ≤ left ∧ found = false ∧ Found vn bn n en ss none))
theorem vI_snoc (ss : List Nat) (t : Nat) : vI (ss ++ [t]) = vI ss ++ [(t : Int)] := by simp [vI]
theorem snoc_at (ss : List Nat) (t i : Nat) (h : ss.length = i) : (ss ++ [t])[i]! = t := by
  subst h
  rw [getElem!_pos _ _ (by rw [List.length_append]; simp), List.getElem_append_right (Nat.le_refl _)]
  simp
theorem snoc_below (ss : List Nat) (t j : Nat) (h : j < ss.length) : (ss ++ [t])[j]! = ss[j]! := by
  rw [getElem!_pos _ j (by rw [List.length_append]; omega), getElem!_pos ss j h, List.getElem_append_left h]
set_option maxRecDepth 100000 in
set_option maxHeartbeats 16000000 in
theorem srch_step (va : Option Addr) (vl vc : Nat) (ba : Option Addr) (n bc : Nat) (vn : List Nat) (bn : List BN) (en : Nat) (hT : TaskN vn bn) (hbc : n ≤ bc) (hen : en ≤ 30) (i : Nat) (hi : i ≤ n)
    (ih : i < n → ∀ (sa : Option Addr) (sc : Nat) (ss : List Nat) (tr : Int) (W : World), Il W va vl (vI vn) → Bats W ba n (bn.map bI) → Il W sa (i + 1) (vI ss) → (sa = none → sc = 0) → (∀ j, j < i + 1 → InR en bn[j]! ss[j]!) → -1 ≤ tr → tr ≤ 20000 →
      Calls Tryd.prog 31 #[.slice va vl vc, .slice ba n bc, .slice sa (i + 1) sc, .int .i64 (en : Int), .int .i64 tr] W (OutSrch vn bn n en ss sa W))
    (sa : Option Addr) (sc : Nat) (ss : List Nat) (tr : Int) (W : World) (hv : Il W va vl (vI vn)) (hb : Bats W ba n (bn.map bI)) (hs : Il W sa i (vI ss)) (hsn : sa = none → sc = 0) (hr : ∀ j, j < i → InR en bn[j]! ss[j]!) (ht1 : -1 ≤ tr) (ht2 : tr ≤ 20000) :
    Calls Tryd.prog 31 #[.slice va vl vc, .slice ba n bc, .slice sa i sc, .int .i64 (en : Int), .int .i64 tr] W (OutSrch vn bn n en ss sa W) := by
  have hlb := few_bats hb
  have hls : ss.length = i := by have := hs.len; rwa [vI_len] at this
  have hlv : vn.length = vl := by have := hv.len; rwa [vI_len] at this
  have hn5 : n ≤ 5 := by have := hT.few; omega
  have HLB := Lib.hid hlb
  have HLS := Lib.hid hls
  have HLV := Lib.hid hlv
  have HT := Lib.hid hT
  have HV := Lib.hid hv
  have HB := Lib.hid hb
  have HS := Lib.hid hs
  have HSN := Lib.hid hsn
  have HR := Lib.hid hr
  have IH := Lib.hid ih
  clear hlb hls hlv hT hv hb hs hsn hr ih
  by_cases h0 : tr < 0
  · go_enter Tryd.func31, Tryd.ntmps31
    go_wp2
    refine bodyPost_ret (v := .tuple #[.slice none 0 0, .int .i64 (-1), .bool false]) (results_tmp3 Tryd.results31 _ _ _) rfl ?_
    exact ⟨none, 0, 0, -1, false, rfl, Below.refl _ _, by omega, by omega, .inl ⟨by omega, rfl⟩⟩
  · have s0 : (0 : Int) ≤ (i : Int) := by omega
    have s1 : (i : Int) ≤ (bc : Int) := by omega
    have PA := Lib.hid (asg_any va vl vc ba i bc sa sc vn ss (bn.take i) W HV.out (HB.out.less i hi) (HT.out.less i) HS.out (fun j hj => by have := (HR.out j hj).2; omega))
    go_enter Tryd.func31, Tryd.ntmps31
    go_wp2_with fail
    refine PA.out.mono ?_
    rintro e w1 ⟨hb1, ⟨col, hcol, rfl, _⟩ | ⟨hno, rfl⟩⟩
    · have HB1 := Lib.hid hb1
      have HCO := Lib.hid hcol
      clear hb1 hcol
      by_cases h1 : i = n
      · subst h1
        have HF := Lib.hid (found_full HT.out HLB.out HLS.out (fun j hj => HR.out j hj) (col := col) (fun k hk => HCO.out k (by rw [← HLV.out]; exact hk)) : Found vn bn i en ss (some ss))
        have HSI := Lib.hid (HS.out.keep HB1.out)
        go_wp2
        refine bodyPost_ret (v := .tuple #[.slice sa i sc, .int .i64 tr, .bool true]) (results_tmp3 Tryd.results31 _ _ _) rfl ?_
        exact ⟨sa, i, sc, tr, true, rfl, HB1.out, by omega, by omega, .inr (.inl ⟨by omega, rfl, rfl, ss, HF.out, HSI.out, fun a e => .inl e⟩)⟩
      · have hin : i < n := by omega
        have s2 : (i : Int) < (n : Int) := by omega
        have s3 : ((i : Int) == (n : Int)) = false := by simp; omega
        have hib : i < bn.length := by rw [HLB.out]; exact hin
        obtain ⟨g, o, ta, tl, tc, hgo, hx⟩ := HB.out.at hin
        rw [bI_at hib] at hx
        have hlt := HT.out.len i hib
        have hl3 : (bn[i]!).tm.length ≤ 3 := by have := HT.out.house.few; omega
        have HMT : Hid (∀ q, q < (bn[i]!).tm.length → (bn[i]!).tm[q]! ≤ 30) := Lib.hid (fun q hq => (HT.out.tm i hib q (by omega)).2)
        have hrd := HT.out.rdy i hib
        have hdd := HT.out.dur hib
        have HST := Lib.hid (show ∀ f, Onto ss f → f ss.length < (bn[ss.length]!).rdy → ¬ FeasF vn bn en n f from found_start (by rw [HLS.out]; exact hin))
        rw [HLS.out] at HST
        have HNX : Hid (∀ t ts, (∀ f, Onto ss f → f i < t → ¬ FeasF vn bn en n f) → Found vn bn n en (ss ++ [t]) (some ts) → Found vn bn n en ss (some ts)) := Lib.hid (fun t ts h1 h2 => found_next (by rw [HLS.out]; exact hin) (by rw [HLS.out]; exact h1) h2)
        have HSK : Hid (∀ t, (∀ f, Onto ss f → f i < t → ¬ FeasF vn bn en n f) → Found vn bn n en (ss ++ [t]) none → ∀ f, Onto ss f → f i < t + 1 → ¬ FeasF vn bn en n f) := Lib.hid (fun t h1 h2 => by have := found_skip (ss := ss) (t := t) (by rw [HLS.out]; exact h1) h2; rw [HLS.out] at this; exact this)
        have HEN : Hid (∀ t, (∀ f, Onto ss f → f i < t → ¬ FeasF vn bn en n f) → en < t + durN (bn[i]!) → Found vn bn n en ss none) := Lib.hid (fun t h1 h2 => found_end (by rw [HLS.out]; exact hin) (by rw [HLS.out]; exact h1) (by rw [HLS.out]; exact h2))
        have HRN : Hid (∀ t, (bn[i]!).rdy ≤ t → t + durN (bn[i]!) ≤ en → ∀ j, j < i + 1 → InR en bn[j]! (ss ++ [t])[j]!) := Lib.hid (fun t h1 h2 j hj => by
          rcases Nat.lt_succ_iff_lt_or_eq.1 hj with hj | rfl
          · rw [snoc_below _ _ _ (by rw [HLS.out]; exact hj)]; exact HR.out j hj
          · rw [snoc_at _ _ _ HLS.out]; exact ⟨h1, h2⟩)
        obtain ⟨b, hbe⟩ : ∃ b, b = bn[i]! := ⟨_, rfl⟩
        rw [← hbe] at hx hl3 HMT hrd hdd HST HEN HRN
        have HX := Lib.hid hx
        have c0 : w1.cell? ⟨g, o + i * 2, none⟩ = some (.int .i64 (b.rdy : Int)) := cell_later HB1.out hx.c0
        have c1 := cell_later HB1.out hx.c1
        have hdur : durN b = b.tm.sum := rfl
        rw [hdur] at hdd HEN HRN
        obtain ⟨d, hd⟩ : ∃ d, d = b.tm.sum := ⟨_, rfl⟩
        have HD := Lib.hid hd
        rw [← hd] at hdd HEN HRN
        obtain ⟨rd, hrde⟩ : ∃ rd, rd = b.rdy := ⟨_, rfl⟩
        have HRD := Lib.hid hrde
        rw [← hrde] at c0 hrd HST HRN
        subst hgo
        clear hx hlt hib hbe hdur hd hrde
        go_upto_region 9 with fail
        go_wp2
        go_loopg [4, 16] 32 (fun gg s4 s16 wr => ∃ (t : Nat) (z : Int), s16 = .int .i64 (t : Int) ∧ s4 = .int .i64 z ∧ 0 ≤ z ∧ z ≤ 20000 ∧ rd ≤ t ∧ t ≤ 31 ∧ 32 - t ≤ gg ∧ Hid (∀ f, Onto ss f → f i < t → ¬ FeasF vn bn en n f) ∧ Hid (Below W.heap.size W wr))
        case atStart => exact ⟨rd, tr, rfl, rfl, by omega, ht2, Nat.le_refl _, by omega, by omega, HST, HB1⟩
        case round =>
          obtain ⟨t, z, rfl, rfl, hz0, hz1, htr, ht31, hgg, HNO, HW⟩ := hrel
          have c0 : wr.cell? ⟨g, o + i * 2, none⟩ = some (.int .i64 (b.rdy : Int)) := cell_later HW.out HX.out.c0
          rw [← HRD.out] at c0
          have c1 := cell_later HW.out HX.out.c1
          have P := total_any (rd : Int) ta tl tc b.tm wr (HX.out.il.keep HW.out) HMT.out hl3
          rw [← HD.out] at P
          have P := Lib.hid P
          by_cases h2 : t + d ≤ en
          · have v2 : (t : Int) + (d : Int) ≤ (en : Int) := by omega
            go_upto_region 12 with (go_at_call 30; refine P.out.mono ?_; rintro e w2 ⟨rfl, hb2⟩; have HB2 := Lib.hid (below_then HW.out hb2); clear hb2)
            have GB := Lib.hid ((Below.refl w2.heap.size w2).alloc (Nat.le_refl _) (.cells #[] 3))
            have HI := Lib.hid ((HS.out.keep HB2.out).keep GB.out)
            go_upto_region 13 with (first
              | (at_builtin; refine wpList_appL rfl _ _ 22 rfl w2.heap.size 3 8 Tryd.underlying22 (by kernel_rfl) _ 0 [] rfl (own_empty w2) sa i sc (vI ss) rfl HI.out HSN.out (by omega) (by omega) GB.out.size ?_; intro v' w3 hown' hbel'; rw [List.nil_append, Nat.zero_add] at hown'; have HO3 := Lib.hid hown'; have B3 := Lib.hid (GB.out.trans hbel'); obtain ⟨oa, cap, rfl, _, _⟩ := own_form hown'; clear hown' hbel')
              | (at_builtin; refine wpList_appL rfl _ _ 22 rfl w2.heap.size 3 8 Tryd.underlying22 (by kernel_rfl) _ i (vI ss) rfl (HO3.out.later (box_below w3 (.cells #[.int .i64 (t : Int)] 3))) (some ⟨w3.heap.size, 0, none⟩) 1 1 [(t : Int)] rfl ((Blk.new w3 [(t : Int)] _ rfl).il rfl) (fun e => by cases e) (by omega) (by omega) (Nat.le_trans B3.out.size (box_below w3 _).size) ?_; intro v4 w4 hown4 hb4; have HO4 : Hid (OwnI w4 w2.heap.size 3 v4 (i + 1) (vI (ss ++ [t]))) := Lib.hid (by rw [vI_snoc]; exact hown4); have B4 := Lib.hid (below_then HB2.out ((below_then B3.out (box_below w3 (.cells #[.int .i64 (t : Int)] 3))).trans hb4)); obtain ⟨oa4, cap4, rfl, hil4, hn4⟩ := own_form HO4.out; have HI4 := Lib.hid hil4; have HN4 := Lib.hid hn4; clear hown4 hb4 hil4 hn4)
              | (go_at_call 31; refine (IH.out hin oa4 cap4 (ss ++ [t]) (z - 1) w4 (HV.out.keep B4.out) (HB.out.keep B4.out) HI4.out HN4.out (HRN.out t htr h2) (by omega) (by omega)).mono ?_; rintro e w5 ⟨lo, ln, lc, left, found, rfl, hb5, hl1, hl2, hres⟩; have B5 := Lib.hid (below_then B4.out hb5); have HRS := Lib.hid hres; clear hb5 hres))
            rcases HRS.out with ⟨h3, rfl⟩ | ⟨h3, rfl, rfl, ts, hts, hil, hfar⟩ | ⟨h3, rfl, hts⟩
            · go_wp2
              refine bodyPost_ret (v := .tuple #[.slice lo ln lc, .int .i64 left, .bool false]) (results_tmp3 Tryd.results31 _ _ _) rfl ?_
              exact ⟨lo, ln, lc, left, false, rfl, B5.out, hl1, hl2, .inl ⟨h3, rfl⟩⟩
            · have HF := Lib.hid (HNX.out t ts HNO.out hts)
              have HIL := Lib.hid hil
              have HFR : Hid (∀ a, lo = some a → W.heap.size ≤ a.block) := Lib.hid (fun a e => by
                rcases hfar a e with h | h
                · have h5 := HO4.out.ge a.block (by rw [h]; rfl)
                  have := HB2.out.size
                  omega
                · have := B4.out.size
                  omega)
              clear hts hil hfar
              go_wp2
              refine bodyPost_ret (v := .tuple #[.slice lo ln lc, .int .i64 left, .bool true]) (results_tmp3 Tryd.results31 _ _ _) rfl ?_
              exact ⟨lo, ln, lc, left, true, rfl, B5.out, hl1, hl2, .inr (.inl ⟨h3, rfl, rfl, ts, HF.out, HIL.out, fun a e => .inr (HFR.out a e)⟩)⟩
            · have HNO2 := Lib.hid (HSK.out t HNO.out hts)
              have h4 : ¬ left < 0 := by omega
              clear hts
              go_wp2
              go_roundg (32 - (t + 1))
              case measure => omega
              case rel => exact ⟨t + 1, left, by go_num, rfl, h3, hl2, by omega, by omega, Nat.le_refl _, HNO2, B5⟩
          · have v2 : ¬ (t : Int) + (d : Int) ≤ (en : Int) := by omega
            have HF := Lib.hid (HEN.out t HNO.out (by omega))
            go_upto_region 16 with (go_at_call 30; refine P.out.mono ?_; rintro e w2 ⟨rfl, hb2⟩; have HB2 := Lib.hid (below_then HW.out hb2); clear hb2)
            go_wp2
            refine bodyPost_ret (v := .tuple #[.slice none 0 0, .int .i64 z, .bool false]) (results_tmp3 Tryd.results31 _ _ _) rfl ?_
            exact ⟨none, 0, 0, z, false, rfl, HB2.out, by omega, by omega, .inr (.inr ⟨hz0, rfl, HF.out⟩)⟩
    · obtain ⟨k, hk, hno⟩ := hno
      have HF := Lib.hid (found_stuck HT.out HLB.out (by rw [HLS.out]; exact hi) ⟨k, by rw [HLV.out]; exact hk, by rw [HLS.out]; exact hno⟩ : Found vn bn n en ss none)
      have HB1 := Lib.hid hb1
      clear hb1 hno hk
      go_wp2
      refine bodyPost_ret (v := .tuple #[.slice none 0 0, .int .i64 (tr - 1), .bool false]) (results_tmp3 Tryd.results31 _ _ _) rfl ?_
      refine ⟨none, 0, 0, tr - 1, false, rfl, HB1.out, by omega, by omega, ?_⟩
      by_cases h5 : tr - 1 < 0
      · exact .inl ⟨h5, rfl⟩
      · exact .inr (.inr ⟨by omega, rfl, HF.out⟩)
theorem srch_any (va : Option Addr) (vl vc : Nat) (ba : Option Addr) (n bc : Nat) (vn : List Nat) (bn : List BN) (en : Nat) (hT : TaskN vn bn) (hbc : n ≤ bc) (hen : en ≤ 30) :
    ∀ rem i, i + rem = n → ∀ (sa : Option Addr) (sc : Nat) (ss : List Nat) (tr : Int) (W : World), Il W va vl (vI vn) → Bats W ba n (bn.map bI) → Il W sa i (vI ss) → (sa = none → sc = 0) → (∀ j, j < i → InR en bn[j]! ss[j]!) → -1 ≤ tr → tr ≤ 20000 →
    Calls Tryd.prog 31 #[.slice va vl vc, .slice ba n bc, .slice sa i sc, .int .i64 (en : Int), .int .i64 tr] W (OutSrch vn bn n en ss sa W)
  | 0, i, hi => srch_step va vl vc ba n bc vn bn en hT hbc hen i (by omega) (fun h => absurd h (by omega))
  | rem + 1, i, hi => srch_step va vl vc ba n bc vn bn en hT hbc hen i (by omega) (fun _ => srch_any va vl vc ba n bc vn bn en hT hbc hen rem (i + 1) (by omega))
end Go.Proofs.YtbidadkcdchomaaDoor

/- The document's Best. (By gen_rbest.py.) -/
set_option linter.unusedVariables false
set_option linter.unusedSimpArgs false
namespace Go.Proofs.YtbidadkcdchomaaDoor
open Go.RowKit

theorem results_cell_tmp2 {P : Program} {fn : Func} {p q r : Tmp} {ty : TypeId} (h : fn.results = #[.cell p ty, .tmp q, .tmp r]) (tmps : Array Value) (w : World) (g : Nat) (t : TypeId) (cs : Array Value) (fr : Nat × Nat) (d : TypeDesc)
    (hp : tmps.getD p undef = .pointer (some ⟨g, 0, none⟩)) (hg : w.heap[g]? = some (.cells cs t fr))
    (hu : P.underlying ty = some d) (hd : (match d with | .struct _ | .array _ _ => true | _ => false) = true) (hi : (P.info? ty).map (·.size) = some cs.size) :
    (results fn tmps).run P w = .ok (.tuple #[.agg cs, tmps.getD q undef, tmps.getD r undef]) w := by
  have hp' : tmps[p]?.getD undef = .pointer (some ⟨g, 0, none⟩) := by simpa using hp
  simp [results, h, hp', asAddr, run_loadVar_row w g t ty cs fr d hg hu hd hi, Result.andThen]
/-- no feasible starts at all / the best ones -/
inductive Want (vn : List Nat) (bn : List BN) (n : Nat) (w' : World) : Int → Option Addr → Nat → Nat → Option Addr → Nat → Nat → Int → Prop
  | none (h : ∀ e f, e ≤ 30 → ¬ FeasF vn bn e n f) : Want vn bn n w' 0 none 0 0 none 0 0 40
  | some (en : Nat) (ss : List Nat) (col : Nat → List Nat) (sa ya : Option Addr) (sc : Nat) (h30 : en ≤ 30) (ht : TrueN vn bn n en ss) (hc : ∀ k, k < vn.length → stageN vn bn ss n k = some (col k)) (hs : Il w' sa n (vI ss)) (hy : Rows2 w' ya n (rowsB col n vn.length)) : Want vn bn n w' (en : Int) sa n sc ya n n 0
def OutRB (vn : List Nat) (bn : List BN) (n : Nat) (W : World) (e : Ending) (w' : World) : Prop :=
  ∃ (z : Int) (sa : Option Addr) (sl sc : Nat) (ya : Option Addr) (yl yc : Nat) (err : Int) (known : Bool), e = .returned (.tuple #[.agg #[.int .i64 z, .slice sa sl sc, .slice ya yl yc], .int .i64 err, .bool known]) ∧ Below W.heap.size W w' ∧ (known = true → Want vn bn n w' z sa sl sc ya yl yc err)
theorem true_of_found {vn : List Nat} {bn : List BN} {n en : Nat} {ts : List Nat} (h : Found vn bn n en [] (some ts)) (hno : ∀ e f, e < en → ¬ FeasF vn bn e n f) : TrueN vn bn n en ts := by
  cases h with
  | yes _ hl ho hf hx => exact ⟨hl, hf, hno, fun f hf => hx f (fun j hj => absurd hj (Nat.not_lt_zero _)) hf⟩
theorem none_of_found {vn : List Nat} {bn : List BN} {n en : Nat} (h : Found vn bn n en [] none) (f : Nat → Nat) : ¬ FeasF vn bn en n f := by
  cases h with
  | no h => exact h f (fun j hj => absurd hj (Nat.not_lt_zero _))

set_option maxRecDepth 100000 in
set_option maxHeartbeats 16000000 in
theorem refbest_any (va : Option Addr) (vl vc : Nat) (ba : Option Addr) (n bc : Nat) (vn : List Nat) (bn : List BN) (tr : Int) (W : World) (hv : Il W va vl (vI vn)) (hb : Bats W ba n (bn.map bI)) (hT : TaskN vn bn) (hbc : n ≤ bc) (ht1 : 0 ≤ tr) (ht2 : tr ≤ 20000) :
    Calls Tryd.prog 14 #[.slice va vl vc, .slice ba n bc, .int .i64 tr] W (OutRB vn bn n W) := by
  obtain ⟨V, hV⟩ : ∃ V, V = W.alloc (.cells #[.int .i64 0, .slice none 0 0, .slice none 0 0] 28) := ⟨_, rfl⟩
  have HBV : Hid (Below W.heap.size W V) := Lib.hid (by rw [hV]; exact box_below W _)
  have R : Hid (V.heap[W.heap.size]? = some (.cells #[.int .i64 0, .slice none 0 0, .slice none 0 0] 28 (0, 0))) := Lib.hid (by rw [hV]; exact new_row W _)
  have hlb := few_bats hb
  have hlv : vn.length = vl := by have := hv.len; rwa [vI_len] at this
  have hn5 : n ≤ 5 := by have := hT.few; omega
  have hv3 : vl ≤ 3 := by have := hT.house.few; omega
  have HLB := Lib.hid hlb
  have HLV := Lib.hid hlv
  have HT := Lib.hid hT
  have HVV := Lib.hid (hv.keep HBV.out)
  have HBB := Lib.hid (hb.keep HBV.out)
  have HV := Lib.hid hV
  clear hlb hlv hT hv hb hV
  go_enter Tryd.func14, Tryd.ntmps14
  go_upto_region 1 with fail
  rw [← HV.out]
  go_wp2
  go_loopg [2, 9] 31 (fun gg s2 s9 wr => ∃ (k : Nat) (z : Int), s9 = .int .i64 (k : Int) ∧ s2 = .int .i64 z ∧ 0 ≤ z ∧ z ≤ 20000 ∧ k ≤ 31 ∧ 31 - k ≤ gg ∧ Hid (∀ e f, e < k → ¬ FeasF vn bn e n f) ∧ Hid (Below V.heap.size V wr))
  case atStart => exact ⟨0, tr, rfl, rfl, ht1, ht2, by omega, by omega, Lib.hid (fun e f he => absurd he (Nat.not_lt_zero _)), Lib.hid (Below.refl _ _)⟩
  case round =>
    obtain ⟨k, z, rfl, rfl, hz0, hz1, hk, hgg, HNO, HW⟩ := hrel
    by_cases h1 : k ≤ 30
    · have u1 : (k : Int) ≤ 30 := by omega
      obtain ⟨wo, hwo⟩ : ∃ w, w = wr := ⟨_, rfl⟩
      have HWo : Hid (Below V.heap.size V wo) := Lib.hid (by rw [hwo]; exact HW.out)
      have HW0 : Hid (Below wo.heap.size wo wr) := Lib.hid (by rw [hwo]; exact Below.refl _ _)
      clear hwo HW
      go_wp2
      go_loopg [10, 11] n (fun gg s10 s11 wy => ∃ (q : Nat) (p : Bool), s11 = .int .i64 (q : Int) ∧ q ≤ n ∧ n - q ≤ gg ∧ s10 = .bool p ∧ Hid (p = true ↔ ∀ j, j < q → bn[j]!.rdy + durN bn[j]! ≤ k) ∧ Hid (Below wo.heap.size wo wy))
      case atStart => exact ⟨0, true, rfl, Nat.zero_le _, by omega, rfl, Lib.hid ⟨fun _ j hj => absurd hj (Nat.not_lt_zero _), fun _ => rfl⟩, HW0⟩
      case round =>
        obtain ⟨q, p, rfl, hq, hgg2, rfl, HP, HWq⟩ := hrel
        have HWV := Lib.hid (HWo.out.trans (HWq.out.mono HWo.out.size))
        by_cases h2 : q < n
        · have x0 : (0 : Int) ≤ (q : Int) := by omega
          have x1 : (q : Int) < (n : Int) := by omega
          cases p with
          | false =>
            have HPn : Hid (false = true ↔ ∀ j, j < q + 1 → bn[j]!.rdy + durN bn[j]! ≤ k) := Lib.hid ⟨fun h => (by cases h), fun h => HP.out.2 (fun j hj => h j (by omega))⟩
            go_upto_region 8 with fail
            refine wp_region_held_drew (S := fun w' => True) (by kernel_rfl) trivial (fun hS => ?_)
            refine wpAnyH_take (i := 0) (v := ?vp0) rfl (by kernel_rfl) (by kernel_rfl) (by kernel_rfl) (fun _ _ _ h => h) (Or.inl ⟨by rfl, ?hyp0⟩) hS ?restp0
            case hyp0 => (intro w hSw; (try dsimp only at hSw); (first | (go_simp; done) | (go_simp; with_reducible rfl)))
            try simp only [Act.put, List.getElem_toArray, List.getElem_cons_succ, List.getElem_cons_zero, List.setIfInBounds_toArray, List.set_cons_zero, List.set_cons_succ]
            refine wpAnyH_take (i := 1) (v := ?vp1) rfl (by kernel_rfl) (by kernel_rfl) (by kernel_rfl) (fun _ _ _ h => h) (Or.inl ⟨by rfl, ?hyp1⟩) hS ?restp1
            case hyp1 => (intro w hSw; (try dsimp only at hSw); (first | (go_simp; done) | (go_simp; with_reducible rfl)))
            try simp only [Act.put, List.getElem_toArray, List.getElem_cons_succ, List.getElem_cons_zero, List.setIfInBounds_toArray, List.set_cons_zero, List.set_cons_succ]
            refine wpAnyH_take (i := 2) (v := undef) rfl (by kernel_rfl) (by kernel_rfl) (by kernel_rfl) (fun _ _ _ h => h) (Or.inr ⟨by rfl, rfl⟩) hS ?_
            try simp only [Act.put, List.getElem_toArray, List.getElem_cons_succ, List.getElem_cons_zero, List.setIfInBounds_toArray, List.set_cons_zero, List.set_cons_succ]
            refine wpAnyH_take (i := 3) (v := undef) rfl (by kernel_rfl) (by kernel_rfl) (by kernel_rfl) (fun _ _ _ h => h) (Or.inr ⟨by rfl, rfl⟩) hS ?_
            try simp only [Act.put, List.getElem_toArray, List.getElem_cons_succ, List.getElem_cons_zero, List.setIfInBounds_toArray, List.set_cons_zero, List.set_cons_succ]
            refine wpAnyH_take (i := 4) (v := undef) rfl (by kernel_rfl) (by kernel_rfl) (by kernel_rfl) (fun _ _ _ h => h) (Or.inr ⟨by rfl, rfl⟩) hS ?_
            try simp only [Act.put, List.getElem_toArray, List.getElem_cons_succ, List.getElem_cons_zero, List.setIfInBounds_toArray, List.set_cons_zero, List.set_cons_succ]
            refine wpAnyH_take (i := 5) (v := undef) rfl (by kernel_rfl) (by kernel_rfl) (by kernel_rfl) (fun _ _ _ h => h) (Or.inr ⟨by rfl, rfl⟩) hS ?_
            try simp only [Act.put, List.getElem_toArray, List.getElem_cons_succ, List.getElem_cons_zero, List.setIfInBounds_toArray, List.set_cons_zero, List.set_cons_succ]
            refine wpAnyH_take (i := 6) (v := undef) rfl (by kernel_rfl) (by kernel_rfl) (by kernel_rfl) (fun _ _ _ h => h) (Or.inr ⟨by rfl, rfl⟩) hS ?_
            try simp only [Act.put, List.getElem_toArray, List.getElem_cons_succ, List.getElem_cons_zero, List.setIfInBounds_toArray, List.set_cons_zero, List.set_cons_succ]
            refine wpAnyH_take (i := 7) (v := undef) rfl (by kernel_rfl) (by kernel_rfl) (by kernel_rfl) (fun _ _ _ h => h) (Or.inr ⟨by rfl, rfl⟩) hS ?_
            try simp only [Act.put, List.getElem_toArray, List.getElem_cons_succ, List.getElem_cons_zero, List.setIfInBounds_toArray, List.set_cons_zero, List.set_cons_succ]
            refine wpAnyH_take (i := 8) (v := undef) rfl (by kernel_rfl) (by kernel_rfl) (by kernel_rfl) (fun _ _ _ h => h) (Or.inr ⟨by rfl, rfl⟩) hS ?_
            try simp only [Act.put, List.getElem_toArray, List.getElem_cons_succ, List.getElem_cons_zero, List.setIfInBounds_toArray, List.set_cons_zero, List.set_cons_succ]
            refine wpAnyH_take (i := 9) (v := undef) rfl (by kernel_rfl) (by kernel_rfl) (by kernel_rfl) (fun _ _ _ h => h) (Or.inr ⟨by rfl, rfl⟩) hS ?_
            try simp only [Act.put, List.getElem_toArray, List.getElem_cons_succ, List.getElem_cons_zero, List.setIfInBounds_toArray, List.set_cons_zero, List.set_cons_succ]
            refine wpAnyH_take (i := 10) (v := undef) rfl (by kernel_rfl) (by kernel_rfl) (by kernel_rfl) (fun _ _ _ h => h) (Or.inr ⟨by rfl, rfl⟩) hS ?_
            try simp only [Act.put, List.getElem_toArray, List.getElem_cons_succ, List.getElem_cons_zero, List.setIfInBounds_toArray, List.set_cons_zero, List.set_cons_succ]
            refine wpAnyH_take (i := 11) (v := undef) rfl (by kernel_rfl) (by kernel_rfl) (by kernel_rfl) (fun _ _ _ h => h) (Or.inr ⟨by rfl, rfl⟩) hS ?_
            try simp only [Act.put, List.getElem_toArray, List.getElem_cons_succ, List.getElem_cons_zero, List.setIfInBounds_toArray, List.set_cons_zero, List.set_cons_succ]
            refine wpAnyH_take (i := 12) (v := undef) rfl (by kernel_rfl) (by kernel_rfl) (by kernel_rfl) (fun _ _ _ h => h) (Or.inr ⟨by rfl, rfl⟩) hS ?_
            try simp only [Act.put, List.getElem_toArray, List.getElem_cons_succ, List.getElem_cons_zero, List.setIfInBounds_toArray, List.set_cons_zero, List.set_cons_succ]
            refine wpAnyH_take (i := 13) (v := undef) rfl (by kernel_rfl) (by kernel_rfl) (by kernel_rfl) (fun _ _ _ h => h) (Or.inr ⟨by rfl, rfl⟩) hS ?_
            try simp only [Act.put, List.getElem_toArray, List.getElem_cons_succ, List.getElem_cons_zero, List.setIfInBounds_toArray, List.set_cons_zero, List.set_cons_succ]
            refine wpAnyH_take (i := 14) (v := undef) rfl (by kernel_rfl) (by kernel_rfl) (by kernel_rfl) (fun _ _ _ h => h) (Or.inr ⟨by rfl, rfl⟩) hS ?_
            try simp only [Act.put, List.getElem_toArray, List.getElem_cons_succ, List.getElem_cons_zero, List.setIfInBounds_toArray, List.set_cons_zero, List.set_cons_succ]
            refine wpAnyH_take (i := 15) (v := ?vp15) rfl (by kernel_rfl) (by kernel_rfl) (by kernel_rfl) (fun _ _ _ h => h) (Or.inl ⟨by rfl, ?hyp15⟩) hS ?restp15
            case hyp15 => (intro w hSw; (try dsimp only at hSw); (first | (go_simp; done) | (go_simp; with_reducible rfl)))
            try simp only [Act.put, List.getElem_toArray, List.getElem_cons_succ, List.getElem_cons_zero, List.setIfInBounds_toArray, List.set_cons_zero, List.set_cons_succ]
            refine wpAnyH_take (i := 16) (v := ?vp16) rfl (by kernel_rfl) (by kernel_rfl) (by kernel_rfl) (fun _ _ _ h => h) (Or.inl ⟨by rfl, ?hyp16⟩) hS ?restp16
            case hyp16 => (intro w hSw; (try dsimp only at hSw); (first | (go_simp; done) | (go_simp; with_reducible rfl)))
            try simp only [Act.put, List.getElem_toArray, List.getElem_cons_succ, List.getElem_cons_zero, List.setIfInBounds_toArray, List.set_cons_zero, List.set_cons_succ]
            refine wpAnyH_done (by kernel_rfl) ?_ _
            have HB2 := Lib.hid (HWq.out.trans (drew_below wr |>.mono HWq.out.size))
            clear hS
            go_wp2
            go_roundg (n - (q + 1))
            case measure => omega
            case rel => exact ⟨q + 1, false, by go_num, by omega, Nat.le_refl _, rfl, HPn, HB2⟩
          | true =>
            have hqb : q < bn.length := by rw [HLB.out]; exact h2
            obtain ⟨g, o, ta, tl, tc, rfl, hx⟩ := (HBB.out.keep HWV.out).at h2
            rw [bI_at hqb] at hx
            have hl3 : (bn[q]!).tm.length ≤ 3 := by have := HT.out.len q hqb; have := HT.out.house.few; omega
            have hmt : ∀ y, y < (bn[q]!).tm.length → (bn[q]!).tm[y]! ≤ 30 := fun y hy => (HT.out.tm q hqb y (by rw [← HT.out.len q hqb]; exact hy)).2
            have hrd := HT.out.rdy q hqb
            have hdd : (bn[q]!).tm.sum ≤ 90 := HT.out.dur hqb
            have HPn : Hid (∀ b : Bool, b = decide ((bn[q]!).rdy + (bn[q]!).tm.sum ≤ k) → (b = true ↔ ∀ j, j < q + 1 → bn[j]!.rdy + durN bn[j]! ≤ k)) := Lib.hid (fun b hb => by
              subst hb
              rw [decide_eq_true_eq]
              constructor
              · intro h j hj
                rcases Nat.lt_succ_iff_lt_or_eq.1 hj with hj | rfl
                · exact HP.out.1 rfl j hj
                · exact h
              · intro h
                exact h q (Nat.lt_succ_self _))
            have c0 : wr.cell? ⟨g, o + q * 2, none⟩ = some (.int .i64 ((bn[q]!).rdy : Int)) := hx.c0
            have c1 := hx.c1
            have P := Lib.hid (total_any ((bn[q]!).rdy : Int) ta tl tc (bn[q]!).tm wr.drew hx.il.drew hmt hl3)
            generalize (bn[q]!).tm.sum = d at P HPn hdd
            generalize (bn[q]!).rdy = rd at P HPn hrd c0
            clear hx hmt hl3
            go_upto_region 8 with fail
            refine wp_region_held_drew (S := fun w' => w'.cell? ⟨g, o + q * 2, none⟩ = some (.int .i64 (rd : Int)) ∧ w'.cell? ⟨g, o + q * 2 + 1, none⟩ = some (.slice ta tl tc)) (by kernel_rfl) ⟨c0, c1⟩ (fun hS => ?_)
            refine wpAnyH_take (i := 0) (v := ?vq0) rfl (by kernel_rfl) (by kernel_rfl) (by kernel_rfl) (fun _ _ _ h => h) (Or.inl ⟨by rfl, ?hyq0⟩) hS ?restq0
            case hyq0 => (intro w hSw; (try dsimp only at hSw); (first | (go_simp; done) | (go_simp; with_reducible rfl)))
            try simp only [Act.put, List.getElem_toArray, List.getElem_cons_succ, List.getElem_cons_zero, List.setIfInBounds_toArray, List.set_cons_zero, List.set_cons_succ]
            refine wpAnyH_take (i := 1) (v := ?vq1) rfl (by kernel_rfl) (by kernel_rfl) (by kernel_rfl) (fun _ _ _ h => h) (Or.inl ⟨by rfl, ?hyq1⟩) hS ?restq1
            case hyq1 => (intro w hSw; (try dsimp only at hSw); (first | (go_simp; done) | (go_simp; with_reducible rfl)))
            try simp only [Act.put, List.getElem_toArray, List.getElem_cons_succ, List.getElem_cons_zero, List.setIfInBounds_toArray, List.set_cons_zero, List.set_cons_succ]
            refine wpAnyH_take (i := 2) (v := ?vq2) rfl (by kernel_rfl) (by kernel_rfl) (by kernel_rfl) (fun _ _ _ h => h) (Or.inl ⟨by rfl, ?hyq2⟩) hS ?restq2
            case hyq2 => (intro w hSw; (try dsimp only at hSw); (first | (go_simp; done) | (go_simp; with_reducible rfl)))
            try simp only [Act.put, List.getElem_toArray, List.getElem_cons_succ, List.getElem_cons_zero, List.setIfInBounds_toArray, List.set_cons_zero, List.set_cons_succ]
            refine wpAnyH_take (i := 3) (v := ?vq3) rfl (by kernel_rfl) (by kernel_rfl) (by kernel_rfl) (fun _ _ _ h => h) (Or.inl ⟨by rfl, ?hyq3⟩) hS ?restq3
            case hyq3 => (intro w hSw; (try dsimp only at hSw); (first | (go_simp; done) | (go_simp; with_reducible rfl)))
            try simp only [Act.put, List.getElem_toArray, List.getElem_cons_succ, List.getElem_cons_zero, List.setIfInBounds_toArray, List.set_cons_zero, List.set_cons_succ]
            refine wpAnyH_take (i := 4) (v := ?vq4) rfl (by kernel_rfl) (by kernel_rfl) (by kernel_rfl) (fun _ _ _ h => h) (Or.inl ⟨by rfl, ?hyq4⟩) hS ?restq4
            case hyq4 => (intro w hSw; (try dsimp only at hSw); (first | (go_simp; done) | (go_simp; with_reducible rfl)))
            try simp only [Act.put, List.getElem_toArray, List.getElem_cons_succ, List.getElem_cons_zero, List.setIfInBounds_toArray, List.set_cons_zero, List.set_cons_succ]
            refine wpAnyH_take (i := 5) (v := ?vq5) rfl (by kernel_rfl) (by kernel_rfl) (by kernel_rfl) (fun _ _ _ h => h) (Or.inl ⟨by rfl, ?hyq5⟩) hS ?restq5
            case hyq5 => (intro w hSw; (try dsimp only at hSw); (first | (go_simp; done) | (go_simp; with_reducible rfl)))
            try simp only [Act.put, List.getElem_toArray, List.getElem_cons_succ, List.getElem_cons_zero, List.setIfInBounds_toArray, List.set_cons_zero, List.set_cons_succ]
            refine wpAnyH_take (i := 6) (v := ?vq6) rfl (by kernel_rfl) (by kernel_rfl) (by kernel_rfl) (fun _ _ _ h => h) (Or.inl ⟨by rfl, ?hyq6⟩) hS ?restq6
            case hyq6 => (intro w hSw; (try dsimp only at hSw); (first | (go_simp; done) | (go_simp; with_reducible rfl)))
            try simp only [Act.put, List.getElem_toArray, List.getElem_cons_succ, List.getElem_cons_zero, List.setIfInBounds_toArray, List.set_cons_zero, List.set_cons_succ]
            refine wpAnyH_take (i := 7) (v := ?vq7) rfl (by kernel_rfl) (by kernel_rfl) (by kernel_rfl) (fun _ _ _ h => h) (Or.inl ⟨by rfl, ?hyq7⟩) hS ?restq7
            case hyq7 => (intro w hSw; (try dsimp only at hSw); (first | (go_simp; done) | (go_simp; with_reducible rfl)))
            try simp only [Act.put, List.getElem_toArray, List.getElem_cons_succ, List.getElem_cons_zero, List.setIfInBounds_toArray, List.set_cons_zero, List.set_cons_succ]
            refine wpAnyH_take (i := 8) (v := ?vq8) rfl (by kernel_rfl) (by kernel_rfl) (by kernel_rfl) (fun _ _ _ h => h) (Or.inl ⟨by rfl, ?hyq8⟩) hS ?restq8
            case hyq8 => (intro w hSw; (try dsimp only at hSw); (first | (go_simp; done) | (go_simp; with_reducible rfl)))
            try simp only [Act.put, List.getElem_toArray, List.getElem_cons_succ, List.getElem_cons_zero, List.setIfInBounds_toArray, List.set_cons_zero, List.set_cons_succ]
            refine wpAnyH_take (i := 9) (v := ?vq9) rfl (by kernel_rfl) (by kernel_rfl) (by kernel_rfl) (fun _ _ _ h => h) (Or.inl ⟨by rfl, ?hyq9⟩) hS ?restq9
            case hyq9 => (intro w hSw; (try dsimp only at hSw); (first | (go_simp; done) | (go_simp; with_reducible rfl)))
            try simp only [Act.put, List.getElem_toArray, List.getElem_cons_succ, List.getElem_cons_zero, List.setIfInBounds_toArray, List.set_cons_zero, List.set_cons_succ]
            refine wpAnyH_take (i := 10) (v := ?vq10) rfl (by kernel_rfl) (by kernel_rfl) (by kernel_rfl) (fun _ _ _ h => h) (Or.inl ⟨by rfl, ?hyq10⟩) hS ?restq10
            case hyq10 => (intro w hSw; (try dsimp only at hSw); (first | (go_simp; done) | (go_simp; with_reducible rfl)))
            try simp only [Act.put, List.getElem_toArray, List.getElem_cons_succ, List.getElem_cons_zero, List.setIfInBounds_toArray, List.set_cons_zero, List.set_cons_succ]
            refine wpAnyH_take (i := 13) (v := ?vq13) rfl (by kernel_rfl) (by kernel_rfl) (by kernel_rfl) (fun _ _ _ h => h) (Or.inl ⟨by rfl, ?hyq13⟩) hS ?restq13
            case hyq13 => (intro w hSw; (try dsimp only at hSw); (first | (go_simp; done) | (go_simp; with_reducible rfl)))
            try simp only [Act.put, List.getElem_toArray, List.getElem_cons_succ, List.getElem_cons_zero, List.setIfInBounds_toArray, List.set_cons_zero, List.set_cons_succ]
            refine wpAnyH_ready (rs := [11]) (by kernel_rfl) (by simp) ?_
            refine AllReadyH.cons rfl (fun K hK => ?_) AllReadyH.nil
            try go_simp
            refine P.out.mono ?_
            rintro e w1 ⟨rfl, hb1⟩
            have B1 := Lib.hid ((drew_below wr).trans hb1)
            clear hb1
            refine hK.out _ _ ⟨cell_later B1.out c0, cell_later B1.out c1⟩ (fun hS => ?_)
            clear hK K
            try simp only [Act.put, List.getElem_toArray, List.getElem_cons_succ, List.getElem_cons_zero, List.setIfInBounds_toArray, List.set_cons_zero, List.set_cons_succ]
            refine wpAnyH_take (i := 12) (v := ?vq12) rfl (by kernel_rfl) (by kernel_rfl) (by kernel_rfl) (fun _ _ _ h => h) (Or.inl ⟨by rfl, ?hyq12⟩) hS ?restq12
            case hyq12 => (intro w hSw; (try dsimp only at hSw); (first | (go_simp; done) | (go_simp; with_reducible rfl)))
            try simp only [Act.put, List.getElem_toArray, List.getElem_cons_succ, List.getElem_cons_zero, List.setIfInBounds_toArray, List.set_cons_zero, List.set_cons_succ]
            refine wpAnyH_take (i := 14) (v := ?vq14) rfl (by kernel_rfl) (by kernel_rfl) (by kernel_rfl) (fun _ _ _ h => h) (Or.inl ⟨by rfl, ?hyq14⟩) hS ?restq14
            case hyq14 => (intro w hSw; (try dsimp only at hSw); (first | (go_simp; done) | (go_simp; with_reducible rfl)))
            try simp only [Act.put, List.getElem_toArray, List.getElem_cons_succ, List.getElem_cons_zero, List.setIfInBounds_toArray, List.set_cons_zero, List.set_cons_succ]
            refine wpAnyH_take (i := 15) (v := ?vq15) rfl (by kernel_rfl) (by kernel_rfl) (by kernel_rfl) (fun _ _ _ h => h) (Or.inl ⟨by rfl, ?hyq15⟩) hS ?restq15
            case hyq15 => (intro w hSw; (try dsimp only at hSw); (first | (go_simp; done) | (go_simp; with_reducible rfl)))
            try simp only [Act.put, List.getElem_toArray, List.getElem_cons_succ, List.getElem_cons_zero, List.setIfInBounds_toArray, List.set_cons_zero, List.set_cons_succ]
            refine wpAnyH_take (i := 16) (v := ?vq16) rfl (by kernel_rfl) (by kernel_rfl) (by kernel_rfl) (fun _ _ _ h => h) (Or.inl ⟨by rfl, ?hyq16⟩) hS ?restq16
            case hyq16 => (intro w hSw; (try dsimp only at hSw); (first | (go_simp; done) | (go_simp; with_reducible rfl)))
            try simp only [Act.put, List.getElem_toArray, List.getElem_cons_succ, List.getElem_cons_zero, List.setIfInBounds_toArray, List.set_cons_zero, List.set_cons_succ]
            refine wpAnyH_done (by kernel_rfl) ?_ _
            have HB2 := Lib.hid (HWq.out.trans (B1.out.mono HWq.out.size))
            clear hS
            have hw1 : IntKind.i64.wrap ((rd : Int) + (d : Int)) = (rd : Int) + (d : Int) := IntWalk.i64_in _ (by omega)
            try rw [hw1]
            have hbd : decide ((rd : Int) + (d : Int) ≤ (k : Int)) = decide (rd + d ≤ k) := decide_eq_decide.2 (by omega)
            try rw [hbd]
            have HPm := Lib.hid (HPn.out _ rfl)
            generalize decide (rd + d ≤ k) = bb at HPm ⊢
            clear hw1 hbd
            go_wp2
            go_roundg (n - (q + 1))
            case measure => omega
            case rel => exact ⟨q + 1, bb, by go_num, by omega, Nat.le_refl _, rfl, HPm, HB2⟩
        · obtain rfl : n = q := by omega
          have x1 : ¬ (n : Int) < (n : Int) := by omega
          cases p with
          | false =>
            have HNn : Hid (∀ e f, e < k + 1 → ¬ FeasF vn bn e n f) := Lib.hid (fun e f he hf => by
              have : false = true := HP.out.2 (fun j hj => by
                have := (hf.inr j hj).1
                have := (hf.inr j hj).2
                omega)
              cases this)
            go_wp2
            go_roundg (31 - (k + 1))
            case measure => omega
            case rel => exact ⟨k + 1, z, by go_num, rfl, hz0, hz1, by omega, Nat.le_refl _, HNn, HWV⟩
          | true =>
            have PS := Lib.hid (srch_any va vl vc ba n bc vn bn k HT.out hbc h1 n 0 (by omega) none 0 [] z wr (HVV.out.keep HWV.out) (HBB.out.keep HWV.out) (Il.nil _ _) (fun _ => rfl) (fun j hj => absurd hj (Nat.not_lt_zero _)) (by omega) hz1)
            go_upto_region 10 with fail
            go_wp2_with fail
            refine PS.out.mono ?_
            rintro e w1 ⟨lo, ln, lc, left, found, rfl, hb1, hl1, hl2, hres⟩
            have HB1 := Lib.hid (below_then HWV.out hb1)
            have RR := Lib.hid (row_keep HB1.out R.out)
            have f0 := free_row RR.out 0
            have f1 := free_row RR.out 1
            have f2 := free_row RR.out 2
            obtain ⟨q0, q1, q2⟩ := cells3 RR.out
            rcases hres with ⟨h3, rfl⟩ | ⟨h3, rfl, rfl, ts, hts, hil, hfar⟩ | ⟨h3, rfl, hts⟩
            · clear hb1
              go_wp2
              refine bodyPost_ret (v := .tuple #[.agg #[.int .i64 0, .slice none 0 0, .slice none 0 0], .int .i64 0, .bool false]) (results_cell_tmp2 Tryd.results14 _ _ W.heap.size 28 #[.int .i64 0, .slice none 0 0, .slice none 0 0] (0, 0) _ rfl (set_three RR.out) Tryd.underlying28 (by kernel_rfl) (by kernel_rfl)) rfl ?_
              exact ⟨0, none, 0, 0, none, 0, 0, 0, false, rfl, below_set3 _ _ _ (HBV.out.trans (HB1.out.mono HBV.out.size)) (Nat.le_refl _), fun h => by cases h⟩
            · have HTR := Lib.hid (true_of_found hts HNO.out)
              have HIL := Lib.hid hil
              have HFAR : Hid (∀ a, lo = some a → wr.heap.size ≤ a.block) := Lib.hid (fun a e => by
                rcases hfar a e with h | h
                · cases h
                · exact h)
              have HZR : Hid (W.heap.size < wr.heap.size) := Lib.hid (by have := HWV.out.size; have := (Array.getElem?_eq_some_iff.1 R.out).1; omega)
              have HLn : Hid (ln = ln) := Lib.hid rfl
              have PA := Lib.hid (asg_any va vl vc ba ln bc lo lc vn ts bn w1 (HVV.out.keep HB1.out) (HBB.out.keep HB1.out) HT.out hil (fun j hj => by have := (HTR.out.feas.inr j hj).2; omega))
              clear hb1 hts hil hfar
              go_upto_region 15 with fail
              go_wp2_with fail
              refine PA.out.mono ?_
              rintro e w2 ⟨hb2, ⟨col, hcol, rfl, hX⟩ | ⟨⟨s, hs, hno⟩, _⟩⟩
              · have HB2 := Lib.hid (below_then HB1.out hb2)
                have RR2 := Lib.hid (row_keep HB2.out R.out)
                have HLL := Lib.hid (show vn.length = vl from HLV.out)
                have HCO : Hid (∀ s, s < vn.length → stageN vn bn ts ln s = some (col s)) := Lib.hid (fun s hs => hcol s (by rw [← HLL.out]; exact hs))
                have HG : Hid (w2.grownBy (((w2.setCell ⟨W.heap.size, 0, none⟩ (.int .i64 (k : Int))).setCell ⟨W.heap.size, 1, none⟩ (.slice lo ln lc)).setCell ⟨W.heap.size, 2, none⟩ (.slice (some ⟨w1.heap.size, 0, none⟩) ln ln)) (some W.heap.size)) := Lib.hid (grownBy_trans (grownBy_trans (grownBy_set _ _ _ _) (grownBy_set _ _ _ _)) (grownBy_set _ _ _ _))
                have HLT : Hid (W.heap.size < w1.heap.size) := Lib.hid (by have := HB1.out.size; have := (Array.getElem?_eq_some_iff.1 R.out).1; omega)
                have HY : Hid (Rows2 (((w2.setCell ⟨W.heap.size, 0, none⟩ (.int .i64 (k : Int))).setCell ⟨W.heap.size, 1, none⟩ (.slice lo ln lc)).setCell ⟨W.heap.size, 2, none⟩ (.slice (some ⟨w1.heap.size, 0, none⟩) ln ln)) (some ⟨w1.heap.size, 0, none⟩) ln (rowsB col ln vn.length)) := Lib.hid (by rw [HLL.out]; exact hX.rows2_far (by omega) HG.out HLT.out)
                have HS : Hid (Il (((w2.setCell ⟨W.heap.size, 0, none⟩ (.int .i64 (k : Int))).setCell ⟨W.heap.size, 1, none⟩ (.slice lo ln lc)).setCell ⟨W.heap.size, 2, none⟩ (.slice (some ⟨w1.heap.size, 0, none⟩) ln ln)) lo ln (vI ts)) := Lib.hid ((HIL.out.keep hb2).grown HG.out (fun a e => (by have := HFAR.out a e; have := HZR.out; omega)))
                have f0 := free_row RR2.out 0
                have f1 := free_row RR2.out 1
                have f2 := free_row RR2.out 2
                obtain ⟨q0, q1, q2⟩ := cells3 RR2.out
                clear hb2 hcol hX
                go_wp2
                refine bodyPost_ret (v := .tuple #[.agg #[.int .i64 (k : Int), .slice lo ln lc, .slice (some ⟨w1.heap.size, 0, none⟩) ln ln], .int .i64 0, .bool true]) (results_cell_tmp2 Tryd.results14 _ _ W.heap.size 28 #[.int .i64 (k : Int), .slice lo ln lc, .slice (some ⟨w1.heap.size, 0, none⟩) ln ln] (0, 0) _ rfl (set_three RR2.out) Tryd.underlying28 (by kernel_rfl) (by kernel_rfl)) rfl ?_
                exact ⟨k, lo, ln, lc, _, ln, ln, 0, true, rfl, below_set3 _ _ _ (HBV.out.trans (HB2.out.mono HBV.out.size)) (Nat.le_refl _), fun _ => .some k ts col lo _ lc h1 HTR.out HCO.out HS.out HY.out⟩
              · exfalso
                obtain ⟨r, hr⟩ := stage_ok HT.out HLB.out HTR.out.feas (k := s) (by rw [HLV.out]; exact hs)
                rw [hr] at hno
                cases hno
            · have HNn : Hid (∀ e f, e < k + 1 → ¬ FeasF vn bn e n f) := Lib.hid (fun e f he => by
                rcases Nat.lt_succ_iff_lt_or_eq.1 he with he | rfl
                · exact HNO.out e f he
                · exact none_of_found hts f)
              have h4 : ¬ left < 0 := by omega
              clear hb1 hts
              go_wp2
              go_roundg (31 - (k + 1))
              case measure => omega
              case rel => exact ⟨k + 1, left, by go_num, rfl, h3, hl2, by omega, Nat.le_refl _, HNn, HB1⟩
    · obtain rfl : k = 31 := by omega
      have u1 : ¬ ((31 : Nat) : Int) ≤ 30 := by omega
      have RR := Lib.hid (row_keep HW.out R.out)
      have f0 := free_row RR.out 0
      have f1 := free_row RR.out 1
      have f2 := free_row RR.out 2
      obtain ⟨q0, q1, q2⟩ := cells3 RR.out
      go_wp2
      refine bodyPost_ret (v := .tuple #[.agg #[.int .i64 0, .slice none 0 0, .slice none 0 0], .int .i64 40, .bool true]) (results_cell_tmp2 Tryd.results14 _ _ W.heap.size 28 #[.int .i64 0, .slice none 0 0, .slice none 0 0] (0, 0) _ rfl (set_three RR.out) Tryd.underlying28 (by kernel_rfl) (by kernel_rfl)) rfl ?_
      exact ⟨0, none, 0, 0, none, 0, 0, 40, true, rfl, below_set3 _ _ _ (HBV.out.trans (HW.out.mono HBV.out.size)) (Nat.le_refl _), fun _ => .none fun e f he => HNO.out e f (by omega)⟩
end Go.Proofs.YtbidadkcdchomaaDoor
