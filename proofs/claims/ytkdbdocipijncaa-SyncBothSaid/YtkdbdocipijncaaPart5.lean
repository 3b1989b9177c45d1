/- Part 5 of the contracts: SSyncBothW, SLaw. -/
import Derived.Carry
import Derived.Lib.SmallJoins
import Derived.ProofKit
import Derived.OpenShut
import Derived.ChangeMaps5
import Derived.Test.YtkdbdocipijncaaPart4

/- SyncBoth, walked. (By gen_both.py.) -/
set_option linter.unusedVariables false
set_option linter.unusedSimpArgs false
namespace Go.Proofs.Ytkdbdocipijncaa
open Go.RowKit Go.Shelf Go.Sort

/-- what Get returns of a key -/
def Got (T : Tab) (k : ByteArray) (ss : List ByteArray) : Prop := getL T.L k = ss
theorem got_eq {T U : Tab} {k : ByteArray} {ss : List ByteArray} (h : T = U) (g : Got U k ss) : Got T k ss := h ▸ g
theorem getK {W : World} {m : Nat} {T : Tab} {ao : Option Addr} {n : Nat} (c : Nat) (h : Held W m T ao n) (hm : m ≤ 40000) (k : ByteArray) (ss : List ByteArray) (hg : Got T k ss) (l : Nat) (hl : ss.length = l) :
    Calls Try.prog 18 #[.agg #[.int .i64 (T.seen 0 : Int), .int .i64 (T.seen 1 : Int), .int .i64 (T.seen 2 : Int), .int .i64 (T.seen 3 : Int), .int .i64 (T.seen 4 : Int), .int .i64 (T.seen 5 : Int), .int .i64 (T.seen 6 : Int), .int .i64 (T.seen 7 : Int), .slice ao n c], .string k] W fun e w' => ∃ ao' c', e = .returned (.slice ao' l c') ∧ Sl w' ao' l ss ∧ Below W.heap.size W w' := by
  subst hl
  unfold Got at hg
  refine (getA c h hm k).mono ?_
  rintro e w' ⟨l, ao', c', ss', he, HS, hs, hb⟩
  rw [HS.out, hg] at hs
  have := hs.1
  subst this
  exact ⟨ao', c', he, hs, hb⟩
theorem sl_pair (W : World) (a b : ByteArray) (t : TypeId) : Sl (W.alloc (.cells #[.string a, .string b] t)) (some ⟨W.heap.size, 0, none⟩) 2 [a, b] := by
  have h := two_cells (heap_alloc_new W (.cells #[.string a, .string b] t))
  refine ⟨rfl, .inr ⟨W.heap.size, rfl, by simp, fun i hi => ?_⟩⟩
  have : i = 0 ∨ i = 1 := by omega
  rcases this with rfl | rfl
  · exact h.1
  · exact h.2
theorem len_one (a : ByteArray) : [a].length = 1 := rfl
theorem len_two (a b : ByteArray) : [a, b].length = 2 := rfl
theorem sl_one (W : World) (a : ByteArray) (t : TypeId) : Sl (W.alloc (.cells #[.string a] t)) (some ⟨W.heap.size, 0, none⟩) 1 [a] := by
  refine ⟨rfl, .inr ⟨W.heap.size, rfl, by simp, fun i hi => ?_⟩⟩
  have : i = 0 := by omega
  subst this
  simp

set_option maxRecDepth 100000 in
set_option maxHeartbeats 4000000 in
theorem both_bad (key one two three : ByteArray) (iN kN : Nat) (W : World) (hi : iN ≤ 255) (hk : kN ≤ 255) (hbad : key.size < 1 ∨ 64 < key.size ∨ 64 < one.size ∨ 64 < two.size ∨ 64 < three.size ∨ iN % 8 = kN % 8) :
    Calls Try.prog 12 #[.string key, .string one, .string two, .string three, .int .u8 (iN : Int), .int .u8 (kN : Int)] W fun e w' => e = .returned (.bool true) ∧ Below W.heap.size W w' := by
  have b1 : (0 : Int) ≤ (iN : Int) := by omega
  have b2 : (0 : Int) ≤ (kN : Int) := by omega
  have b3 : (iN : Int) ≤ 255 := by omega
  have b4 : (kN : Int) ≤ 255 := by omega
  by_cases h0 : key.size < 1
  · have q1 : decide ((key.size : Int) < 1) = true := by simp; omega
    go_enter Try.func12, Try.ntmps12
    go_wp2_with (go_at_call 14; refine (awake_any _).mono ?_; rintro e w1 ⟨rfl, hb1⟩; have B1 := Lib.hid hb1; clear hb1)
    go_ret
    exact ⟨rfl, B1.out⟩
  by_cases h1 : 64 < key.size
  · have q1 : decide ((key.size : Int) < 1) = false := by simp; omega
    have q2 : decide ((64 : Int) < (key.size : Int)) = true := by simp; omega
    go_enter Try.func12, Try.ntmps12
    go_wp2_with (go_at_call 14; refine (awake_any _).mono ?_; rintro e w1 ⟨rfl, hb1⟩; have B1 := Lib.hid hb1; clear hb1)
    go_ret
    exact ⟨rfl, B1.out⟩
  by_cases h2 : 64 < one.size
  · have q1 : decide ((key.size : Int) < 1) = false := by simp; omega
    have q2 : decide ((64 : Int) < (key.size : Int)) = false := by simp; omega
    have q3 : decide ((64 : Int) < (one.size : Int)) = true := by simp; omega
    go_enter Try.func12, Try.ntmps12
    go_wp2_with (go_at_call 14; refine (awake_any _).mono ?_; rintro e w1 ⟨rfl, hb1⟩; have B1 := Lib.hid hb1; clear hb1)
    go_ret
    exact ⟨rfl, B1.out⟩
  by_cases h3 : 64 < two.size
  · have q1 : decide ((key.size : Int) < 1) = false := by simp; omega
    have q2 : decide ((64 : Int) < (key.size : Int)) = false := by simp; omega
    have q3 : decide ((64 : Int) < (one.size : Int)) = false := by simp; omega
    have q4 : decide ((64 : Int) < (two.size : Int)) = true := by simp; omega
    go_enter Try.func12, Try.ntmps12
    go_wp2_with (go_at_call 14; refine (awake_any _).mono ?_; rintro e w1 ⟨rfl, hb1⟩; have B1 := Lib.hid hb1; clear hb1)
    go_ret
    exact ⟨rfl, B1.out⟩
  by_cases h4 : 64 < three.size
  · have q1 : decide ((key.size : Int) < 1) = false := by simp; omega
    have q2 : decide ((64 : Int) < (key.size : Int)) = false := by simp; omega
    have q3 : decide ((64 : Int) < (one.size : Int)) = false := by simp; omega
    have q4 : decide ((64 : Int) < (two.size : Int)) = false := by simp; omega
    have q5 : decide ((64 : Int) < (three.size : Int)) = true := by simp; omega
    go_enter Try.func12, Try.ntmps12
    go_wp2_with (go_at_call 14; refine (awake_any _).mono ?_; rintro e w1 ⟨rfl, hb1⟩; have B1 := Lib.hid hb1; clear hb1)
    go_ret
    exact ⟨rfl, B1.out⟩
  by_cases h5 : iN % 8 = kN % 8
  · have q1 : decide ((key.size : Int) < 1) = false := by simp; omega
    have q2 : decide ((64 : Int) < (key.size : Int)) = false := by simp; omega
    have q3 : decide ((64 : Int) < (one.size : Int)) = false := by simp; omega
    have q4 : decide ((64 : Int) < (two.size : Int)) = false := by simp; omega
    have q5 : decide ((64 : Int) < (three.size : Int)) = false := by simp; omega
    have q6 : (((iN : Int) % 8) == ((kN : Int) % 8)) = true := by simp; omega
    go_enter Try.func12, Try.ntmps12
    go_wp2_with (go_at_call 14; refine (awake_any _).mono ?_; rintro e w1 ⟨rfl, hb1⟩; have B1 := Lib.hid hb1; clear hb1)
    go_ret
    exact ⟨rfl, B1.out⟩
  · exfalso; omega

set_option maxRecDepth 100000 in
set_option maxHeartbeats 16000000 in
theorem both_lt (key one two three : ByteArray) (iN kN : Nat) (W : World) (hi : iN ≤ 255) (hk : kN ≤ 255) (hkey : 1 ≤ key.size ∧ key.size ≤ 64) (h1 : one.size ≤ 64) (h2 : two.size ≤ 64) (h3 : three.size ≤ 64) (hab : iN % 8 < kN % 8) :
    Calls Try.prog 12 #[.string key, .string one, .string two, .string three, .int .u8 (iN : Int), .int .u8 (kN : Int)] W fun e w' => e = .returned (.bool true) ∧ Below W.heap.size W w' := by
  have q1 : decide ((key.size : Int) < 1) = false := by simp; omega
  have q2 : decide ((64 : Int) < (key.size : Int)) = false := by simp; omega
  have q3 : decide ((64 : Int) < (one.size : Int)) = false := by simp; omega
  have q4 : decide ((64 : Int) < (two.size : Int)) = false := by simp; omega
  have q5 : decide ((64 : Int) < (three.size : Int)) = false := by simp; omega
  have q6 : (((iN : Int) % 8) == ((kN : Int) % 8)) = false := beq_eq_false_iff_ne.2 (by omega)
  have q7 : decide (((kN : Int) % 8) < ((iN : Int) % 8)) = false := by simp; omega
  have b1 : (0 : Int) ≤ (iN : Int) := by omega
  have b2 : (0 : Int) ≤ (kN : Int) := by omega
  have b3 : (iN : Int) ≤ 255 := by omega
  have b4 : (kN : Int) ≤ 255 := by omega
  have i8 : iN % 8 < 8 := Nat.mod_lt _ (by omega)
  have k8 : kN % 8 < 8 := Nat.mod_lt _ (by omega)
  have HK := Lib.hid hkey
  have HO1 := Lib.hid h1
  have HO2 := Lib.hid h2
  have HO3 := Lib.hid h3
  have HAB := Lib.hid hab
  clear hkey h1 h2 h3 hab
  go_enter Try.func12, Try.ntmps12
  go_upto_region 5 with ((go_at_call 29; refine (putZ _ (iN % 8) i8 ((iN : Int) % 8) (by omega) key one HK.out HO1.out).mono ?_; rintro e w1 ⟨T1, a1, n1, c1, rfl, HT1, hh, hb⟩))
  obtain ⟨V1, hV1⟩ : ∃ V1, V1 = w1.alloc (.cells #[.int .i64 (T1.seen 0 : Int), .int .i64 (T1.seen 1 : Int), .int .i64 (T1.seen 2 : Int), .int .i64 (T1.seen 3 : Int), .int .i64 (T1.seen 4 : Int), .int .i64 (T1.seen 5 : Int), .int .i64 (T1.seen 6 : Int), .int .i64 (T1.seen 7 : Int), .slice a1 n1 c1] 34) := ⟨_, rfl⟩
  have BV1 : Below W.heap.size W V1 := by rw [hV1]; exact below_then hb (box_below _ _)
  have KT1 : TabAt V1 w1.heap.size T1.seen (.slice a1 n1 c1) := by unfold TabAt; rw [hV1]; exact heap_alloc_new _ _
  have JT1 : Held V1 1 T1 a1 n1 := by rw [hV1]; exact hh.keep (box_below _ _)
  rw [← hV1]
  clear hV1 hh hb
  generalize w1.heap.size = D1 at KT1 ⊢
  go_upto_region 6 with ((go_at_call 29; refine (putZ _ (kN % 8) k8 ((kN : Int) % 8) (by omega) key two HK.out HO2.out).mono ?_; rintro e w2 ⟨T2, a2, n2, c2, rfl, HT2, hh, hb⟩))
  obtain ⟨V2, hV2⟩ : ∃ V2, V2 = w2.alloc (.cells #[.int .i64 (T2.seen 0 : Int), .int .i64 (T2.seen 1 : Int), .int .i64 (T2.seen 2 : Int), .int .i64 (T2.seen 3 : Int), .int .i64 (T2.seen 4 : Int), .int .i64 (T2.seen 5 : Int), .int .i64 (T2.seen 6 : Int), .int .i64 (T2.seen 7 : Int), .slice a2 n2 c2] 34) := ⟨_, rfl⟩
  have BV2 : Below V1.heap.size V1 V2 := by rw [hV2]; exact below_then hb (box_below _ _)
  have KT2 : TabAt V2 w2.heap.size T2.seen (.slice a2 n2 c2) := by unfold TabAt; rw [hV2]; exact heap_alloc_new _ _
  have JT2 : Held V2 1 T2 a2 n2 := by rw [hV2]; exact hh.keep (box_below _ _)
  replace KT1 := KT1.keep BV2
  replace JT1 := JT1.keep BV2
  rw [← hV2]
  clear hV2 hh hb
  generalize w2.heap.size = D2 at KT2 ⊢
  obtain ⟨cT10, cT11, cT12, cT13, cT14, cT15, cT16, cT17, cT18⟩ := cell_nine KT1
  obtain ⟨cT20, cT21, cT22, cT23, cT24, cT25, cT26, cT27, cT28⟩ := cell_nine KT2
  go_upto_region 7 with ((go_at_call 31; refine (mergeA _ _ JT1 JT2 (by omega)).mono ?_; rintro e w3 ⟨T3, a3, n3, c3, rfl, HT3, hh, hb⟩))
  clear cT10 cT11 cT12 cT13 cT14 cT15 cT16 cT17 cT18 cT20 cT21 cT22 cT23 cT24 cT25 cT26 cT27 cT28
  obtain ⟨V3, hV3⟩ : ∃ V3, V3 = w3.alloc (.cells #[.int .i64 (T3.seen 0 : Int), .int .i64 (T3.seen 1 : Int), .int .i64 (T3.seen 2 : Int), .int .i64 (T3.seen 3 : Int), .int .i64 (T3.seen 4 : Int), .int .i64 (T3.seen 5 : Int), .int .i64 (T3.seen 6 : Int), .int .i64 (T3.seen 7 : Int), .slice a3 n3 c3] 34) := ⟨_, rfl⟩
  have BV3 : Below V2.heap.size V2 V3 := by rw [hV3]; exact below_then hb (box_below _ _)
  have KT3 : TabAt V3 w3.heap.size T3.seen (.slice a3 n3 c3) := by unfold TabAt; rw [hV3]; exact heap_alloc_new _ _
  have JT3 : Held V3 1 T3 a3 n3 := by rw [hV3]; exact hh.keep (box_below _ _)
  replace KT1 := KT1.keep BV3
  replace KT2 := KT2.keep BV3
  replace JT1 := JT1.keep BV3
  replace JT2 := JT2.keep BV3
  rw [← hV3]
  clear hV3 hh hb
  generalize w3.heap.size = D3 at KT3 ⊢
  have G3 : Got T3 key [one, two] := two_get (hi := i8) (hj := k8) HAB.out HK.out HO1.out HO2.out HT1.out HT2.out HT3.out
  have hroom : room T3.L key = true := room_of_get (by have e : getL T3.L key = [one, two] := G3; rw [e]; simp)
  have HR3 := Lib.hid hroom
  clear hroom
  go_upto_region 10 with fail
  obtain ⟨V4, hV4⟩ : ∃ V4, V4 = V3.alloc (.cells #[.string one, .string two] 9) := ⟨_, rfl⟩
  have BV4 : Below V3.heap.size V3 V4 := by rw [hV4]; exact box_below _ _
  have SW : Sl V4 (some ⟨V3.heap.size, 0, none⟩) 2 [one, two] := by rw [hV4]; exact sl_pair V3 one two _
  rw [← hV4]
  replace KT1 := KT1.keep BV4
  replace JT1 := JT1.keep BV4
  replace KT2 := KT2.keep BV4
  replace JT2 := JT2.keep BV4
  replace KT3 := KT3.keep BV4
  replace JT3 := JT3.keep BV4
  clear hV4
  obtain ⟨cT30, cT31, cT32, cT33, cT34, cT35, cT36, cT37, cT38⟩ := cell_nine KT3
  go_upto_region 11 with ((go_at_call 29; refine (putA c3 JT3 (by omega) (iN % 8) i8 key three HK.out HO3.out HR3.out).mono ?_; rintro e w4 ⟨T4, a4, n4, c4, rfl, HT4, hh, hb⟩))
  clear cT30 cT31 cT32 cT33 cT34 cT35 cT36 cT37 cT38
  obtain ⟨V5, hV5⟩ : ∃ V5, V5 = w4.alloc (.cells #[.int .i64 (T4.seen 0 : Int), .int .i64 (T4.seen 1 : Int), .int .i64 (T4.seen 2 : Int), .int .i64 (T4.seen 3 : Int), .int .i64 (T4.seen 4 : Int), .int .i64 (T4.seen 5 : Int), .int .i64 (T4.seen 6 : Int), .int .i64 (T4.seen 7 : Int), .slice a4 n4 c4] 34) := ⟨_, rfl⟩
  have BV5 : Below V4.heap.size V4 V5 := by rw [hV5]; exact below_then hb (box_below _ _)
  have KT4 : TabAt V5 w4.heap.size T4.seen (.slice a4 n4 c4) := by unfold TabAt; rw [hV5]; exact heap_alloc_new _ _
  have JT4 : Held V5 2 T4 a4 n4 := by rw [hV5]; exact hh.keep (box_below _ _)
  replace KT1 := KT1.keep BV5
  replace KT2 := KT2.keep BV5
  replace KT3 := KT3.keep BV5
  replace JT1 := JT1.keep BV5
  replace JT2 := JT2.keep BV5
  replace JT3 := JT3.keep BV5
  rw [← hV5]
  clear hV5 hh hb
  generalize w4.heap.size = D4 at KT4 ⊢
  replace SW := SW.keep BV5
  have G4 : Got T4 key [three] := by rw [HT4.out]; exact get_put T3 _ i8 key three
  have hlast := last_left (hi := i8) JT1.ok JT2.ok HK.out HO3.out HT3.out HT4.out
  have HL1 : Hid (Got (merT T4 T1) key [three]) := Lib.hid (by rw [hlast.1]; exact G4)
  have HL2 : Hid (Got (merT T2 T4) key [three]) := Lib.hid (by rw [hlast.2]; exact G4)
  clear hlast
  replace JT1 := JT1.more (show 1 ≤ 2 by omega)
  replace JT2 := JT2.more (show 1 ≤ 2 by omega)
  go_upto_region 12 with fail
  obtain ⟨V6, hV6⟩ : ∃ V6, V6 = V5.alloc (.cells #[.string three] 9) := ⟨_, rfl⟩
  have BV6 : Below V5.heap.size V5 V6 := by rw [hV6]; exact box_below _ _
  have SL : Sl V6 (some ⟨V5.heap.size, 0, none⟩) 1 [three] := by rw [hV6]; exact sl_one V5 three _
  rw [← hV6]
  clear hV6
  replace SW := SW.keep BV6
  replace KT1 := KT1.keep BV6
  replace KT2 := KT2.keep BV6
  replace KT3 := KT3.keep BV6
  replace KT4 := KT4.keep BV6
  replace JT1 := JT1.keep BV6
  replace JT2 := JT2.keep BV6
  replace JT3 := (JT3.keep BV6).more (show 1 ≤ 2 by omega)
  replace JT4 := JT4.keep BV6
  generalize V5.heap.size = DL at SL ⊢
  have BW := Lib.hid (BV1.trans ((BV2.trans ((BV3.trans ((BV4.trans ((BV5.trans (BV6.mono BV5.size)).mono BV4.size)).mono BV3.size)).mono BV2.size)).mono BV1.size))
  clear BV1 BV2 BV3 BV4 BV5 BV6
  have le2 : 2 ≤ 40000 := by omega
  have le1' : 1 ≤ 900000 := by omega
  have le2' : 2 ≤ 900000 := by omega
  obtain ⟨cT10, cT11, cT12, cT13, cT14, cT15, cT16, cT17, cT18⟩ := cell_nine KT1
  obtain ⟨cT20, cT21, cT22, cT23, cT24, cT25, cT26, cT27, cT28⟩ := cell_nine KT2
  obtain ⟨cT30, cT31, cT32, cT33, cT34, cT35, cT36, cT37, cT38⟩ := cell_nine KT3
  obtain ⟨cT40, cT41, cT42, cT43, cT44, cT45, cT46, cT47, cT48⟩ := cell_nine KT4
  go_wp2_with (first
    | (go_at_call 18; (with_reducible refine (getK _ J6 le2 key _ G6 1 (len_one _)).mono ?_); rintro e w' ⟨ar, cr, rfl, hs, hb⟩; clear cT10 cT11 cT12 cT13 cT14 cT15 cT16 cT17 cT18 cT20 cT21 cT22 cT23 cT24 cT25 cT26 cT27 cT28 cT30 cT31 cT32 cT33 cT34 cT35 cT36 cT37 cT38 cT40 cT41 cT42 cT43 cT44 cT45 cT46 cT47 cT48; replace KT1 := KT1.keep hb; replace JT1 := JT1.keep hb; obtain ⟨cT10, cT11, cT12, cT13, cT14, cT15, cT16, cT17, cT18⟩ := cell_nine KT1; replace KT2 := KT2.keep hb; replace JT2 := JT2.keep hb; obtain ⟨cT20, cT21, cT22, cT23, cT24, cT25, cT26, cT27, cT28⟩ := cell_nine KT2; replace KT3 := KT3.keep hb; replace JT3 := JT3.keep hb; obtain ⟨cT30, cT31, cT32, cT33, cT34, cT35, cT36, cT37, cT38⟩ := cell_nine KT3; replace KT4 := KT4.keep hb; replace JT4 := JT4.keep hb; obtain ⟨cT40, cT41, cT42, cT43, cT44, cT45, cT46, cT47, cT48⟩ := cell_nine KT4; replace SW := SW.keep hb; replace SL := SL.keep hb; replace BW := Lib.hid (BW.out.trans (hb.mono BW.out.size)); clear hb J6)
    | (go_at_call 31; have _t := J5; (with_reducible refine (mergeA _ _ JT2 JT4 le2).mono ?_); rintro e w' ⟨T6, a6, n6, c6, rfl, HT6, J6, hb⟩; have G6 := got_eq HT6.out HL2.out; clear cT10 cT11 cT12 cT13 cT14 cT15 cT16 cT17 cT18 cT20 cT21 cT22 cT23 cT24 cT25 cT26 cT27 cT28 cT30 cT31 cT32 cT33 cT34 cT35 cT36 cT37 cT38 cT40 cT41 cT42 cT43 cT44 cT45 cT46 cT47 cT48; replace KT1 := KT1.keep hb; replace JT1 := JT1.keep hb; obtain ⟨cT10, cT11, cT12, cT13, cT14, cT15, cT16, cT17, cT18⟩ := cell_nine KT1; replace KT2 := KT2.keep hb; replace JT2 := JT2.keep hb; obtain ⟨cT20, cT21, cT22, cT23, cT24, cT25, cT26, cT27, cT28⟩ := cell_nine KT2; replace KT3 := KT3.keep hb; replace JT3 := JT3.keep hb; obtain ⟨cT30, cT31, cT32, cT33, cT34, cT35, cT36, cT37, cT38⟩ := cell_nine KT3; replace KT4 := KT4.keep hb; replace JT4 := JT4.keep hb; obtain ⟨cT40, cT41, cT42, cT43, cT44, cT45, cT46, cT47, cT48⟩ := cell_nine KT4; replace SW := SW.keep hb; replace SL := SL.keep hb; replace BW := Lib.hid (BW.out.trans (hb.mono BW.out.size)); clear hb HT6)
    | (go_at_call 18; (with_reducible refine (getK _ J5 le2 key _ G5 1 (len_one _)).mono ?_); rintro e w' ⟨ar, cr, rfl, hs, hb⟩; clear cT10 cT11 cT12 cT13 cT14 cT15 cT16 cT17 cT18 cT20 cT21 cT22 cT23 cT24 cT25 cT26 cT27 cT28 cT30 cT31 cT32 cT33 cT34 cT35 cT36 cT37 cT38 cT40 cT41 cT42 cT43 cT44 cT45 cT46 cT47 cT48; replace KT1 := KT1.keep hb; replace JT1 := JT1.keep hb; obtain ⟨cT10, cT11, cT12, cT13, cT14, cT15, cT16, cT17, cT18⟩ := cell_nine KT1; replace KT2 := KT2.keep hb; replace JT2 := JT2.keep hb; obtain ⟨cT20, cT21, cT22, cT23, cT24, cT25, cT26, cT27, cT28⟩ := cell_nine KT2; replace KT3 := KT3.keep hb; replace JT3 := JT3.keep hb; obtain ⟨cT30, cT31, cT32, cT33, cT34, cT35, cT36, cT37, cT38⟩ := cell_nine KT3; replace KT4 := KT4.keep hb; replace JT4 := JT4.keep hb; obtain ⟨cT40, cT41, cT42, cT43, cT44, cT45, cT46, cT47, cT48⟩ := cell_nine KT4; replace SW := SW.keep hb; replace SL := SL.keep hb; replace J5 := J5.keep hb; replace BW := Lib.hid (BW.out.trans (hb.mono BW.out.size)); clear hb)
    | (go_at_call 31; (with_reducible refine (mergeA _ _ JT4 JT1 le2).mono ?_); rintro e w' ⟨T5, a5, n5, c5, rfl, HT5, J5, hb⟩; have G5 := got_eq HT5.out HL1.out; clear cT10 cT11 cT12 cT13 cT14 cT15 cT16 cT17 cT18 cT20 cT21 cT22 cT23 cT24 cT25 cT26 cT27 cT28 cT30 cT31 cT32 cT33 cT34 cT35 cT36 cT37 cT38 cT40 cT41 cT42 cT43 cT44 cT45 cT46 cT47 cT48; replace KT1 := KT1.keep hb; replace JT1 := JT1.keep hb; obtain ⟨cT10, cT11, cT12, cT13, cT14, cT15, cT16, cT17, cT18⟩ := cell_nine KT1; replace KT2 := KT2.keep hb; replace JT2 := JT2.keep hb; obtain ⟨cT20, cT21, cT22, cT23, cT24, cT25, cT26, cT27, cT28⟩ := cell_nine KT2; replace KT3 := KT3.keep hb; replace JT3 := JT3.keep hb; obtain ⟨cT30, cT31, cT32, cT33, cT34, cT35, cT36, cT37, cT38⟩ := cell_nine KT3; replace KT4 := KT4.keep hb; replace JT4 := JT4.keep hb; obtain ⟨cT40, cT41, cT42, cT43, cT44, cT45, cT46, cT47, cT48⟩ := cell_nine KT4; replace SW := SW.keep hb; replace SL := SL.keep hb; replace BW := Lib.hid (BW.out.trans (hb.mono BW.out.size)); clear hb HT5)
    | (go_at_call 18; (with_reducible refine (getK _ JT4 le2 key _ G4 1 (len_one _)).mono ?_); rintro e w' ⟨ar, cr, rfl, hs, hb⟩; clear cT10 cT11 cT12 cT13 cT14 cT15 cT16 cT17 cT18 cT20 cT21 cT22 cT23 cT24 cT25 cT26 cT27 cT28 cT30 cT31 cT32 cT33 cT34 cT35 cT36 cT37 cT38 cT40 cT41 cT42 cT43 cT44 cT45 cT46 cT47 cT48; replace KT1 := KT1.keep hb; replace JT1 := JT1.keep hb; obtain ⟨cT10, cT11, cT12, cT13, cT14, cT15, cT16, cT17, cT18⟩ := cell_nine KT1; replace KT2 := KT2.keep hb; replace JT2 := JT2.keep hb; obtain ⟨cT20, cT21, cT22, cT23, cT24, cT25, cT26, cT27, cT28⟩ := cell_nine KT2; replace KT3 := KT3.keep hb; replace JT3 := JT3.keep hb; obtain ⟨cT30, cT31, cT32, cT33, cT34, cT35, cT36, cT37, cT38⟩ := cell_nine KT3; replace KT4 := KT4.keep hb; replace JT4 := JT4.keep hb; obtain ⟨cT40, cT41, cT42, cT43, cT44, cT45, cT46, cT47, cT48⟩ := cell_nine KT4; replace SW := SW.keep hb; replace SL := SL.keep hb; replace BW := Lib.hid (BW.out.trans (hb.mono BW.out.size)); clear hb)
    | (go_at_call 18; (with_reducible refine (getK _ JT3 le2 key _ G3 2 (len_two _ _)).mono ?_); rintro e w' ⟨ar, cr, rfl, hs, hb⟩; clear cT10 cT11 cT12 cT13 cT14 cT15 cT16 cT17 cT18 cT20 cT21 cT22 cT23 cT24 cT25 cT26 cT27 cT28 cT30 cT31 cT32 cT33 cT34 cT35 cT36 cT37 cT38 cT40 cT41 cT42 cT43 cT44 cT45 cT46 cT47 cT48; replace KT1 := KT1.keep hb; replace JT1 := JT1.keep hb; obtain ⟨cT10, cT11, cT12, cT13, cT14, cT15, cT16, cT17, cT18⟩ := cell_nine KT1; replace KT2 := KT2.keep hb; replace JT2 := JT2.keep hb; obtain ⟨cT20, cT21, cT22, cT23, cT24, cT25, cT26, cT27, cT28⟩ := cell_nine KT2; replace KT3 := KT3.keep hb; replace JT3 := JT3.keep hb; obtain ⟨cT30, cT31, cT32, cT33, cT34, cT35, cT36, cT37, cT38⟩ := cell_nine KT3; replace KT4 := KT4.keep hb; replace JT4 := JT4.keep hb; obtain ⟨cT40, cT41, cT42, cT43, cT44, cT45, cT46, cT47, cT48⟩ := cell_nine KT4; replace SW := SW.keep hb; replace SL := SL.keep hb; replace BW := Lib.hid (BW.out.trans (hb.mono BW.out.size)); clear hb)
    | (go_at_call 17; (first | (with_reducible refine (strings_same _ _ _ _ _ _ _ hs SL le1').mono ?_) | (with_reducible refine (strings_same _ _ _ _ _ _ _ hs SW le2').mono ?_)); rintro e w' ⟨rfl, hb⟩; clear cT10 cT11 cT12 cT13 cT14 cT15 cT16 cT17 cT18 cT20 cT21 cT22 cT23 cT24 cT25 cT26 cT27 cT28 cT30 cT31 cT32 cT33 cT34 cT35 cT36 cT37 cT38 cT40 cT41 cT42 cT43 cT44 cT45 cT46 cT47 cT48; replace KT1 := KT1.keep hb; replace JT1 := JT1.keep hb; obtain ⟨cT10, cT11, cT12, cT13, cT14, cT15, cT16, cT17, cT18⟩ := cell_nine KT1; replace KT2 := KT2.keep hb; replace JT2 := JT2.keep hb; obtain ⟨cT20, cT21, cT22, cT23, cT24, cT25, cT26, cT27, cT28⟩ := cell_nine KT2; replace KT3 := KT3.keep hb; replace JT3 := JT3.keep hb; obtain ⟨cT30, cT31, cT32, cT33, cT34, cT35, cT36, cT37, cT38⟩ := cell_nine KT3; replace KT4 := KT4.keep hb; replace JT4 := JT4.keep hb; obtain ⟨cT40, cT41, cT42, cT43, cT44, cT45, cT46, cT47, cT48⟩ := cell_nine KT4; replace SW := SW.keep hb; replace SL := SL.keep hb; replace BW := Lib.hid (BW.out.trans (hb.mono BW.out.size)); clear hb hs)
    | (go_at_call 14; refine (awake_any _).mono ?_; rintro e w' ⟨rfl, hb⟩; replace BW := Lib.hid (BW.out.trans (hb.mono BW.out.size)); clear hb))
  go_ret
  exact ⟨rfl, BW.out⟩


set_option maxRecDepth 100000 in
set_option maxHeartbeats 16000000 in
theorem both_gt (key one two three : ByteArray) (iN kN : Nat) (W : World) (hi : iN ≤ 255) (hk : kN ≤ 255) (hkey : 1 ≤ key.size ∧ key.size ≤ 64) (h1 : one.size ≤ 64) (h2 : two.size ≤ 64) (h3 : three.size ≤ 64) (hab : kN % 8 < iN % 8) :
    Calls Try.prog 12 #[.string key, .string one, .string two, .string three, .int .u8 (iN : Int), .int .u8 (kN : Int)] W fun e w' => e = .returned (.bool true) ∧ Below W.heap.size W w' := by
  have q1 : decide ((key.size : Int) < 1) = false := by simp; omega
  have q2 : decide ((64 : Int) < (key.size : Int)) = false := by simp; omega
  have q3 : decide ((64 : Int) < (one.size : Int)) = false := by simp; omega
  have q4 : decide ((64 : Int) < (two.size : Int)) = false := by simp; omega
  have q5 : decide ((64 : Int) < (three.size : Int)) = false := by simp; omega
  have q6 : (((iN : Int) % 8) == ((kN : Int) % 8)) = false := beq_eq_false_iff_ne.2 (by omega)
  have q7 : decide (((kN : Int) % 8) < ((iN : Int) % 8)) = true := by simp; omega
  have b1 : (0 : Int) ≤ (iN : Int) := by omega
  have b2 : (0 : Int) ≤ (kN : Int) := by omega
  have b3 : (iN : Int) ≤ 255 := by omega
  have b4 : (kN : Int) ≤ 255 := by omega
  have i8 : iN % 8 < 8 := Nat.mod_lt _ (by omega)
  have k8 : kN % 8 < 8 := Nat.mod_lt _ (by omega)
  have HK := Lib.hid hkey
  have HO1 := Lib.hid h1
  have HO2 := Lib.hid h2
  have HO3 := Lib.hid h3
  have HAB := Lib.hid hab
  clear hkey h1 h2 h3 hab
  go_enter Try.func12, Try.ntmps12
  go_upto_region 5 with ((go_at_call 29; refine (putZ _ (iN % 8) i8 ((iN : Int) % 8) (by omega) key one HK.out HO1.out).mono ?_; rintro e w1 ⟨T1, a1, n1, c1, rfl, HT1, hh, hb⟩))
  obtain ⟨V1, hV1⟩ : ∃ V1, V1 = w1.alloc (.cells #[.int .i64 (T1.seen 0 : Int), .int .i64 (T1.seen 1 : Int), .int .i64 (T1.seen 2 : Int), .int .i64 (T1.seen 3 : Int), .int .i64 (T1.seen 4 : Int), .int .i64 (T1.seen 5 : Int), .int .i64 (T1.seen 6 : Int), .int .i64 (T1.seen 7 : Int), .slice a1 n1 c1] 34) := ⟨_, rfl⟩
  have BV1 : Below W.heap.size W V1 := by rw [hV1]; exact below_then hb (box_below _ _)
  have KT1 : TabAt V1 w1.heap.size T1.seen (.slice a1 n1 c1) := by unfold TabAt; rw [hV1]; exact heap_alloc_new _ _
  have JT1 : Held V1 1 T1 a1 n1 := by rw [hV1]; exact hh.keep (box_below _ _)
  rw [← hV1]
  clear hV1 hh hb
  generalize w1.heap.size = D1 at KT1 ⊢
  go_upto_region 6 with ((go_at_call 29; refine (putZ _ (kN % 8) k8 ((kN : Int) % 8) (by omega) key two HK.out HO2.out).mono ?_; rintro e w2 ⟨T2, a2, n2, c2, rfl, HT2, hh, hb⟩))
  obtain ⟨V2, hV2⟩ : ∃ V2, V2 = w2.alloc (.cells #[.int .i64 (T2.seen 0 : Int), .int .i64 (T2.seen 1 : Int), .int .i64 (T2.seen 2 : Int), .int .i64 (T2.seen 3 : Int), .int .i64 (T2.seen 4 : Int), .int .i64 (T2.seen 5 : Int), .int .i64 (T2.seen 6 : Int), .int .i64 (T2.seen 7 : Int), .slice a2 n2 c2] 34) := ⟨_, rfl⟩
  have BV2 : Below V1.heap.size V1 V2 := by rw [hV2]; exact below_then hb (box_below _ _)
  have KT2 : TabAt V2 w2.heap.size T2.seen (.slice a2 n2 c2) := by unfold TabAt; rw [hV2]; exact heap_alloc_new _ _
  have JT2 : Held V2 1 T2 a2 n2 := by rw [hV2]; exact hh.keep (box_below _ _)
  replace KT1 := KT1.keep BV2
  replace JT1 := JT1.keep BV2
  rw [← hV2]
  clear hV2 hh hb
  generalize w2.heap.size = D2 at KT2 ⊢
  obtain ⟨cT10, cT11, cT12, cT13, cT14, cT15, cT16, cT17, cT18⟩ := cell_nine KT1
  obtain ⟨cT20, cT21, cT22, cT23, cT24, cT25, cT26, cT27, cT28⟩ := cell_nine KT2
  go_upto_region 7 with ((go_at_call 31; refine (mergeA _ _ JT1 JT2 (by omega)).mono ?_; rintro e w3 ⟨T3, a3, n3, c3, rfl, HT3, hh, hb⟩))
  clear cT10 cT11 cT12 cT13 cT14 cT15 cT16 cT17 cT18 cT20 cT21 cT22 cT23 cT24 cT25 cT26 cT27 cT28
  obtain ⟨V3, hV3⟩ : ∃ V3, V3 = w3.alloc (.cells #[.int .i64 (T3.seen 0 : Int), .int .i64 (T3.seen 1 : Int), .int .i64 (T3.seen 2 : Int), .int .i64 (T3.seen 3 : Int), .int .i64 (T3.seen 4 : Int), .int .i64 (T3.seen 5 : Int), .int .i64 (T3.seen 6 : Int), .int .i64 (T3.seen 7 : Int), .slice a3 n3 c3] 34) := ⟨_, rfl⟩
  have BV3 : Below V2.heap.size V2 V3 := by rw [hV3]; exact below_then hb (box_below _ _)
  have KT3 : TabAt V3 w3.heap.size T3.seen (.slice a3 n3 c3) := by unfold TabAt; rw [hV3]; exact heap_alloc_new _ _
  have JT3 : Held V3 1 T3 a3 n3 := by rw [hV3]; exact hh.keep (box_below _ _)
  replace KT1 := KT1.keep BV3
  replace KT2 := KT2.keep BV3
  replace JT1 := JT1.keep BV3
  replace JT2 := JT2.keep BV3
  rw [← hV3]
  clear hV3 hh hb
  generalize w3.heap.size = D3 at KT3 ⊢
  have G3 : Got T3 key [two, one] := two_get' (hi := i8) (hj := k8) HAB.out HK.out HO1.out HO2.out HT1.out HT2.out HT3.out
  have hroom : room T3.L key = true := room_of_get (by have e : getL T3.L key = [two, one] := G3; rw [e]; simp)
  have HR3 := Lib.hid hroom
  clear hroom
  go_upto_region 10 with fail
  obtain ⟨V4, hV4⟩ : ∃ V4, V4 = (V3.alloc (.cells #[.string one, .string two] 9)).alloc (.cells #[.string two, .string one] 9) := ⟨_, rfl⟩
  have BV4 : Below V3.heap.size V3 V4 := by rw [hV4]; exact below2 V3 _ _
  have SW : Sl V4 (some ⟨V3.heap.size + 1, 0, none⟩) 2 [two, one] := by rw [hV4]; have h := sl_pair (V3.alloc (.cells #[.string one, .string two] 9)) two one 9; rwa [World.size_alloc] at h
  rw [← hV4]
  replace KT1 := KT1.keep BV4
  replace JT1 := JT1.keep BV4
  replace KT2 := KT2.keep BV4
  replace JT2 := JT2.keep BV4
  replace KT3 := KT3.keep BV4
  replace JT3 := JT3.keep BV4
  clear hV4
  obtain ⟨cT30, cT31, cT32, cT33, cT34, cT35, cT36, cT37, cT38⟩ := cell_nine KT3
  go_upto_region 11 with ((go_at_call 29; refine (putA c3 JT3 (by omega) (iN % 8) i8 key three HK.out HO3.out HR3.out).mono ?_; rintro e w4 ⟨T4, a4, n4, c4, rfl, HT4, hh, hb⟩))
  clear cT30 cT31 cT32 cT33 cT34 cT35 cT36 cT37 cT38
  obtain ⟨V5, hV5⟩ : ∃ V5, V5 = w4.alloc (.cells #[.int .i64 (T4.seen 0 : Int), .int .i64 (T4.seen 1 : Int), .int .i64 (T4.seen 2 : Int), .int .i64 (T4.seen 3 : Int), .int .i64 (T4.seen 4 : Int), .int .i64 (T4.seen 5 : Int), .int .i64 (T4.seen 6 : Int), .int .i64 (T4.seen 7 : Int), .slice a4 n4 c4] 34) := ⟨_, rfl⟩
  have BV5 : Below V4.heap.size V4 V5 := by rw [hV5]; exact below_then hb (box_below _ _)
  have KT4 : TabAt V5 w4.heap.size T4.seen (.slice a4 n4 c4) := by unfold TabAt; rw [hV5]; exact heap_alloc_new _ _
  have JT4 : Held V5 2 T4 a4 n4 := by rw [hV5]; exact hh.keep (box_below _ _)
  replace KT1 := KT1.keep BV5
  replace KT2 := KT2.keep BV5
  replace KT3 := KT3.keep BV5
  replace JT1 := JT1.keep BV5
  replace JT2 := JT2.keep BV5
  replace JT3 := JT3.keep BV5
  rw [← hV5]
  clear hV5 hh hb
  generalize w4.heap.size = D4 at KT4 ⊢
  replace SW := SW.keep BV5
  have G4 : Got T4 key [three] := by rw [HT4.out]; exact get_put T3 _ i8 key three
  have hlast := last_left (hi := i8) JT1.ok JT2.ok HK.out HO3.out HT3.out HT4.out
  have HL1 : Hid (Got (merT T4 T1) key [three]) := Lib.hid (by rw [hlast.1]; exact G4)
  have HL2 : Hid (Got (merT T2 T4) key [three]) := Lib.hid (by rw [hlast.2]; exact G4)
  clear hlast
  replace JT1 := JT1.more (show 1 ≤ 2 by omega)
  replace JT2 := JT2.more (show 1 ≤ 2 by omega)
  go_upto_region 12 with fail
  obtain ⟨V6, hV6⟩ : ∃ V6, V6 = V5.alloc (.cells #[.string three] 9) := ⟨_, rfl⟩
  have BV6 : Below V5.heap.size V5 V6 := by rw [hV6]; exact box_below _ _
  have SL : Sl V6 (some ⟨V5.heap.size, 0, none⟩) 1 [three] := by rw [hV6]; exact sl_one V5 three _
  rw [← hV6]
  clear hV6
  replace SW := SW.keep BV6
  replace KT1 := KT1.keep BV6
  replace KT2 := KT2.keep BV6
  replace KT3 := KT3.keep BV6
  replace KT4 := KT4.keep BV6
  replace JT1 := JT1.keep BV6
  replace JT2 := JT2.keep BV6
  replace JT3 := (JT3.keep BV6).more (show 1 ≤ 2 by omega)
  replace JT4 := JT4.keep BV6
  generalize V5.heap.size = DL at SL ⊢
  have BW := Lib.hid (BV1.trans ((BV2.trans ((BV3.trans ((BV4.trans ((BV5.trans (BV6.mono BV5.size)).mono BV4.size)).mono BV3.size)).mono BV2.size)).mono BV1.size))
  clear BV1 BV2 BV3 BV4 BV5 BV6
  have le2 : 2 ≤ 40000 := by omega
  have le1' : 1 ≤ 900000 := by omega
  have le2' : 2 ≤ 900000 := by omega
  obtain ⟨cT10, cT11, cT12, cT13, cT14, cT15, cT16, cT17, cT18⟩ := cell_nine KT1
  obtain ⟨cT20, cT21, cT22, cT23, cT24, cT25, cT26, cT27, cT28⟩ := cell_nine KT2
  obtain ⟨cT30, cT31, cT32, cT33, cT34, cT35, cT36, cT37, cT38⟩ := cell_nine KT3
  obtain ⟨cT40, cT41, cT42, cT43, cT44, cT45, cT46, cT47, cT48⟩ := cell_nine KT4
  go_wp2_with (first
    | (go_at_call 18; (with_reducible refine (getK _ J6 le2 key _ G6 1 (len_one _)).mono ?_); rintro e w' ⟨ar, cr, rfl, hs, hb⟩; clear cT10 cT11 cT12 cT13 cT14 cT15 cT16 cT17 cT18 cT20 cT21 cT22 cT23 cT24 cT25 cT26 cT27 cT28 cT30 cT31 cT32 cT33 cT34 cT35 cT36 cT37 cT38 cT40 cT41 cT42 cT43 cT44 cT45 cT46 cT47 cT48; replace KT1 := KT1.keep hb; replace JT1 := JT1.keep hb; obtain ⟨cT10, cT11, cT12, cT13, cT14, cT15, cT16, cT17, cT18⟩ := cell_nine KT1; replace KT2 := KT2.keep hb; replace JT2 := JT2.keep hb; obtain ⟨cT20, cT21, cT22, cT23, cT24, cT25, cT26, cT27, cT28⟩ := cell_nine KT2; replace KT3 := KT3.keep hb; replace JT3 := JT3.keep hb; obtain ⟨cT30, cT31, cT32, cT33, cT34, cT35, cT36, cT37, cT38⟩ := cell_nine KT3; replace KT4 := KT4.keep hb; replace JT4 := JT4.keep hb; obtain ⟨cT40, cT41, cT42, cT43, cT44, cT45, cT46, cT47, cT48⟩ := cell_nine KT4; replace SW := SW.keep hb; replace SL := SL.keep hb; replace BW := Lib.hid (BW.out.trans (hb.mono BW.out.size)); clear hb J6)
    | (go_at_call 31; have _t := J5; (with_reducible refine (mergeA _ _ JT2 JT4 le2).mono ?_); rintro e w' ⟨T6, a6, n6, c6, rfl, HT6, J6, hb⟩; have G6 := got_eq HT6.out HL2.out; clear cT10 cT11 cT12 cT13 cT14 cT15 cT16 cT17 cT18 cT20 cT21 cT22 cT23 cT24 cT25 cT26 cT27 cT28 cT30 cT31 cT32 cT33 cT34 cT35 cT36 cT37 cT38 cT40 cT41 cT42 cT43 cT44 cT45 cT46 cT47 cT48; replace KT1 := KT1.keep hb; replace JT1 := JT1.keep hb; obtain ⟨cT10, cT11, cT12, cT13, cT14, cT15, cT16, cT17, cT18⟩ := cell_nine KT1; replace KT2 := KT2.keep hb; replace JT2 := JT2.keep hb; obtain ⟨cT20, cT21, cT22, cT23, cT24, cT25, cT26, cT27, cT28⟩ := cell_nine KT2; replace KT3 := KT3.keep hb; replace JT3 := JT3.keep hb; obtain ⟨cT30, cT31, cT32, cT33, cT34, cT35, cT36, cT37, cT38⟩ := cell_nine KT3; replace KT4 := KT4.keep hb; replace JT4 := JT4.keep hb; obtain ⟨cT40, cT41, cT42, cT43, cT44, cT45, cT46, cT47, cT48⟩ := cell_nine KT4; replace SW := SW.keep hb; replace SL := SL.keep hb; replace BW := Lib.hid (BW.out.trans (hb.mono BW.out.size)); clear hb HT6)
    | (go_at_call 18; (with_reducible refine (getK _ J5 le2 key _ G5 1 (len_one _)).mono ?_); rintro e w' ⟨ar, cr, rfl, hs, hb⟩; clear cT10 cT11 cT12 cT13 cT14 cT15 cT16 cT17 cT18 cT20 cT21 cT22 cT23 cT24 cT25 cT26 cT27 cT28 cT30 cT31 cT32 cT33 cT34 cT35 cT36 cT37 cT38 cT40 cT41 cT42 cT43 cT44 cT45 cT46 cT47 cT48; replace KT1 := KT1.keep hb; replace JT1 := JT1.keep hb; obtain ⟨cT10, cT11, cT12, cT13, cT14, cT15, cT16, cT17, cT18⟩ := cell_nine KT1; replace KT2 := KT2.keep hb; replace JT2 := JT2.keep hb; obtain ⟨cT20, cT21, cT22, cT23, cT24, cT25, cT26, cT27, cT28⟩ := cell_nine KT2; replace KT3 := KT3.keep hb; replace JT3 := JT3.keep hb; obtain ⟨cT30, cT31, cT32, cT33, cT34, cT35, cT36, cT37, cT38⟩ := cell_nine KT3; replace KT4 := KT4.keep hb; replace JT4 := JT4.keep hb; obtain ⟨cT40, cT41, cT42, cT43, cT44, cT45, cT46, cT47, cT48⟩ := cell_nine KT4; replace SW := SW.keep hb; replace SL := SL.keep hb; replace J5 := J5.keep hb; replace BW := Lib.hid (BW.out.trans (hb.mono BW.out.size)); clear hb)
    | (go_at_call 31; (with_reducible refine (mergeA _ _ JT4 JT1 le2).mono ?_); rintro e w' ⟨T5, a5, n5, c5, rfl, HT5, J5, hb⟩; have G5 := got_eq HT5.out HL1.out; clear cT10 cT11 cT12 cT13 cT14 cT15 cT16 cT17 cT18 cT20 cT21 cT22 cT23 cT24 cT25 cT26 cT27 cT28 cT30 cT31 cT32 cT33 cT34 cT35 cT36 cT37 cT38 cT40 cT41 cT42 cT43 cT44 cT45 cT46 cT47 cT48; replace KT1 := KT1.keep hb; replace JT1 := JT1.keep hb; obtain ⟨cT10, cT11, cT12, cT13, cT14, cT15, cT16, cT17, cT18⟩ := cell_nine KT1; replace KT2 := KT2.keep hb; replace JT2 := JT2.keep hb; obtain ⟨cT20, cT21, cT22, cT23, cT24, cT25, cT26, cT27, cT28⟩ := cell_nine KT2; replace KT3 := KT3.keep hb; replace JT3 := JT3.keep hb; obtain ⟨cT30, cT31, cT32, cT33, cT34, cT35, cT36, cT37, cT38⟩ := cell_nine KT3; replace KT4 := KT4.keep hb; replace JT4 := JT4.keep hb; obtain ⟨cT40, cT41, cT42, cT43, cT44, cT45, cT46, cT47, cT48⟩ := cell_nine KT4; replace SW := SW.keep hb; replace SL := SL.keep hb; replace BW := Lib.hid (BW.out.trans (hb.mono BW.out.size)); clear hb HT5)
    | (go_at_call 18; (with_reducible refine (getK _ JT4 le2 key _ G4 1 (len_one _)).mono ?_); rintro e w' ⟨ar, cr, rfl, hs, hb⟩; clear cT10 cT11 cT12 cT13 cT14 cT15 cT16 cT17 cT18 cT20 cT21 cT22 cT23 cT24 cT25 cT26 cT27 cT28 cT30 cT31 cT32 cT33 cT34 cT35 cT36 cT37 cT38 cT40 cT41 cT42 cT43 cT44 cT45 cT46 cT47 cT48; replace KT1 := KT1.keep hb; replace JT1 := JT1.keep hb; obtain ⟨cT10, cT11, cT12, cT13, cT14, cT15, cT16, cT17, cT18⟩ := cell_nine KT1; replace KT2 := KT2.keep hb; replace JT2 := JT2.keep hb; obtain ⟨cT20, cT21, cT22, cT23, cT24, cT25, cT26, cT27, cT28⟩ := cell_nine KT2; replace KT3 := KT3.keep hb; replace JT3 := JT3.keep hb; obtain ⟨cT30, cT31, cT32, cT33, cT34, cT35, cT36, cT37, cT38⟩ := cell_nine KT3; replace KT4 := KT4.keep hb; replace JT4 := JT4.keep hb; obtain ⟨cT40, cT41, cT42, cT43, cT44, cT45, cT46, cT47, cT48⟩ := cell_nine KT4; replace SW := SW.keep hb; replace SL := SL.keep hb; replace BW := Lib.hid (BW.out.trans (hb.mono BW.out.size)); clear hb)
    | (go_at_call 18; (with_reducible refine (getK _ JT3 le2 key _ G3 2 (len_two _ _)).mono ?_); rintro e w' ⟨ar, cr, rfl, hs, hb⟩; clear cT10 cT11 cT12 cT13 cT14 cT15 cT16 cT17 cT18 cT20 cT21 cT22 cT23 cT24 cT25 cT26 cT27 cT28 cT30 cT31 cT32 cT33 cT34 cT35 cT36 cT37 cT38 cT40 cT41 cT42 cT43 cT44 cT45 cT46 cT47 cT48; replace KT1 := KT1.keep hb; replace JT1 := JT1.keep hb; obtain ⟨cT10, cT11, cT12, cT13, cT14, cT15, cT16, cT17, cT18⟩ := cell_nine KT1; replace KT2 := KT2.keep hb; replace JT2 := JT2.keep hb; obtain ⟨cT20, cT21, cT22, cT23, cT24, cT25, cT26, cT27, cT28⟩ := cell_nine KT2; replace KT3 := KT3.keep hb; replace JT3 := JT3.keep hb; obtain ⟨cT30, cT31, cT32, cT33, cT34, cT35, cT36, cT37, cT38⟩ := cell_nine KT3; replace KT4 := KT4.keep hb; replace JT4 := JT4.keep hb; obtain ⟨cT40, cT41, cT42, cT43, cT44, cT45, cT46, cT47, cT48⟩ := cell_nine KT4; replace SW := SW.keep hb; replace SL := SL.keep hb; replace BW := Lib.hid (BW.out.trans (hb.mono BW.out.size)); clear hb)
    | (go_at_call 17; (first | (with_reducible refine (strings_same _ _ _ _ _ _ _ hs SL le1').mono ?_) | (with_reducible refine (strings_same _ _ _ _ _ _ _ hs SW le2').mono ?_)); rintro e w' ⟨rfl, hb⟩; clear cT10 cT11 cT12 cT13 cT14 cT15 cT16 cT17 cT18 cT20 cT21 cT22 cT23 cT24 cT25 cT26 cT27 cT28 cT30 cT31 cT32 cT33 cT34 cT35 cT36 cT37 cT38 cT40 cT41 cT42 cT43 cT44 cT45 cT46 cT47 cT48; replace KT1 := KT1.keep hb; replace JT1 := JT1.keep hb; obtain ⟨cT10, cT11, cT12, cT13, cT14, cT15, cT16, cT17, cT18⟩ := cell_nine KT1; replace KT2 := KT2.keep hb; replace JT2 := JT2.keep hb; obtain ⟨cT20, cT21, cT22, cT23, cT24, cT25, cT26, cT27, cT28⟩ := cell_nine KT2; replace KT3 := KT3.keep hb; replace JT3 := JT3.keep hb; obtain ⟨cT30, cT31, cT32, cT33, cT34, cT35, cT36, cT37, cT38⟩ := cell_nine KT3; replace KT4 := KT4.keep hb; replace JT4 := JT4.keep hb; obtain ⟨cT40, cT41, cT42, cT43, cT44, cT45, cT46, cT47, cT48⟩ := cell_nine KT4; replace SW := SW.keep hb; replace SL := SL.keep hb; replace BW := Lib.hid (BW.out.trans (hb.mono BW.out.size)); clear hb hs)
    | (go_at_call 14; refine (awake_any _).mono ?_; rintro e w' ⟨rfl, hb⟩; replace BW := Lib.hid (BW.out.trans (hb.mono BW.out.size)); clear hb))
  go_ret
  exact ⟨rfl, BW.out⟩

theorem both_walk (key one two three : ByteArray) (iN kN : Nat) (W : World) (hi : iN ≤ 255) (hk : kN ≤ 255) :
    Calls Try.prog 12 #[.string key, .string one, .string two, .string three, .int .u8 (iN : Int), .int .u8 (kN : Int)] W fun e w' => e = .returned (.bool true) ∧ Below W.heap.size W w' := by
  by_cases hbad : key.size < 1 ∨ 64 < key.size ∨ 64 < one.size ∨ 64 < two.size ∨ 64 < three.size ∨ iN % 8 = kN % 8
  · exact both_bad key one two three iN kN W hi hk hbad
  · by_cases hlt : iN % 8 < kN % 8
    · exact both_lt key one two three iN kN W hi hk (by omega) (by omega) (by omega) (by omega) hlt
    · exact both_gt key one two three iN kN W hi hk (by omega) (by omega) (by omega) (by omega) (by omega)
end Go.Proofs.Ytkdbdocipijncaa

/- An argument that is an integer; a law's end. -/
set_option linter.unusedVariables false
set_option linter.unusedSimpArgs false
namespace Go.Proofs.Ytkdbdocipijncaa
open Go.ChangeShapes Go.WideShapes Go.RowKit Go.Joins

def InWord (z : Int) : Prop := -9223372036854775808 ≤ z ∧ z ≤ 9223372036854775807

set_option maxRecDepth 100000 in
theorem open_int {H : Type} {enc : TypeId × Value → H} {W : World} {v : Value} {d : DataW H} {p : List MemPlace} {base : Nat}
    (hv : Value.okWide Try.prog W .any base 3 v) (h : DataW.Trod enc Try.prog W 0 (fun _ => true) true 3 v d p) : ∃ n, v = .int .i64 n ∧ InWord n := by
  obtain ⟨n, rfl⟩ := okWide_int Try.underlying3 hv
  obtain ⟨fuel, hf⟩ := h
  obtain ⟨m, e0, _, w0⟩ := DataW.trod_int Try.underlying3 hf
  simp [Value.cells] at e0
  subst e0
  exact ⟨n, rfl, bounds_i64 w0⟩

/-- the arguments read on as they did -/
theorem trodAll_below {H : Type} {enc : TypeId × Value → H} {P : Program} (hl : laidOutB P = true) {W W' : World} (hb : Below W.heap.size W W') :
    ∀ {ts : List TypeId} {vs : List Value} {ds : List (DataW H)} {ps : List MemPlace}, (∀ t ∈ ts, P.readableRec t = true ∧ t < P.types.size) →
      DataW.TrodAll enc P W 0 (fun _ => true) true ts vs ds ps → (∀ x ∈ ps, x.block < W.heap.size) → DataW.TrodAll enc P W' 0 (fun b => decide (b < W.heap.size)) true ts vs ds ps
  | [], [], [], _, _, h, _ => h
  | t :: ts, v :: vs, d :: ds, _, ht, ⟨p, q, h1, h2, e⟩, hlt => by
    have h3 := ht t List.mem_cons_self
    exact ⟨p, q, Below.trod hl h3.1 h3.2 h1 hb (fun x hx => hlt x (by rw [e]; exact List.mem_append_left _ hx)),
      trodAll_below hl hb (fun t' ht' => ht t' (List.mem_cons_of_mem _ ht')) h2 (fun x hx => hlt x (by rw [e]; exact List.mem_append_right _ hx)), e⟩
  | [], _ :: _, _, _, _, h, _ => by simp [DataW.TrodAll] at h
  | [], [], _ :: _, _, _, h, _ => by simp [DataW.TrodAll] at h
  | _ :: _, [], _, _, _, h, _ => by simp [DataW.TrodAll] at h
  | _ :: _, _ :: _, [], _, _, h, _ => by simp [DataW.TrodAll] at h

/-- a law's end -/
theorem post_law {P : Program} {H : Type} {enc : TypeId × Value → H} {f : Func} {s : ChangeSpec} {apart fresh handsOn : Bool} {W W' : World} {args : Array Value} {ds : List (DataW H)} {before : List MemPlace} {t : TypeId}
    (hl : laidOutB P = true) (hts : ∀ t ∈ f.params.toList, P.readableRec t = true ∧ t < P.types.size)
    (hW : DataW.Whole enc P f.params.toList s.vars apart W args.toList ds [] before) (hvs : s.vars = []) (hrt : f.resultTypes = #[t]) (hub : P.underlying t = some .bool)
    (hA : DataW.TrodAll enc P W 0 (fun _ => true) true f.params.toList args.toList ds before)
    (hr : (s.fn H ds).results = [.lit (.bool true)]) (ha : (s.fn H ds).args = ds) (hv : (s.fn H ds).vars = []) (hb : Below W.heap.size W W') :
    s.post enc P f apart fresh handsOn false W args (.bool true) W' := by
  have hlt := hW.lt
  refine ⟨ds, [], before, [], before, [], hW, ?_, ?_, ?_, World.keptBut_mono (fun p hp => ⟨hp, ?_⟩) (hb.frame _), fun h => by cases h⟩
  · rw [List.append_nil, hr, hrt]
    exact trodAll_cons_mk (shut_bool hub _) trodAll_mk0
  · rw [List.append_nil, ha]
    exact trodAll_below hl hb hts hA (fun x hx => by simpa using hlt x hx)
  · rw [List.append_nil, hv, hvs]
    rfl
  · exact Or.inr (by simpa using hp)

set_option maxRecDepth 100000 in
theorem open_u8 {H : Type} {enc : TypeId × Value → H} {W : World} {v : Value} {d : DataW H} {p : List MemPlace} {base : Nat}
    (hv : Value.okWide Try.prog W .any base 5 v) (h : DataW.Trod enc Try.prog W 0 (fun _ => true) true 5 v d p) : ∃ n : Nat, v = .int .u8 (n : Int) ∧ n ≤ 255 := by
  obtain ⟨n, rfl⟩ := okWide_int Try.underlying5 hv
  obtain ⟨fuel, hf⟩ := h
  obtain ⟨m, e0, _, w0⟩ := DataW.trod_int Try.underlying5 hf
  simp [Value.cells] at e0
  subst e0
  have := bounds_u8 w0
  exact ⟨n.toNat, by rw [Int.toNat_of_nonneg this.1], by omega⟩
set_option maxRecDepth 100000 in
theorem open_str {H : Type} {enc : TypeId × Value → H} {W : World} {v : Value} {d : DataW H} {p : List MemPlace} {base : Nat}
    (hv : Value.okWide Try.prog W .any base 9 v) (h : DataW.Trod enc Try.prog W 0 (fun _ => true) true 9 v d p) : ∃ s : ByteArray, v = .string s := by
  obtain ⟨a0, rfl, _, _, w0⟩ := Go.ChangeMaps.open_string Try.underlying9 hv h
  exact ⟨a0, rfl⟩
end Go.Proofs.Ytkdbdocipijncaa
