/- For all integers x and y, NumRats(x, y) returns true, ends, and turns nothing that was there. For every input; no condition. -/
import Derived.Test.YtbihgllfllkkaaaGreatRows
import Derived.WalkKit
import Derived.ProofKit
import Derived.OpenShut
import Derived.Test.YtbihgllfllkkaaaGreatPart17
namespace Go.Proofs.YtbihgllfllkkaaaGreat.numRats
open Go.ChangeShapes Go.WideShapes Go.ChangeAt Go.RowKit Go.Proofs.YtbihgllfllkkaaaGreat
set_option linter.unusedVariables false

theorem own : ownKnob Tryz.prog.godebug = none := by kernel_rfl

set_option maxHeartbeats 16000000 in
set_option maxRecDepth 8000 in
theorem walk (s1 s2 : Bool) (a1 a2 : Option Addr) (l1 l2 c1 c2 : Nat) (xs ys : List Nat) (W : World) (hs1 : Sl .u16 W a1 l1 xs) (hd1 : Dig B16 xs) (hl1 : l1 ≤ 9223372036854775807) (hs2 : Sl .u16 W a2 l2 ys) (hd2 : Dig B16 ys) (hl2 : l2 ≤ 9223372036854775807) :
    Calls Tryz.prog 3 #[.agg #[.bool s1, .slice a1 l1 c1], .agg #[.bool s2, .slice a2 l2 c2]] W fun e w' => e = .returned (.bool true) ∧ Below W.heap.size W w' := by
  have hf : Fr W ((W.alloc (.cells #[.bool s1, .slice a1 l1 c1] 24)).alloc (.cells #[.bool s2, .slice a2 l2 c2] 24)) [(24, #[.bool s1, .slice a1 l1 c1]), (24, #[.bool s2, .slice a2 l2 c2])] := ((Fr.nil W).alloc rfl _ _).alloc (by simp) _ _
  have FP0 := Lib.hid hf
  have HS1 := Lib.hid (hs1.keep hf.below)
  have HS2 := Lib.hid (hs2.keep hf.below)
  have HD1 := Lib.hid hd1
  have HD2 := Lib.hid hd2
  obtain ⟨x, hx⟩ : ∃ x, x = rawZ s1 xs 24 := ⟨_, rfl⟩
  obtain ⟨y, hy⟩ : ∃ y, y = rawZ s2 ys 24 := ⟨_, rfl⟩
  have HFX : Hid (Fits x) := by rw [hx]; exact rawZ_fits s1 xs hd1 24 (by decide)
  have HFY : Hid (Fits y) := by rw [hy]; exact rawZ_fits s2 ys hd2 24 (by decide)
  have HX := Lib.hid hx
  have HY := Lib.hid hy
  clear hf hs1 hs2 hd1 hd2 hx hy
  go_enter Tryz.func3, Tryz.ntmps3
  go_wp2_with fail
  rename_i Q0 K0 hK0
  refine two_of 14 15 16 17 5 6 2 3 11 (.int .i64 24) (.bool s1) (.slice a1 l1 c1) (.bool s2) (.slice a2 l2 c2) W.heap.size (W.heap.size + 1) x y _ Tryz.func11 (by kernel_rfl) rfl (by kernel_rfl) rfl rfl rfl rfl rfl rfl rfl rfl rfl rfl (by decide) (by decide) (by simp; omega) (by simp)
    (FP0.out.cell 0 0 rfl rfl) (FP0.out.cell 0 1 rfl rfl) (FP0.out.cell 1 0 rfl rfl) (FP0.out.cell 1 1 rfl rfl)
    (fun w hb hsz => by rw [HX.out]; exact lawOf_any s1 _ _ _ xs _ 24 w (HS1.out.keep hb) HD1.out rfl (by decide) hl1) (fun w hb hsz => by rw [HY.out]; exact lawOf_any s2 _ _ _ ys _ 24 w (HS2.out.keep hb) HD2.out rfl (by decide) hl2) ?_
  intro w1 b1 b2 n1 x1 m1 k1 n2 x2 m2 k2 hb1 hb11 hb12 hne hbx1 hbx2 h1k h1m h2k h2m hz1 hz2
  refine hK0 _ _ ?_
  have hm1 : m1 ≤ 1000000 := Nat.le_trans (fits_len16 hz1 HFX.out) (by decide)
  have hm2 : m2 ≤ 1000000 := Nat.le_trans (fits_len16 hz2 HFY.out) (by decide)
  have hm1' : m1 ≤ 1000000000 := by omega
  have hm2' : m2 ≤ 1000000000 := by omega
  have BA1 := Lib.hid hbx1
  have BB1 := Lib.hid hbx2
  have HA1 := Lib.hid hz1
  have HB1 := Lib.hid hz2
  have FP1 := Lib.hid (FP0.out.later hb1)
  clear hb1 hb11 hb12 hne hbx1 hbx2 hz1 hz2 FP0 HS1 HS2 hK0
  simp only [puts, Act.put]
  have qq0 : w1.cell? ⟨b1, 0, none⟩ = some (.bool n1) := BA1.out.cell 0
  have qq1 : w1.cell? ⟨b1, 1, none⟩ = some (.slice x1 m1 k1) := BA1.out.cell 1
  have qq2 : w1.cell? ⟨b2, 0, none⟩ = some (.bool n2) := BB1.out.cell 0
  have qq3 : w1.cell? ⟨b2, 1, none⟩ = some (.slice x2 m2 k2) := BB1.out.cell 1
  go_wp2_with fail
  refine (((two_any _ _ _ _ _ _ _ _ x y _ HA1.out HB1.out hm1 hm2).mono fun e w h => h.fits HFX.out HFY.out)).mono ?_
  rintro e w2 ⟨nc, oc, lc, cc, nd, od, ld, cd, rfl, hlc, hld, hzc, hzd, hb⟩
  clear qq0 qq1 qq2 qq3
  have FP2 := Lib.hid (FP1.out.later hb)
  have BA2 := Lib.hid (BA1.out.below hb BA1.out.lt)
  have BB2 := Lib.hid (BB1.out.below hb BB1.out.lt)
  have HA2 := Lib.hid (HA1.out.keep hb)
  have HB2 := Lib.hid (HB1.out.keep hb)
  have hfc : Fr w2 ((w2.alloc (.cells #[.bool nc, .slice oc lc cc] 31)).alloc (.cells #[.bool nd, .slice od ld cd] 31)) [(31, #[.bool nc, .slice oc lc cc]), (31, #[.bool nd, .slice od ld cd])] := ((Fr.nil w2).alloc rfl _ _).alloc (by simp) _ _
  have FP3 := Lib.hid (FP2.out.later hfc.below)
  have BA3 := Lib.hid (BA2.out.below hfc.below BA2.out.lt)
  have BB3 := Lib.hid (BB2.out.below hfc.below BB2.out.lt)
  have HA3 := Lib.hid (HA2.out.keep hfc.below)
  have HB3 := Lib.hid (HB2.out.keep hfc.below)
  have FC3 := Lib.hid hfc
  have HC3 := Lib.hid (hzc.keep hfc.below)
  have HD3 := Lib.hid (hzd.keep hfc.below)
  clear hb hzc hzd hfc
  have hlc1 : lc ≤ 100000000 := by omega
  have hld1 : ld ≤ 100000000 := by omega
  have hlc2 : lc ≤ 1000000000 := by omega
  have hld2 : ld ≤ 1000000000 := by omega
  by_cases hy0 : y = 0
  · have HY0 := Lib.hid hy0
    have HD0 : Hid (Z32 ((w2.alloc (.cells #[.bool nc, .slice oc lc cc] 31)).alloc (.cells #[.bool nd, .slice od ld cd] 31)) nd od ld 0) := HY0.out ▸ HD3.out
    clear hy0
    have qq0 : ((w2.alloc (.cells #[.bool nc, .slice oc lc cc] 31)).alloc (.cells #[.bool nd, .slice od ld cd] 31)).cell? ⟨w2.heap.size, 0, none⟩ = some (.bool nc) := FC3.out.cell 0 0 rfl rfl
    have qq1 : ((w2.alloc (.cells #[.bool nc, .slice oc lc cc] 31)).alloc (.cells #[.bool nd, .slice od ld cd] 31)).cell? ⟨w2.heap.size, 1, none⟩ = some (.slice oc lc cc) := FC3.out.cell 0 1 rfl rfl
    have qq2 : ((w2.alloc (.cells #[.bool nc, .slice oc lc cc] 31)).alloc (.cells #[.bool nd, .slice od ld cd] 31)).cell? ⟨w2.heap.size + 1, 0, none⟩ = some (.bool nd) := FC3.out.cell 1 0 rfl rfl
    have qq3 : ((w2.alloc (.cells #[.bool nc, .slice oc lc cc] 31)).alloc (.cells #[.bool nd, .slice od ld cd] 31)).cell? ⟨w2.heap.size + 1, 1, none⟩ = some (.slice od ld cd) := FC3.out.cell 1 1 rfl rfl
    go_wp2_with fail
    refine (newRat_zero _ _ _ _ _ _ _ _ _ HD0.out).mono ?_
    rintro e w4 ⟨rfl, hb⟩
    clear qq0 qq1 qq2 qq3
    have FP4a := Lib.hid (FP3.out.later hb)
    have FC4a := Lib.hid (FC3.out.later hb)
    have BA4a := Lib.hid (BA3.out.below hb BA3.out.lt)
    have BB4a := Lib.hid (BB3.out.below hb BB3.out.lt)
    have HA4a := Lib.hid (HA3.out.keep hb)
    have HB4a := Lib.hid (HB3.out.keep hb)
    have HC4a := Lib.hid (HC3.out.keep hb)
    have HD4a := Lib.hid (HD3.out.keep hb)
    have hf4 : Fr w4 (w4.alloc (.cells #[.bool false, .slice none 0 0, .slice none 0 0] 35)) [(35, #[.bool false, .slice none 0 0, .slice none 0 0])] := (Fr.nil w4).alloc rfl _ _
    have FP4b := Lib.hid (FP4a.out.later hf4.below)
    have FC4b := Lib.hid (FC4a.out.later hf4.below)
    have BA4b := Lib.hid (BA4a.out.below hf4.below BA4a.out.lt)
    have BB4b := Lib.hid (BB4a.out.below hf4.below BB4a.out.lt)
    have HA4b := Lib.hid (HA4a.out.keep hf4.below)
    have HB4b := Lib.hid (HB4a.out.keep hf4.below)
    have HC4b := Lib.hid (HC4a.out.keep hf4.below)
    have HD4b := Lib.hid (HD4a.out.keep hf4.below)
    have FZ4 := Lib.hid hf4
    clear hb hf4
    have qq0 : (w4.alloc (.cells #[.bool false, .slice none 0 0, .slice none 0 0] 35)).cell? ⟨b2, 0, none⟩ = some (.bool n2) := BB4b.out.cell 0
    have qq1 : (w4.alloc (.cells #[.bool false, .slice none 0 0, .slice none 0 0] 35)).cell? ⟨b2, 1, none⟩ = some (.slice x2 m2 k2) := BB4b.out.cell 1
    go_wp2_with fail
    refine ((sign16_any _ _ _ _ y _ HB4b.out).mono fun e w h => (⟨h.1.trans (congrArg (fun t => Ending.returned (.int .i64 t)) (by rw [HY0.out]; rfl)), h.2⟩ : e = .returned (.int .i64 0) ∧ _)).mono ?_
    rintro e w5 ⟨rfl, hb⟩
    clear qq0 qq1
    have FP5a := Lib.hid (FP4b.out.later hb)
    have FC5a := Lib.hid (FC4b.out.later hb)
    have FZ5a := Lib.hid (FZ4.out.later hb)
    have BA5a := Lib.hid (BA4b.out.below hb BA4b.out.lt)
    have BB5a := Lib.hid (BB4b.out.below hb BB4b.out.lt)
    have HA5a := Lib.hid (HA4b.out.keep hb)
    have HB5a := Lib.hid (HB4b.out.keep hb)
    have HC5a := Lib.hid (HC4b.out.keep hb)
    have HD5a := Lib.hid (HD4b.out.keep hb)
    clear hb
    have qq0 : w5.cell? ⟨w4.heap.size, 0, none⟩ = some (.bool false) := FZ5a.out.cell 0 0 rfl rfl
    have qq1 : w5.cell? ⟨w4.heap.size, 1, none⟩ = some (.slice none 0 0) := FZ5a.out.cell 0 1 rfl rfl
    have qq2 : w5.cell? ⟨w4.heap.size, 2, none⟩ = some (.slice none 0 0) := FZ5a.out.cell 0 2 rfl rfl
    go_wp2_with fail
    refine ((ratString_any false none none 0 0 0 0 0 1 _ ⟨Z32.nil _, .inl ⟨rfl, rfl⟩⟩ (by omega) (by omega)).mono fun e w h => (⟨(h.1.trans (congrArg (fun l : List UInt8 => Ending.returned (.string ⟨l.toArray⟩)) textQ_zero)), h.2⟩ : e = .returned (.string { data := #[48] }) ∧ _)).mono ?_
    rintro e w6 ⟨rfl, hb⟩
    clear qq0 qq1 qq2
    have FP6a := Lib.hid (FP5a.out.later hb)
    have FC6a := Lib.hid (FC5a.out.later hb)
    have FZ6a := Lib.hid (FZ5a.out.later hb)
    have BA6a := Lib.hid (BA5a.out.below hb BA5a.out.lt)
    have BB6a := Lib.hid (BB5a.out.below hb BB5a.out.lt)
    have HA6a := Lib.hid (HA5a.out.keep hb)
    have HB6a := Lib.hid (HB5a.out.keep hb)
    have HC6a := Lib.hid (HC5a.out.keep hb)
    have HD6a := Lib.hid (HD5a.out.keep hb)
    clear hb
    go_wp2_with fail
    refine (awake_any _).mono ?_
    rintro e w7 ⟨rfl, hb⟩
    have FP7a := Lib.hid (FP6a.out.later hb)
    have FC7a := Lib.hid (FC6a.out.later hb)
    have FZ7a := Lib.hid (FZ6a.out.later hb)
    have BA7a := Lib.hid (BA6a.out.below hb BA6a.out.lt)
    have BB7a := Lib.hid (BB6a.out.below hb BB6a.out.lt)
    have HA7a := Lib.hid (HA6a.out.keep hb)
    have HB7a := Lib.hid (HB6a.out.keep hb)
    have HC7a := Lib.hid (HC6a.out.keep hb)
    have HD7a := Lib.hid (HD6a.out.keep hb)
    clear hb
    go_wp2
    go_ret
    exact ⟨rfl, FP7a.out.below⟩
  · have HY0 := Lib.hid hy0
    obtain ⟨t, ht⟩ : ∃ t, t = y.sign := ⟨_, rfl⟩
    have ht0 : (t == 0) = false := by
      have : y.sign ≠ 0 := fun h => hy0 (Int.sign_eq_zero_iff_zero.1 h)
      rw [ht]; simp [this]
    have HT := Lib.hid ht
    clear ht hy0
    have qq0 : ((w2.alloc (.cells #[.bool nc, .slice oc lc cc] 31)).alloc (.cells #[.bool nd, .slice od ld cd] 31)).cell? ⟨w2.heap.size, 0, none⟩ = some (.bool nc) := FC3.out.cell 0 0 rfl rfl
    have qq1 : ((w2.alloc (.cells #[.bool nc, .slice oc lc cc] 31)).alloc (.cells #[.bool nd, .slice od ld cd] 31)).cell? ⟨w2.heap.size, 1, none⟩ = some (.slice oc lc cc) := FC3.out.cell 0 1 rfl rfl
    have qq2 : ((w2.alloc (.cells #[.bool nc, .slice oc lc cc] 31)).alloc (.cells #[.bool nd, .slice od ld cd] 31)).cell? ⟨w2.heap.size + 1, 0, none⟩ = some (.bool nd) := FC3.out.cell 1 0 rfl rfl
    have qq3 : ((w2.alloc (.cells #[.bool nc, .slice oc lc cc] 31)).alloc (.cells #[.bool nd, .slice od ld cd] 31)).cell? ⟨w2.heap.size + 1, 1, none⟩ = some (.slice od ld cd) := FC3.out.cell 1 1 rfl rfl
    go_wp2_with fail
    refine (newRat_L _ _ _ _ _ _ _ _ x y _ HC3.out HD3.out (by omega) (by omega) HY0.out).mono ?_
    rintro e w4 ⟨nf, of, lf, cf, bf, mf, df, rfl, hq, hb⟩
    clear qq0 qq1 qq2 qq3
    have FP4a := Lib.hid (FP3.out.later hb)
    have FC4a := Lib.hid (FC3.out.later hb)
    have BA4a := Lib.hid (BA3.out.below hb BA3.out.lt)
    have BB4a := Lib.hid (BB3.out.below hb BB3.out.lt)
    have HA4a := Lib.hid (HA3.out.keep hb)
    have HB4a := Lib.hid (HB3.out.keep hb)
    have HC4a := Lib.hid (HC3.out.keep hb)
    have HD4a := Lib.hid (HD3.out.keep hb)
    obtain ⟨p, hp⟩ : ∃ p, p = lowP x y := ⟨_, rfl⟩
    obtain ⟨q, hq2⟩ : ∃ q, q = lowQ x y := ⟨_, rfl⟩
    rw [← hp, ← hq2] at hq
    have hfit : FitsQ p q := by rw [hp, hq2]; exact ⟨fits_lowP HFX.out, fits_lowQ HFY.out⟩
    have hlens := hq.lens hfit
    have hlf := hlens.1
    have hmf := hlens.2
    have hqp := hq.pos
    have HP := Lib.hid hp
    have HQ2 := Lib.hid hq2
    have HFIT := Lib.hid hfit
    clear hlens hp hq2 hfit
    have hf4 : Fr w4 (w4.alloc (.cells #[.bool nf, .slice of lf cf, .slice bf mf df] 35)) [(35, #[.bool nf, .slice of lf cf, .slice bf mf df])] := (Fr.nil w4).alloc rfl _ _
    have FP4b := Lib.hid (FP4a.out.later hf4.below)
    have FC4b := Lib.hid (FC4a.out.later hf4.below)
    have BA4b := Lib.hid (BA4a.out.below hf4.below BA4a.out.lt)
    have BB4b := Lib.hid (BB4a.out.below hf4.below BB4a.out.lt)
    have HA4b := Lib.hid (HA4a.out.keep hf4.below)
    have HB4b := Lib.hid (HB4a.out.keep hf4.below)
    have HC4b := Lib.hid (HC4a.out.keep hf4.below)
    have HD4b := Lib.hid (HD4a.out.keep hf4.below)
    have FF4 := Lib.hid hf4
    have HF4 := Lib.hid (hq.keep hf4.below)
    clear hb hq hf4
    have qq0 : (w4.alloc (.cells #[.bool nf, .slice of lf cf, .slice bf mf df] 35)).cell? ⟨b2, 0, none⟩ = some (.bool n2) := BB4b.out.cell 0
    have qq1 : (w4.alloc (.cells #[.bool nf, .slice of lf cf, .slice bf mf df] 35)).cell? ⟨b2, 1, none⟩ = some (.slice x2 m2 k2) := BB4b.out.cell 1
    go_wp2_with fail
    refine ((sign16_any _ _ _ _ y _ HB4b.out).mono fun e w h => (⟨h.1.trans (congrArg (fun t => Ending.returned (.int .i64 t)) HT.out.symm), h.2⟩ : e = .returned (.int .i64 t) ∧ _)).mono ?_
    rintro e w5 ⟨rfl, hb⟩
    clear qq0 qq1
    have FP5a := Lib.hid (FP4b.out.later hb)
    have FC5a := Lib.hid (FC4b.out.later hb)
    have FF5a := Lib.hid (FF4.out.later hb)
    have BA5a := Lib.hid (BA4b.out.below hb BA4b.out.lt)
    have BB5a := Lib.hid (BB4b.out.below hb BB4b.out.lt)
    have HA5a := Lib.hid (HA4b.out.keep hb)
    have HB5a := Lib.hid (HB4b.out.keep hb)
    have HC5a := Lib.hid (HC4b.out.keep hb)
    have HD5a := Lib.hid (HD4b.out.keep hb)
    have HF5a := Lib.hid (HF4.out.keep hb)
    clear hb
    have qq0 : w5.cell? ⟨b1, 0, none⟩ = some (.bool n1) := BA5a.out.cell 0
    have qq1 : w5.cell? ⟨b1, 1, none⟩ = some (.slice x1 m1 k1) := BA5a.out.cell 1
    have qq2 : w5.cell? ⟨b2, 0, none⟩ = some (.bool n2) := BB5a.out.cell 0
    have qq3 : w5.cell? ⟨b2, 1, none⟩ = some (.slice x2 m2 k2) := BB5a.out.cell 1
    go_wp2_with fail
    refine (low_any _ _ _ _ _ _ _ _ x y _ HA5a.out HB5a.out hm1 hm2 h1k h1m h2k h2m HY0.out).mono ?_
    rintro e w6 ⟨gp, og, lg, cg, gq, ug, kg, dg, rfl, hc1, hd1, hc2, hd2, hz1, hz2, hb⟩
    clear qq0 qq1 qq2 qq3
    have FP6a := Lib.hid (FP5a.out.later hb)
    have FC6a := Lib.hid (FC5a.out.later hb)
    have FF6a := Lib.hid (FF5a.out.later hb)
    have BA6a := Lib.hid (BA5a.out.below hb BA5a.out.lt)
    have BB6a := Lib.hid (BB5a.out.below hb BB5a.out.lt)
    have HA6a := Lib.hid (HA5a.out.keep hb)
    have HB6a := Lib.hid (HB5a.out.keep hb)
    have HC6a := Lib.hid (HC5a.out.keep hb)
    have HD6a := Lib.hid (HD5a.out.keep hb)
    have HF6a := Lib.hid (HF5a.out.keep hb)
    rw [← HP.out] at hz1
    rw [← HQ2.out] at hz2
    have hlg : lg ≤ 1000000 := Nat.le_trans (fits_len16 hz1 HFIT.out.1) (by decide)
    have hkg : kg ≤ 1000000 := Nat.le_trans (fits_len16 hz2 ((fits_cast _).2 HFIT.out.2)) (by decide)
    have hf6 : Fr w6 (w6.alloc (.cells #[.bool gp, .slice og lg cg, .bool gq, .slice ug kg dg] 43)) [(43, #[.bool gp, .slice og lg cg, .bool gq, .slice ug kg dg])] := (Fr.nil w6).alloc rfl _ _
    have FP6b := Lib.hid (FP6a.out.later hf6.below)
    have FC6b := Lib.hid (FC6a.out.later hf6.below)
    have FF6b := Lib.hid (FF6a.out.later hf6.below)
    have BA6b := Lib.hid (BA6a.out.below hf6.below BA6a.out.lt)
    have BB6b := Lib.hid (BB6a.out.below hf6.below BB6a.out.lt)
    have HA6b := Lib.hid (HA6a.out.keep hf6.below)
    have HB6b := Lib.hid (HB6a.out.keep hf6.below)
    have HC6b := Lib.hid (HC6a.out.keep hf6.below)
    have HD6b := Lib.hid (HD6a.out.keep hf6.below)
    have HF6b := Lib.hid (HF6a.out.keep hf6.below)
    have FG6 := Lib.hid hf6
    have HGP6 := Lib.hid (hz1.keep hf6.below)
    have HGQ6 := Lib.hid (hz2.keep hf6.below)
    clear hb hz1 hz2 hf6
    go_upto_region 7 with fail
    obtain ⟨V6, hV⟩ : ∃ V, V = (w6.alloc (.cells #[.bool gp, .slice og lg cg, .bool gq, .slice ug kg dg] 43)) := ⟨_, rfl⟩
    rw [← hV] at FP6b FF6b FG6 HF6b HGP6 HGQ6 ⊢
    clear hV
    have hsg : w6.heap.size < V6.heap.size := by have := FG6.out.size; simp at this; omega
    rename_i hK0
    refine rats_region gp gq og ug lg cg kg dg p (q : Int) w6.heap.size _ (by kernel_rfl) rfl rfl rfl rfl rfl rfl rfl rfl rfl hsg (FG6.out.cell 0 0 rfl rfl) (FG6.out.cell 0 1 rfl rfl) (FG6.out.cell 0 2 rfl rfl) (FG6.out.cell 0 3 rfl rfl) HGP6.out HGQ6.out hc1 hd1 hc2 hd2 ?_
    intro w7 b6 nh oh lh ch n2h o2h l2h c2h d2 hb hb6 hbx hch hdh hch2 hdh2 hzh hzh2
    refine hK0 _ _ ?_
    have FP7 := Lib.hid (FP6b.out.later hb)
    have FF7 := Lib.hid (FF6b.out.later hb)
    have FG7 := Lib.hid (FG6.out.later hb)
    have HF7 := Lib.hid (HF6b.out.keep hb)
    have HGP7 := Lib.hid (HGP6.out.keep hb)
    have HGQ7 := Lib.hid (HGQ6.out.keep hb)
    have hlh : lh ≤ 100000000 := Nat.le_trans (fits_len16 hzh (fits_neg HFIT.out.1)) (by decide)
    have hlh2 : l2h ≤ 100000000 := Nat.le_trans (fits_len16 hzh2 ((fits_cast _).2 HFIT.out.2)) (by decide)
    have BH7 := Lib.hid hbx
    have HH7 := Lib.hid hzh
    have HI7 := Lib.hid hzh2
    clear hb hbx hzh hzh2 hK0
    simp only [puts, Act.put]
    have TF : Hid (ToldQ p q 0 p q) := .inl ⟨HFIT.out, rfl, rfl, rfl⟩
    obtain ⟨sg, hsg2⟩ : ∃ s, s = p.sign := ⟨_, rfl⟩
    have HSG := Lib.hid hsg2
    clear hsg2
    have hqz : (q : Int) ≠ 0 := by omega
    have qq0 : w7.cell? ⟨w4.heap.size, 0, none⟩ = some (.bool nf) := FF7.out.cell 0 0 rfl rfl
    have qq1 : w7.cell? ⟨w4.heap.size, 1, none⟩ = some (.slice of lf cf) := FF7.out.cell 0 1 rfl rfl
    have qq2 : w7.cell? ⟨w4.heap.size, 2, none⟩ = some (.slice bf mf df) := FF7.out.cell 0 2 rfl rfl
    have qq3 : w7.cell? ⟨w6.heap.size, 0, none⟩ = some (.bool gp) := FG7.out.cell 0 0 rfl rfl
    have qq4 : w7.cell? ⟨w6.heap.size, 1, none⟩ = some (.slice og lg cg) := FG7.out.cell 0 1 rfl rfl
    have qq5 : w7.cell? ⟨w6.heap.size, 2, none⟩ = some (.bool gq) := FG7.out.cell 0 2 rfl rfl
    have qq6 : w7.cell? ⟨w6.heap.size, 3, none⟩ = some (.slice ug kg dg) := FG7.out.cell 0 3 rfl rfl
    have qq7 : w7.cell? ⟨b6, 0, none⟩ = some (.bool nh) := BH7.out.cell 0
    have qq8 : w7.cell? ⟨b6, 1, none⟩ = some (.slice oh lh ch) := BH7.out.cell 1
    have qq9 : w7.cell? ⟨b6, 2, none⟩ = some (.bool n2h) := BH7.out.cell 2
    have qq10 : w7.cell? ⟨b6, 3, none⟩ = some (.slice o2h l2h c2h) := BH7.out.cell 3
    go_upto_region 8 with fail
    go_region_held3 (fun w' => w'.cell? ⟨w4.heap.size, 0, none⟩ = some (.bool nf) ∧ w'.cell? ⟨w4.heap.size, 1, none⟩ = some (.slice of lf cf) ∧ w'.cell? ⟨w4.heap.size, 2, none⟩ = some (.slice bf mf df) ∧ w'.cell? ⟨w6.heap.size, 0, none⟩ = some (.bool gp) ∧ w'.cell? ⟨w6.heap.size, 1, none⟩ = some (.slice og lg cg) ∧ w'.cell? ⟨w6.heap.size, 2, none⟩ = some (.bool gq) ∧ w'.cell? ⟨w6.heap.size, 3, none⟩ = some (.slice ug kg dg) ∧ w'.cell? ⟨b6, 0, none⟩ = some (.bool nh) ∧ w'.cell? ⟨b6, 1, none⟩ = some (.slice oh lh ch) ∧ w'.cell? ⟨b6, 2, none⟩ = some (.bool n2h) ∧ w'.cell? ⟨b6, 3, none⟩ = some (.slice o2h l2h c2h)) (go_keep)
      (first | (go_at_call 16; refine (awake_any _).mono ?_; rintro e rw13 ⟨rfl, hb⟩; have hbb := hb; have FPr13 := Lib.hid (FPr12.out.later hbb); have FFr13 := Lib.hid (FFr12.out.later hbb); have FGr13 := Lib.hid (FGr12.out.later hbb); have BHr13 := Lib.hid (BHr12.out.below hbb BHr12.out.lt); have HFr13 := Lib.hid (HFr12.out.keep hbb); have HGPr13 := Lib.hid (HGPr12.out.keep hbb); have HGQr13 := Lib.hid (HGQr12.out.keep hbb); have HHr13 := Lib.hid (HHr12.out.keep hbb); have HIr13 := Lib.hid (HIr12.out.keep hbb); have HUr13 := Lib.hid (HUr12.out.keep hbb); have HVr13 := Lib.hid (HVr12.out.keep hbb); have HNr13 := Lib.hid (HNr12.out.keep hbb); have HXr13 := Lib.hid (HXr12.out.keep hbb); have HYr13 := Lib.hid (HYr12.out.keep hbb); clear hb hbb; have r13c0 : rw13.cell? ⟨w4.heap.size, 0, none⟩ = some (.bool nf) := FFr13.out.cell 0 0 rfl rfl; have r13c1 : rw13.cell? ⟨w4.heap.size, 1, none⟩ = some (.slice of lf cf) := FFr13.out.cell 0 1 rfl rfl; have r13c2 : rw13.cell? ⟨w4.heap.size, 2, none⟩ = some (.slice bf mf df) := FFr13.out.cell 0 2 rfl rfl; have r13c3 : rw13.cell? ⟨w6.heap.size, 0, none⟩ = some (.bool gp) := FGr13.out.cell 0 0 rfl rfl; have r13c4 : rw13.cell? ⟨w6.heap.size, 1, none⟩ = some (.slice og lg cg) := FGr13.out.cell 0 1 rfl rfl; have r13c5 : rw13.cell? ⟨w6.heap.size, 2, none⟩ = some (.bool gq) := FGr13.out.cell 0 2 rfl rfl; have r13c6 : rw13.cell? ⟨w6.heap.size, 3, none⟩ = some (.slice ug kg dg) := FGr13.out.cell 0 3 rfl rfl; have r13c7 : rw13.cell? ⟨b6, 0, none⟩ = some (.bool nh) := BHr13.out.cell 0; have r13c8 : rw13.cell? ⟨b6, 1, none⟩ = some (.slice oh lh ch) := BHr13.out.cell 1; have r13c9 : rw13.cell? ⟨b6, 2, none⟩ = some (.bool n2h) := BHr13.out.cell 2; have r13c10 : rw13.cell? ⟨b6, 3, none⟩ = some (.slice o2h l2h c2h) := BHr13.out.cell 3) | (go_at_call 20; refine (is_any _ _ _ _ _ _ _ _ (p / (q : Int)) _ HXr11.out HY1.out hlx hly).mono ?_; rintro e rw12 ⟨rfl, hb⟩; have hbb := hb; have FPr12 := Lib.hid (FPr11.out.later hbb); have FFr12 := Lib.hid (FFr11.out.later hbb); have FGr12 := Lib.hid (FGr11.out.later hbb); have BHr12 := Lib.hid (BHr11.out.below hbb BHr11.out.lt); have HFr12 := Lib.hid (HFr11.out.keep hbb); have HGPr12 := Lib.hid (HGPr11.out.keep hbb); have HGQr12 := Lib.hid (HGQr11.out.keep hbb); have HHr12 := Lib.hid (HHr11.out.keep hbb); have HIr12 := Lib.hid (HIr11.out.keep hbb); have HUr12 := Lib.hid (HUr11.out.keep hbb); have HVr12 := Lib.hid (HVr11.out.keep hbb); have HNr12 := Lib.hid (HNr11.out.keep hbb); have HXr12 := Lib.hid (HXr11.out.keep hbb); have HYr12 := Lib.hid (HY1.out.keep hbb); clear hb hbb; have r12c0 : rw12.cell? ⟨w4.heap.size, 0, none⟩ = some (.bool nf) := FFr12.out.cell 0 0 rfl rfl; have r12c1 : rw12.cell? ⟨w4.heap.size, 1, none⟩ = some (.slice of lf cf) := FFr12.out.cell 0 1 rfl rfl; have r12c2 : rw12.cell? ⟨w4.heap.size, 2, none⟩ = some (.slice bf mf df) := FFr12.out.cell 0 2 rfl rfl; have r12c3 : rw12.cell? ⟨w6.heap.size, 0, none⟩ = some (.bool gp) := FGr12.out.cell 0 0 rfl rfl; have r12c4 : rw12.cell? ⟨w6.heap.size, 1, none⟩ = some (.slice og lg cg) := FGr12.out.cell 0 1 rfl rfl; have r12c5 : rw12.cell? ⟨w6.heap.size, 2, none⟩ = some (.bool gq) := FGr12.out.cell 0 2 rfl rfl; have r12c6 : rw12.cell? ⟨w6.heap.size, 3, none⟩ = some (.slice ug kg dg) := FGr12.out.cell 0 3 rfl rfl; have r12c7 : rw12.cell? ⟨b6, 0, none⟩ = some (.bool nh) := BHr12.out.cell 0; have r12c8 : rw12.cell? ⟨b6, 1, none⟩ = some (.slice oh lh ch) := BHr12.out.cell 1; have r12c9 : rw12.cell? ⟨b6, 2, none⟩ = some (.bool n2h) := BHr12.out.cell 2; have r12c10 : rw12.cell? ⟨b6, 3, none⟩ = some (.slice o2h l2h c2h) := BHr12.out.cell 3) | (go_at_call 28; refine (refFloor_any _ _ _ _ _ _ _ _ p (q : Int) _ HGPr10.out HGQr10.out hlg hkg hqz).mono ?_; rintro e rw11 ⟨ny, oy, ly, cy, rfl, _, _, hzy, hb⟩; have hbb := hb; have FPr11 := Lib.hid (FPr10.out.later hbb); have FFr11 := Lib.hid (FFr10.out.later hbb); have FGr11 := Lib.hid (FGr10.out.later hbb); have BHr11 := Lib.hid (BHr10.out.below hbb BHr10.out.lt); have HFr11 := Lib.hid (HFr10.out.keep hbb); have HGPr11 := Lib.hid (HGPr10.out.keep hbb); have HGQr11 := Lib.hid (HGQr10.out.keep hbb); have HHr11 := Lib.hid (HHr10.out.keep hbb); have HIr11 := Lib.hid (HIr10.out.keep hbb); have HUr11 := Lib.hid (HUr10.out.keep hbb); have HVr11 := Lib.hid (HVr10.out.keep hbb); have HNr11 := Lib.hid (HNr10.out.keep hbb); have HXr11 := Lib.hid (HX0.out.keep hbb); have HY1 := Lib.hid hzy; have hly : ly ≤ 1000000000 := Nat.le_trans (fits_len16 HY1.out (fits_div HFIT.out.1)) (by decide); clear hzy; clear hb hbb; have r11c0 : rw11.cell? ⟨w4.heap.size, 0, none⟩ = some (.bool nf) := FFr11.out.cell 0 0 rfl rfl; have r11c1 : rw11.cell? ⟨w4.heap.size, 1, none⟩ = some (.slice of lf cf) := FFr11.out.cell 0 1 rfl rfl; have r11c2 : rw11.cell? ⟨w4.heap.size, 2, none⟩ = some (.slice bf mf df) := FFr11.out.cell 0 2 rfl rfl; have r11c3 : rw11.cell? ⟨w6.heap.size, 0, none⟩ = some (.bool gp) := FGr11.out.cell 0 0 rfl rfl; have r11c4 : rw11.cell? ⟨w6.heap.size, 1, none⟩ = some (.slice og lg cg) := FGr11.out.cell 0 1 rfl rfl; have r11c5 : rw11.cell? ⟨w6.heap.size, 2, none⟩ = some (.bool gq) := FGr11.out.cell 0 2 rfl rfl; have r11c6 : rw11.cell? ⟨w6.heap.size, 3, none⟩ = some (.slice ug kg dg) := FGr11.out.cell 0 3 rfl rfl; have r11c7 : rw11.cell? ⟨b6, 0, none⟩ = some (.bool nh) := BHr11.out.cell 0; have r11c8 : rw11.cell? ⟨b6, 1, none⟩ = some (.slice oh lh ch) := BHr11.out.cell 1; have r11c9 : rw11.cell? ⟨b6, 2, none⟩ = some (.bool n2h) := BHr11.out.cell 2; have r11c10 : rw11.cell? ⟨b6, 3, none⟩ = some (.slice o2h l2h c2h) := BHr11.out.cell 3) | (go_at_call 27; refine (floor_any _ _ _ _ _ _ _ p q _ HFr9.out (by omega) (by omega) ((fits_cast _).2 HFIT.out.2) (by omega) (divide_ok _ _ hqp)).mono ?_; rintro e rw10 ⟨nx, ox, lx, cx, rfl, hzx, hb⟩; have hbb := hb; have FPr10 := Lib.hid (FPr9.out.later hbb); have FFr10 := Lib.hid (FFr9.out.later hbb); have FGr10 := Lib.hid (FGr9.out.later hbb); have BHr10 := Lib.hid (BHr9.out.below hbb BHr9.out.lt); have HFr10 := Lib.hid (HFr9.out.keep hbb); have HGPr10 := Lib.hid (HGPr9.out.keep hbb); have HGQr10 := Lib.hid (HGQr9.out.keep hbb); have HHr10 := Lib.hid (HHr9.out.keep hbb); have HIr10 := Lib.hid (HIr9.out.keep hbb); have HUr10 := Lib.hid (HUr9.out.keep hbb); have HVr10 := Lib.hid (HVr9.out.keep hbb); have HNr10 := Lib.hid (HNr9.out.keep hbb); have HX0 := Lib.hid hzx; have hlx : lx ≤ 1000000000 := Nat.le_trans (fits_len HX0.out (fits_div HFIT.out.1)) (by decide); clear hzx; clear hb hbb; have r10c0 : rw10.cell? ⟨w4.heap.size, 0, none⟩ = some (.bool nf) := FFr10.out.cell 0 0 rfl rfl; have r10c1 : rw10.cell? ⟨w4.heap.size, 1, none⟩ = some (.slice of lf cf) := FFr10.out.cell 0 1 rfl rfl; have r10c2 : rw10.cell? ⟨w4.heap.size, 2, none⟩ = some (.slice bf mf df) := FFr10.out.cell 0 2 rfl rfl; have r10c3 : rw10.cell? ⟨w6.heap.size, 0, none⟩ = some (.bool gp) := FGr10.out.cell 0 0 rfl rfl; have r10c4 : rw10.cell? ⟨w6.heap.size, 1, none⟩ = some (.slice og lg cg) := FGr10.out.cell 0 1 rfl rfl; have r10c5 : rw10.cell? ⟨w6.heap.size, 2, none⟩ = some (.bool gq) := FGr10.out.cell 0 2 rfl rfl; have r10c6 : rw10.cell? ⟨w6.heap.size, 3, none⟩ = some (.slice ug kg dg) := FGr10.out.cell 0 3 rfl rfl; have r10c7 : rw10.cell? ⟨b6, 0, none⟩ = some (.bool nh) := BHr10.out.cell 0; have r10c8 : rw10.cell? ⟨b6, 1, none⟩ = some (.slice oh lh ch) := BHr10.out.cell 1; have r10c9 : rw10.cell? ⟨b6, 2, none⟩ = some (.bool n2h) := BHr10.out.cell 2; have r10c10 : rw10.cell? ⟨b6, 3, none⟩ = some (.slice o2h l2h c2h) := BHr10.out.cell 3) | (go_at_call 26; refine (text16Q_any _ _ _ _ _ _ _ _ (-p) q _ HHr8.out HIr8.out hlh hlh2).mono ?_; rintro e rw9 ⟨rfl, hb⟩; have hbb := hb; have FPr9 := Lib.hid (FPr8.out.later hbb); have FFr9 := Lib.hid (FFr8.out.later hbb); have FGr9 := Lib.hid (FGr8.out.later hbb); have BHr9 := Lib.hid (BHr8.out.below hbb BHr8.out.lt); have HFr9 := Lib.hid (HFr8.out.keep hbb); have HGPr9 := Lib.hid (HGPr8.out.keep hbb); have HGQr9 := Lib.hid (HGQr8.out.keep hbb); have HHr9 := Lib.hid (HHr8.out.keep hbb); have HIr9 := Lib.hid (HIr8.out.keep hbb); have HUr9 := Lib.hid (HUr8.out.keep hbb); have HVr9 := Lib.hid (HVr8.out.keep hbb); have HNr9 := Lib.hid (HNr8.out.keep hbb); clear hb hbb; have r9c0 : rw9.cell? ⟨w4.heap.size, 0, none⟩ = some (.bool nf) := FFr9.out.cell 0 0 rfl rfl; have r9c1 : rw9.cell? ⟨w4.heap.size, 1, none⟩ = some (.slice of lf cf) := FFr9.out.cell 0 1 rfl rfl; have r9c2 : rw9.cell? ⟨w4.heap.size, 2, none⟩ = some (.slice bf mf df) := FFr9.out.cell 0 2 rfl rfl; have r9c3 : rw9.cell? ⟨w6.heap.size, 0, none⟩ = some (.bool gp) := FGr9.out.cell 0 0 rfl rfl; have r9c4 : rw9.cell? ⟨w6.heap.size, 1, none⟩ = some (.slice og lg cg) := FGr9.out.cell 0 1 rfl rfl; have r9c5 : rw9.cell? ⟨w6.heap.size, 2, none⟩ = some (.bool gq) := FGr9.out.cell 0 2 rfl rfl; have r9c6 : rw9.cell? ⟨w6.heap.size, 3, none⟩ = some (.slice ug kg dg) := FGr9.out.cell 0 3 rfl rfl; have r9c7 : rw9.cell? ⟨b6, 0, none⟩ = some (.bool nh) := BHr9.out.cell 0; have r9c8 : rw9.cell? ⟨b6, 1, none⟩ = some (.slice oh lh ch) := BHr9.out.cell 1; have r9c9 : rw9.cell? ⟨b6, 2, none⟩ = some (.bool n2h) := BHr9.out.cell 2; have r9c10 : rw9.cell? ⟨b6, 3, none⟩ = some (.slice o2h l2h c2h) := BHr9.out.cell 3) | (go_at_call 15; refine (ratString_any _ _ _ _ _ _ _ (-p) q _ HN0.out (by omega) (by omega)).mono ?_; rintro e rw8 ⟨rfl, hb⟩; have hbb := hb; have FPr8 := Lib.hid (FPr7.out.later hbb); have FFr8 := Lib.hid (FFr7.out.later hbb); have FGr8 := Lib.hid (FGr7.out.later hbb); have BHr8 := Lib.hid (BHr7.out.below hbb BHr7.out.lt); have HFr8 := Lib.hid (HFr7.out.keep hbb); have HGPr8 := Lib.hid (HGPr7.out.keep hbb); have HGQr8 := Lib.hid (HGQr7.out.keep hbb); have HHr8 := Lib.hid (HHr7.out.keep hbb); have HIr8 := Lib.hid (HIr7.out.keep hbb); have HUr8 := Lib.hid (HUr7.out.keep hbb); have HVr8 := Lib.hid (HVr7.out.keep hbb); have HNr8 := Lib.hid (HN0.out.keep hbb); clear hb hbb; have r8c0 : rw8.cell? ⟨w4.heap.size, 0, none⟩ = some (.bool nf) := FFr8.out.cell 0 0 rfl rfl; have r8c1 : rw8.cell? ⟨w4.heap.size, 1, none⟩ = some (.slice of lf cf) := FFr8.out.cell 0 1 rfl rfl; have r8c2 : rw8.cell? ⟨w4.heap.size, 2, none⟩ = some (.slice bf mf df) := FFr8.out.cell 0 2 rfl rfl; have r8c3 : rw8.cell? ⟨w6.heap.size, 0, none⟩ = some (.bool gp) := FGr8.out.cell 0 0 rfl rfl; have r8c4 : rw8.cell? ⟨w6.heap.size, 1, none⟩ = some (.slice og lg cg) := FGr8.out.cell 0 1 rfl rfl; have r8c5 : rw8.cell? ⟨w6.heap.size, 2, none⟩ = some (.bool gq) := FGr8.out.cell 0 2 rfl rfl; have r8c6 : rw8.cell? ⟨w6.heap.size, 3, none⟩ = some (.slice ug kg dg) := FGr8.out.cell 0 3 rfl rfl; have r8c7 : rw8.cell? ⟨b6, 0, none⟩ = some (.bool nh) := BHr8.out.cell 0; have r8c8 : rw8.cell? ⟨b6, 1, none⟩ = some (.slice oh lh ch) := BHr8.out.cell 1; have r8c9 : rw8.cell? ⟨b6, 2, none⟩ = some (.bool n2h) := BHr8.out.cell 2; have r8c10 : rw8.cell? ⟨b6, 3, none⟩ = some (.slice o2h l2h c2h) := BHr8.out.cell 3) | (go_at_call 25; refine (ratNeg_any _ _ _ _ _ _ _ p q _ HFr6.out (by omega) (by omega)).mono ?_; rintro e rw7 ⟨nn, on, ln, cn, bn, mn, dn, rfl, hln, hmn, hz, hb⟩; have hbb := hb; have FPr7 := Lib.hid (FPr6.out.later hbb); have FFr7 := Lib.hid (FFr6.out.later hbb); have FGr7 := Lib.hid (FGr6.out.later hbb); have BHr7 := Lib.hid (BHr6.out.below hbb BHr6.out.lt); have HFr7 := Lib.hid (HFr6.out.keep hbb); have HGPr7 := Lib.hid (HGPr6.out.keep hbb); have HGQr7 := Lib.hid (HGQr6.out.keep hbb); have HHr7 := Lib.hid (HHr6.out.keep hbb); have HIr7 := Lib.hid (HIr6.out.keep hbb); have HUr7 := Lib.hid (HUr6.out.keep hbb); have HVr7 := Lib.hid (HVr6.out.keep hbb); have HN0 := Lib.hid hz; clear hz; clear hb hbb; have r7c0 : rw7.cell? ⟨w4.heap.size, 0, none⟩ = some (.bool nf) := FFr7.out.cell 0 0 rfl rfl; have r7c1 : rw7.cell? ⟨w4.heap.size, 1, none⟩ = some (.slice of lf cf) := FFr7.out.cell 0 1 rfl rfl; have r7c2 : rw7.cell? ⟨w4.heap.size, 2, none⟩ = some (.slice bf mf df) := FFr7.out.cell 0 2 rfl rfl; have r7c3 : rw7.cell? ⟨w6.heap.size, 0, none⟩ = some (.bool gp) := FGr7.out.cell 0 0 rfl rfl; have r7c4 : rw7.cell? ⟨w6.heap.size, 1, none⟩ = some (.slice og lg cg) := FGr7.out.cell 0 1 rfl rfl; have r7c5 : rw7.cell? ⟨w6.heap.size, 2, none⟩ = some (.bool gq) := FGr7.out.cell 0 2 rfl rfl; have r7c6 : rw7.cell? ⟨w6.heap.size, 3, none⟩ = some (.slice ug kg dg) := FGr7.out.cell 0 3 rfl rfl; have r7c7 : rw7.cell? ⟨b6, 0, none⟩ = some (.bool nh) := BHr7.out.cell 0; have r7c8 : rw7.cell? ⟨b6, 1, none⟩ = some (.slice oh lh ch) := BHr7.out.cell 1; have r7c9 : rw7.cell? ⟨b6, 2, none⟩ = some (.bool n2h) := BHr7.out.cell 2; have r7c10 : rw7.cell? ⟨b6, 3, none⟩ = some (.slice o2h l2h c2h) := BHr7.out.cell 3) | (go_at_call 24; refine ((refSignQ_any _ _ _ _ _ _ _ _ p _ HGPr5.out).mono fun e w h => (⟨h.1.trans (congrArg (fun t => Ending.returned (.int .i64 t)) HSG.out.symm), h.2⟩ : e = .returned (.int .i64 sg) ∧ _)).mono ?_; rintro e rw6 ⟨rfl, hb⟩; have hbb := hb; have FPr6 := Lib.hid (FPr5.out.later hbb); have FFr6 := Lib.hid (FFr5.out.later hbb); have FGr6 := Lib.hid (FGr5.out.later hbb); have BHr6 := Lib.hid (BHr5.out.below hbb BHr5.out.lt); have HFr6 := Lib.hid (HFr5.out.keep hbb); have HGPr6 := Lib.hid (HGPr5.out.keep hbb); have HGQr6 := Lib.hid (HGQr5.out.keep hbb); have HHr6 := Lib.hid (HHr5.out.keep hbb); have HIr6 := Lib.hid (HIr5.out.keep hbb); have HUr6 := Lib.hid (HUr5.out.keep hbb); have HVr6 := Lib.hid (HVr5.out.keep hbb); clear hb hbb; have r6c0 : rw6.cell? ⟨w4.heap.size, 0, none⟩ = some (.bool nf) := FFr6.out.cell 0 0 rfl rfl; have r6c1 : rw6.cell? ⟨w4.heap.size, 1, none⟩ = some (.slice of lf cf) := FFr6.out.cell 0 1 rfl rfl; have r6c2 : rw6.cell? ⟨w4.heap.size, 2, none⟩ = some (.slice bf mf df) := FFr6.out.cell 0 2 rfl rfl; have r6c3 : rw6.cell? ⟨w6.heap.size, 0, none⟩ = some (.bool gp) := FGr6.out.cell 0 0 rfl rfl; have r6c4 : rw6.cell? ⟨w6.heap.size, 1, none⟩ = some (.slice og lg cg) := FGr6.out.cell 0 1 rfl rfl; have r6c5 : rw6.cell? ⟨w6.heap.size, 2, none⟩ = some (.bool gq) := FGr6.out.cell 0 2 rfl rfl; have r6c6 : rw6.cell? ⟨w6.heap.size, 3, none⟩ = some (.slice ug kg dg) := FGr6.out.cell 0 3 rfl rfl; have r6c7 : rw6.cell? ⟨b6, 0, none⟩ = some (.bool nh) := BHr6.out.cell 0; have r6c8 : rw6.cell? ⟨b6, 1, none⟩ = some (.slice oh lh ch) := BHr6.out.cell 1; have r6c9 : rw6.cell? ⟨b6, 2, none⟩ = some (.bool n2h) := BHr6.out.cell 2; have r6c10 : rw6.cell? ⟨b6, 3, none⟩ = some (.slice o2h l2h c2h) := BHr6.out.cell 3) | (go_at_call 23; refine ((ratSign_any _ _ _ _ _ _ _ p q _ HFr4.out).mono fun e w h => (⟨h.1.trans (congrArg (fun t => Ending.returned (.int .i64 t)) HSG.out.symm), h.2⟩ : e = .returned (.int .i64 sg) ∧ _)).mono ?_; rintro e rw5 ⟨rfl, hb⟩; have hbb := hb; have FPr5 := Lib.hid (FPr4.out.later hbb); have FFr5 := Lib.hid (FFr4.out.later hbb); have FGr5 := Lib.hid (FGr4.out.later hbb); have BHr5 := Lib.hid (BHr4.out.below hbb BHr4.out.lt); have HFr5 := Lib.hid (HFr4.out.keep hbb); have HGPr5 := Lib.hid (HGPr4.out.keep hbb); have HGQr5 := Lib.hid (HGQr4.out.keep hbb); have HHr5 := Lib.hid (HHr4.out.keep hbb); have HIr5 := Lib.hid (HIr4.out.keep hbb); have HUr5 := Lib.hid (HUr4.out.keep hbb); have HVr5 := Lib.hid (HVr4.out.keep hbb); clear hb hbb; have r5c0 : rw5.cell? ⟨w4.heap.size, 0, none⟩ = some (.bool nf) := FFr5.out.cell 0 0 rfl rfl; have r5c1 : rw5.cell? ⟨w4.heap.size, 1, none⟩ = some (.slice of lf cf) := FFr5.out.cell 0 1 rfl rfl; have r5c2 : rw5.cell? ⟨w4.heap.size, 2, none⟩ = some (.slice bf mf df) := FFr5.out.cell 0 2 rfl rfl; have r5c3 : rw5.cell? ⟨w6.heap.size, 0, none⟩ = some (.bool gp) := FGr5.out.cell 0 0 rfl rfl; have r5c4 : rw5.cell? ⟨w6.heap.size, 1, none⟩ = some (.slice og lg cg) := FGr5.out.cell 0 1 rfl rfl; have r5c5 : rw5.cell? ⟨w6.heap.size, 2, none⟩ = some (.bool gq) := FGr5.out.cell 0 2 rfl rfl; have r5c6 : rw5.cell? ⟨w6.heap.size, 3, none⟩ = some (.slice ug kg dg) := FGr5.out.cell 0 3 rfl rfl; have r5c7 : rw5.cell? ⟨b6, 0, none⟩ = some (.bool nh) := BHr5.out.cell 0; have r5c8 : rw5.cell? ⟨b6, 1, none⟩ = some (.slice oh lh ch) := BHr5.out.cell 1; have r5c9 : rw5.cell? ⟨b6, 2, none⟩ = some (.bool n2h) := BHr5.out.cell 2; have r5c10 : rw5.cell? ⟨b6, 3, none⟩ = some (.slice o2h l2h c2h) := BHr5.out.cell 3) | (go_at_call 20; refine (is_any _ _ _ _ _ _ _ _ (q : Int) _ HV0.out HGQr3.out hlv (by omega)).mono ?_; rintro e rw4 ⟨rfl, hb⟩; have hbb := hb; have FPr4 := Lib.hid (FPr3.out.later hbb); have FFr4 := Lib.hid (FFr3.out.later hbb); have FGr4 := Lib.hid (FGr3.out.later hbb); have BHr4 := Lib.hid (BHr3.out.below hbb BHr3.out.lt); have HFr4 := Lib.hid (HFr3.out.keep hbb); have HGPr4 := Lib.hid (HGPr3.out.keep hbb); have HGQr4 := Lib.hid (HGQr3.out.keep hbb); have HHr4 := Lib.hid (HHr3.out.keep hbb); have HIr4 := Lib.hid (HIr3.out.keep hbb); have HUr4 := Lib.hid (HUr3.out.keep hbb); have HVr4 := Lib.hid (HV0.out.keep hbb); clear hb hbb; have r4c0 : rw4.cell? ⟨w4.heap.size, 0, none⟩ = some (.bool nf) := FFr4.out.cell 0 0 rfl rfl; have r4c1 : rw4.cell? ⟨w4.heap.size, 1, none⟩ = some (.slice of lf cf) := FFr4.out.cell 0 1 rfl rfl; have r4c2 : rw4.cell? ⟨w4.heap.size, 2, none⟩ = some (.slice bf mf df) := FFr4.out.cell 0 2 rfl rfl; have r4c3 : rw4.cell? ⟨w6.heap.size, 0, none⟩ = some (.bool gp) := FGr4.out.cell 0 0 rfl rfl; have r4c4 : rw4.cell? ⟨w6.heap.size, 1, none⟩ = some (.slice og lg cg) := FGr4.out.cell 0 1 rfl rfl; have r4c5 : rw4.cell? ⟨w6.heap.size, 2, none⟩ = some (.bool gq) := FGr4.out.cell 0 2 rfl rfl; have r4c6 : rw4.cell? ⟨w6.heap.size, 3, none⟩ = some (.slice ug kg dg) := FGr4.out.cell 0 3 rfl rfl; have r4c7 : rw4.cell? ⟨b6, 0, none⟩ = some (.bool nh) := BHr4.out.cell 0; have r4c8 : rw4.cell? ⟨b6, 1, none⟩ = some (.slice oh lh ch) := BHr4.out.cell 1; have r4c9 : rw4.cell? ⟨b6, 2, none⟩ = some (.bool n2h) := BHr4.out.cell 2; have r4c10 : rw4.cell? ⟨b6, 3, none⟩ = some (.slice o2h l2h c2h) := BHr4.out.cell 3) | (go_at_call 22; refine (den_any _ _ _ _ _ _ _ p q _ HFr2.out (by omega)).mono ?_; rintro e rw3 ⟨nv, ov, lv, cv, rfl, hzv, hb⟩; have hbb := hb; have FPr3 := Lib.hid (FPr2.out.later hbb); have FFr3 := Lib.hid (FFr2.out.later hbb); have FGr3 := Lib.hid (FGr2.out.later hbb); have BHr3 := Lib.hid (BHr2.out.below hbb BHr2.out.lt); have HFr3 := Lib.hid (HFr2.out.keep hbb); have HGPr3 := Lib.hid (HGPr2.out.keep hbb); have HGQr3 := Lib.hid (HGQr2.out.keep hbb); have HHr3 := Lib.hid (HHr2.out.keep hbb); have HIr3 := Lib.hid (HIr2.out.keep hbb); have HUr3 := Lib.hid (HUr2.out.keep hbb); have HV0 := Lib.hid hzv; have hlv : lv ≤ 1000000000 := Nat.le_trans (fits_len HV0.out ((fits_cast _).2 HFIT.out.2)) (by decide); clear hzv; clear hb hbb; have r3c0 : rw3.cell? ⟨w4.heap.size, 0, none⟩ = some (.bool nf) := FFr3.out.cell 0 0 rfl rfl; have r3c1 : rw3.cell? ⟨w4.heap.size, 1, none⟩ = some (.slice of lf cf) := FFr3.out.cell 0 1 rfl rfl; have r3c2 : rw3.cell? ⟨w4.heap.size, 2, none⟩ = some (.slice bf mf df) := FFr3.out.cell 0 2 rfl rfl; have r3c3 : rw3.cell? ⟨w6.heap.size, 0, none⟩ = some (.bool gp) := FGr3.out.cell 0 0 rfl rfl; have r3c4 : rw3.cell? ⟨w6.heap.size, 1, none⟩ = some (.slice og lg cg) := FGr3.out.cell 0 1 rfl rfl; have r3c5 : rw3.cell? ⟨w6.heap.size, 2, none⟩ = some (.bool gq) := FGr3.out.cell 0 2 rfl rfl; have r3c6 : rw3.cell? ⟨w6.heap.size, 3, none⟩ = some (.slice ug kg dg) := FGr3.out.cell 0 3 rfl rfl; have r3c7 : rw3.cell? ⟨b6, 0, none⟩ = some (.bool nh) := BHr3.out.cell 0; have r3c8 : rw3.cell? ⟨b6, 1, none⟩ = some (.slice oh lh ch) := BHr3.out.cell 1; have r3c9 : rw3.cell? ⟨b6, 2, none⟩ = some (.bool n2h) := BHr3.out.cell 2; have r3c10 : rw3.cell? ⟨b6, 3, none⟩ = some (.slice o2h l2h c2h) := BHr3.out.cell 3) | (go_at_call 20; refine (is_any _ _ _ _ _ _ _ _ p _ HU0.out HGPr1.out hlu (by omega)).mono ?_; rintro e rw2 ⟨rfl, hb⟩; have hbb := hb; have FPr2 := Lib.hid (FPr1.out.later hbb); have FFr2 := Lib.hid (FFr1.out.later hbb); have FGr2 := Lib.hid (FGr1.out.later hbb); have BHr2 := Lib.hid (BHr1.out.below hbb BHr1.out.lt); have HFr2 := Lib.hid (HFr1.out.keep hbb); have HGPr2 := Lib.hid (HGPr1.out.keep hbb); have HGQr2 := Lib.hid (HGQr1.out.keep hbb); have HHr2 := Lib.hid (HHr1.out.keep hbb); have HIr2 := Lib.hid (HIr1.out.keep hbb); have HUr2 := Lib.hid (HU0.out.keep hbb); clear hb hbb; have r2c0 : rw2.cell? ⟨w4.heap.size, 0, none⟩ = some (.bool nf) := FFr2.out.cell 0 0 rfl rfl; have r2c1 : rw2.cell? ⟨w4.heap.size, 1, none⟩ = some (.slice of lf cf) := FFr2.out.cell 0 1 rfl rfl; have r2c2 : rw2.cell? ⟨w4.heap.size, 2, none⟩ = some (.slice bf mf df) := FFr2.out.cell 0 2 rfl rfl; have r2c3 : rw2.cell? ⟨w6.heap.size, 0, none⟩ = some (.bool gp) := FGr2.out.cell 0 0 rfl rfl; have r2c4 : rw2.cell? ⟨w6.heap.size, 1, none⟩ = some (.slice og lg cg) := FGr2.out.cell 0 1 rfl rfl; have r2c5 : rw2.cell? ⟨w6.heap.size, 2, none⟩ = some (.bool gq) := FGr2.out.cell 0 2 rfl rfl; have r2c6 : rw2.cell? ⟨w6.heap.size, 3, none⟩ = some (.slice ug kg dg) := FGr2.out.cell 0 3 rfl rfl; have r2c7 : rw2.cell? ⟨b6, 0, none⟩ = some (.bool nh) := BHr2.out.cell 0; have r2c8 : rw2.cell? ⟨b6, 1, none⟩ = some (.slice oh lh ch) := BHr2.out.cell 1; have r2c9 : rw2.cell? ⟨b6, 2, none⟩ = some (.bool n2h) := BHr2.out.cell 2; have r2c10 : rw2.cell? ⟨b6, 3, none⟩ = some (.slice o2h l2h c2h) := BHr2.out.cell 3) | (go_at_call 21; refine (ratNum_any _ _ _ _ _ _ _ p q _ HFr0.out (by omega)).mono ?_; rintro e rw1 ⟨nu, ou, lu, cu, rfl, hzu, hb⟩; have hbb := hb; have FPr1 := Lib.hid (FPr0.out.later hbb); have FFr1 := Lib.hid (FFr0.out.later hbb); have FGr1 := Lib.hid (FGr0.out.later hbb); have BHr1 := Lib.hid (BHr0.out.below hbb BHr0.out.lt); have HFr1 := Lib.hid (HFr0.out.keep hbb); have HGPr1 := Lib.hid (HGPr0.out.keep hbb); have HGQr1 := Lib.hid (HGQr0.out.keep hbb); have HHr1 := Lib.hid (HHr0.out.keep hbb); have HIr1 := Lib.hid (HIr0.out.keep hbb); have HU0 := Lib.hid hzu; have hlu : lu ≤ 1000000000 := Nat.le_trans (fits_len HU0.out HFIT.out.1) (by decide); clear hzu; clear hb hbb; have r1c0 : rw1.cell? ⟨w4.heap.size, 0, none⟩ = some (.bool nf) := FFr1.out.cell 0 0 rfl rfl; have r1c1 : rw1.cell? ⟨w4.heap.size, 1, none⟩ = some (.slice of lf cf) := FFr1.out.cell 0 1 rfl rfl; have r1c2 : rw1.cell? ⟨w4.heap.size, 2, none⟩ = some (.slice bf mf df) := FFr1.out.cell 0 2 rfl rfl; have r1c3 : rw1.cell? ⟨w6.heap.size, 0, none⟩ = some (.bool gp) := FGr1.out.cell 0 0 rfl rfl; have r1c4 : rw1.cell? ⟨w6.heap.size, 1, none⟩ = some (.slice og lg cg) := FGr1.out.cell 0 1 rfl rfl; have r1c5 : rw1.cell? ⟨w6.heap.size, 2, none⟩ = some (.bool gq) := FGr1.out.cell 0 2 rfl rfl; have r1c6 : rw1.cell? ⟨w6.heap.size, 3, none⟩ = some (.slice ug kg dg) := FGr1.out.cell 0 3 rfl rfl; have r1c7 : rw1.cell? ⟨b6, 0, none⟩ = some (.bool nh) := BHr1.out.cell 0; have r1c8 : rw1.cell? ⟨b6, 1, none⟩ = some (.slice oh lh ch) := BHr1.out.cell 1; have r1c9 : rw1.cell? ⟨b6, 2, none⟩ = some (.bool n2h) := BHr1.out.cell 2; have r1c10 : rw1.cell? ⟨b6, 3, none⟩ = some (.slice o2h l2h c2h) := BHr1.out.cell 3) | (go_at_call 19; refine (same_any _ _ _ _ _ _ _ _ _ _ _ _ _ _ _ p 0 p q q w7.drew (HF7.out.keep (Below.refl _ _).drew) hlf hmf (HGP7.out.keep (Below.refl _ _).drew) (HGQ7.out.keep (Below.refl _ _).drew) hlg hkg TF.out).mono ?_; rintro e rw0 ⟨rfl, hb⟩; have hbb := below_of_drew hb; have FPr0 := Lib.hid (FP7.out.later hbb); have FFr0 := Lib.hid (FF7.out.later hbb); have FGr0 := Lib.hid (FG7.out.later hbb); have BHr0 := Lib.hid (BH7.out.below hbb BH7.out.lt); have HFr0 := Lib.hid (HF7.out.keep hbb); have HGPr0 := Lib.hid (HGP7.out.keep hbb); have HGQr0 := Lib.hid (HGQ7.out.keep hbb); have HHr0 := Lib.hid (HH7.out.keep hbb); have HIr0 := Lib.hid (HI7.out.keep hbb); clear hb hbb; have r0c0 : rw0.cell? ⟨w4.heap.size, 0, none⟩ = some (.bool nf) := FFr0.out.cell 0 0 rfl rfl; have r0c1 : rw0.cell? ⟨w4.heap.size, 1, none⟩ = some (.slice of lf cf) := FFr0.out.cell 0 1 rfl rfl; have r0c2 : rw0.cell? ⟨w4.heap.size, 2, none⟩ = some (.slice bf mf df) := FFr0.out.cell 0 2 rfl rfl; have r0c3 : rw0.cell? ⟨w6.heap.size, 0, none⟩ = some (.bool gp) := FGr0.out.cell 0 0 rfl rfl; have r0c4 : rw0.cell? ⟨w6.heap.size, 1, none⟩ = some (.slice og lg cg) := FGr0.out.cell 0 1 rfl rfl; have r0c5 : rw0.cell? ⟨w6.heap.size, 2, none⟩ = some (.bool gq) := FGr0.out.cell 0 2 rfl rfl; have r0c6 : rw0.cell? ⟨w6.heap.size, 3, none⟩ = some (.slice ug kg dg) := FGr0.out.cell 0 3 rfl rfl; have r0c7 : rw0.cell? ⟨b6, 0, none⟩ = some (.bool nh) := BHr0.out.cell 0; have r0c8 : rw0.cell? ⟨b6, 1, none⟩ = some (.slice oh lh ch) := BHr0.out.cell 1; have r0c9 : rw0.cell? ⟨b6, 2, none⟩ = some (.bool n2h) := BHr0.out.cell 2; have r0c10 : rw0.cell? ⟨b6, 3, none⟩ = some (.slice o2h l2h c2h) := BHr0.out.cell 3))
    go_wp2
    go_ret
    exact ⟨rfl, FPr13.out.below⟩

set_option maxRecDepth 100000 in
theorem lifted (os : Os) (started : os.Started) (H : Type) (enc : TypeId × Value → H) :
    ReturnsInHanded {} Tryz.checked os 3 .any (Rows.numRatsSpec.pre6 enc Tryz.prog Tryz.f3 Rows.numRatsRow.domain false) (Rows.numRatsSpec.post enc Tryz.prog Tryz.f3 false true false false) := by
  refine returnsInHanded_of_change (C := Tryz.checked) own started (by kernel_rfl) Tryz.func3
    (ChangeSpec.witness6 (enc := enc) (C := Tryz.checked) false ⟨#[], #[.agg #[.bool false, .slice none 0 0], .agg #[.bool false, .slice none 0 0]], []⟩ 8 (by kernel_rfl) (by kernel_rfl) (by kernel_rfl) (by kernel_rfl)) ?_
  intro W base args ds gs before hval0 hW hcnd _
  have hval : ∀ (j : Nat) t v, Tryz.f3.params[j]? = some t → args[j]? = some v → Value.okWide Tryz.prog W .any base t v := hval0
  have hW' := hW
  obtain ⟨p, q, hA0, hV, rfl, hfz, hnd⟩ := hW
  have hA : DataW.TrodAll enc Tryz.prog W 0 (fun _ => true) true Tryz.f3.params.toList args.toList ds p := hA0
  have hAk := hA
  rw [Tryz.params3] at hA hval
  obtain ⟨v0, vs0, d0, ds0, p0, q0, hargs, rfl, rfl, h0, r0⟩ := trodAll_cons hA
  obtain ⟨v1, vs1, d1, ds1, p1, q1, rfl, rfl, rfl, h1, r1⟩ := trodAll_cons r0
  obtain ⟨rfl, rfl, rfl⟩ := trodAll_nil r1
  obtain rfl : args = #[v0, v1] := by cases args; simp_all
  obtain ⟨rfl, rfl⟩ := trodVars_none hV
  obtain ⟨s, ao, la, ca, xs, rfl, hs, hd, hla⟩ := open_raw (hval 0 24 v0 rfl rfl) h0
  obtain ⟨s2, ao2, la2, ca2, ys, rfl, hs2, hd2, hla2⟩ := open_raw (hval 1 24 v1 rfl rfl) h1
  clear hA0 hval0
  rw [List.append_nil] at hW'
  refine (walk s s2 ao ao2 la la2 ca ca2 xs ys W hs hd hla hs2 hd2 hla2).mono fun e W' ⟨he, hg⟩ => ?_
  subst he
  exact ⟨_, rfl, post_law (by kernel_rfl) (by rw [Tryz.params3]; intro t ht; simp at ht; subst ht; exact ⟨by kernel_rfl, of_decide_eq_true (by kernel_rfl)⟩) hW' rfl rfl Tryz.underlying4 hAk rfl rfl rfl hg⟩

theorem over : Rows.numRatsRow.holds Tryz.pinned (OpenSpec.ofChange Rows.numRatsSpec) :=
  OpenClaim.holds_of_wide 3 Tryz.f3 rfl rfl rfl rfl rfl rfl rfl ⟨rfl, rfl, rfl, rfl, rfl⟩ rfl rfl rfl rfl rfl (by kernel_rfl) Tryz.func3 (by kernel_rfl)
    (of_decide_eq_true (by kernel_rfl)) (by unfold Func.isWrapper; first | (rw [if_pos (by decide +kernel)]; kernel_rfl) | (rw [if_neg (by decide +kernel)]; exact ⟨rfl, rfl⟩))
    (fun os started H enc _ => lifted os started H enc)

/-- the statement -/
theorem proved : Rows.NumRatsSaid :=
  over
end Go.Proofs.YtbihgllfllkkaaaGreat.numRats
