/- For all integers x and y, NumGcds(x, y) returns true, ends, and turns nothing that was there. For every input; no condition. -/
import Derived.Test.YtbihgllfllkkaaaRows
import Derived.WalkKit
import Derived.ProofKit
import Derived.OpenShut
import Derived.Test.YtbihgllfllkkaaaPart11
namespace Go.Proofs.Ytbihgllfllkkaaa.numGcds
open Go.ChangeShapes Go.WideShapes Go.ChangeAt Go.RowKit Go.Proofs.Ytbihgllfllkkaaa
set_option linter.unusedVariables false

theorem own : ownKnob Try.prog.godebug = none := by kernel_rfl

set_option maxHeartbeats 8000000 in
theorem walk (s1 s2 : Bool) (a1 a2 : Option Addr) (l1 l2 c1 c2 : Nat) (xs ys : List Nat) (W : World) (hs1 : Sl .u16 W a1 l1 xs) (hd1 : Dig B16 xs) (hl1 : l1 ≤ 9223372036854775807) (hs2 : Sl .u16 W a2 l2 ys) (hd2 : Dig B16 ys) (hl2 : l2 ≤ 9223372036854775807) :
    Calls Try.prog 4 #[.agg #[.bool s1, .slice a1 l1 c1], .agg #[.bool s2, .slice a2 l2 c2]] W fun e w' => e = .returned (.bool true) ∧ Below W.heap.size W w' := by
  have hf : Fr W ((W.alloc (.cells #[.bool s1, .slice a1 l1 c1] 24)).alloc (.cells #[.bool s2, .slice a2 l2 c2] 24)) [(24, #[.bool s1, .slice a1 l1 c1]), (24, #[.bool s2, .slice a2 l2 c2])] := ((Fr.nil W).alloc rfl _ _).alloc (by simp) _ _
  have FP0 := Lib.hid hf
  have HS1 := Lib.hid (hs1.keep hf.below)
  have HS2 := Lib.hid (hs2.keep hf.below)
  have HD1 := Lib.hid hd1
  have HD2 := Lib.hid hd2
  obtain ⟨x, hx⟩ : ∃ x, x = rawZ s1 xs 40 := ⟨_, rfl⟩
  obtain ⟨y, hy⟩ : ∃ y, y = rawZ s2 ys 40 := ⟨_, rfl⟩
  have HFX : Hid (Fits x) := by rw [hx]; exact rawZ_fits s1 xs hd1 40 (by decide)
  have HFY : Hid (Fits y) := by rw [hy]; exact rawZ_fits s2 ys hd2 40 (by decide)
  have HX := Lib.hid hx
  have HY := Lib.hid hy
  clear hf hs1 hs2 hd1 hd2 hx hy
  go_enter Try.func4, Try.ntmps4
  go_wp2_with fail
  rename_i Q0 K0 hK0
  refine two_of 11 12 13 14 5 6 2 3 7 (.int .i64 40) (.bool s1) (.slice a1 l1 c1) (.bool s2) (.slice a2 l2 c2) W.heap.size (W.heap.size + 1) x y _ Try.func7 (by kernel_rfl) rfl (by kernel_rfl) rfl rfl rfl rfl rfl rfl rfl rfl rfl rfl (by decide) (by decide) (by simp; omega) (by simp)
    (FP0.out.cell 0 0 rfl rfl) (FP0.out.cell 0 1 rfl rfl) (FP0.out.cell 1 0 rfl rfl) (FP0.out.cell 1 1 rfl rfl)
    (fun w hb hsz => by rw [HX.out]; exact lawOf_any s1 _ _ _ xs _ 40 w (HS1.out.keep hb) HD1.out rfl (by decide) hl1) (fun w hb hsz => by rw [HY.out]; exact lawOf_any s2 _ _ _ ys _ 40 w (HS2.out.keep hb) HD2.out rfl (by decide) hl2) ?_
  intro w1 b1 b2 n1 x1 m1 k1 n2 x2 m2 k2 hb1 hb11 hb12 hne hbx1 hbx2 h1k h1m h2k h2m hz1 hz2
  refine hK0 _ _ ?_
  have hm1 : m1 ≤ 1000000 := Nat.le_trans (fits_len16 hz1 HFX.out) (by decide)
  have hm2 : m2 ≤ 1000000 := Nat.le_trans (fits_len16 hz2 HFY.out) (by decide)
  have hm1' : m1 ≤ 1000000000 := by omega
  have hm2' : m2 ≤ 1000000000 := by omega
  have BA1 := Lib.hid hbx1
  have BB1 := Lib.hid hbx2
  have HA1 := Lib.hid hz1
  have HB1 := Lib.hid hz2
  have FP1 := Lib.hid (FP0.out.later hb1)
  clear hb1 hb11 hb12 hne hbx1 hbx2 hz1 hz2 FP0 HS1 HS2 hK0
  simp only [puts, Act.put]
  have qq0 : w1.cell? ⟨b1, 0, none⟩ = some (.bool n1) := BA1.out.cell 0
  have qq1 : w1.cell? ⟨b1, 1, none⟩ = some (.slice x1 m1 k1) := BA1.out.cell 1
  have qq2 : w1.cell? ⟨b2, 0, none⟩ = some (.bool n2) := BB1.out.cell 0
  have qq3 : w1.cell? ⟨b2, 1, none⟩ = some (.slice x2 m2 k2) := BB1.out.cell 1
  go_wp2_with fail
  refine (((two_any _ _ _ _ _ _ _ _ x y _ HA1.out HB1.out hm1 hm2).mono fun e w h => h.fits HFX.out HFY.out)).mono ?_
  rintro e w2 ⟨nc, oc, lc, cc, nd, od, ld, cd, rfl, hlc, hld, hzc, hzd, hb⟩
  clear qq0 qq1 qq2 qq3
  have FP2 := Lib.hid (FP1.out.later hb)
  have BA2 := Lib.hid (BA1.out.below hb BA1.out.lt)
  have BB2 := Lib.hid (BB1.out.below hb BB1.out.lt)
  have HA2 := Lib.hid (HA1.out.keep hb)
  have HB2 := Lib.hid (HB1.out.keep hb)
  have hfc : Fr w2 ((w2.alloc (.cells #[.bool nc, .slice oc lc cc] 31)).alloc (.cells #[.bool nd, .slice od ld cd] 31)) [(31, #[.bool nc, .slice oc lc cc]), (31, #[.bool nd, .slice od ld cd])] := ((Fr.nil w2).alloc rfl _ _).alloc (by simp) _ _
  have FP3 := Lib.hid (FP2.out.later hfc.below)
  have BA3 := Lib.hid (BA2.out.below hfc.below BA2.out.lt)
  have BB3 := Lib.hid (BB2.out.below hfc.below BB2.out.lt)
  have HA3 := Lib.hid (HA2.out.keep hfc.below)
  have HB3 := Lib.hid (HB2.out.keep hfc.below)
  have FC3 := Lib.hid hfc
  have HC3 := Lib.hid (hzc.keep hfc.below)
  have HD3 := Lib.hid (hzd.keep hfc.below)
  clear hb hzc hzd hfc
  have hlc1 : lc ≤ 100000000 := by omega
  have hld1 : ld ≤ 100000000 := by omega
  have hlc2 : lc ≤ 1000000000 := by omega
  have hld2 : ld ≤ 1000000000 := by omega
  have qq0 : ((w2.alloc (.cells #[.bool nc, .slice oc lc cc] 31)).alloc (.cells #[.bool nd, .slice od ld cd] 31)).cell? ⟨b1, 0, none⟩ = some (.bool n1) := BA3.out.cell 0
  have qq1 : ((w2.alloc (.cells #[.bool nc, .slice oc lc cc] 31)).alloc (.cells #[.bool nd, .slice od ld cd] 31)).cell? ⟨b1, 1, none⟩ = some (.slice x1 m1 k1) := BA3.out.cell 1
  have qq2 : ((w2.alloc (.cells #[.bool nc, .slice oc lc cc] 31)).alloc (.cells #[.bool nd, .slice od ld cd] 31)).cell? ⟨b2, 0, none⟩ = some (.bool n2) := BB3.out.cell 0
  have qq3 : ((w2.alloc (.cells #[.bool nc, .slice oc lc cc] 31)).alloc (.cells #[.bool nd, .slice od ld cd] 31)).cell? ⟨b2, 1, none⟩ = some (.slice x2 m2 k2) := BB3.out.cell 1
  go_wp2_with fail
  refine (gcdZ16_any _ _ _ _ _ _ _ _ x y _ HA3.out HB3.out hm1 hm2 h1k h1m h2k h2m).mono ?_
  rintro e w4 ⟨ng, og, lg, cg, rfl, hg1, hg2, hzg, hb⟩
  clear qq0 qq1 qq2 qq3
  have FP4a := Lib.hid (FP3.out.later hb)
  have FC4a := Lib.hid (FC3.out.later hb)
  have BA4a := Lib.hid (BA3.out.below hb BA3.out.lt)
  have BB4a := Lib.hid (BB3.out.below hb BB3.out.lt)
  have HA4a := Lib.hid (HA3.out.keep hb)
  have HB4a := Lib.hid (HB3.out.keep hb)
  have HC4a := Lib.hid (HC3.out.keep hb)
  have HD4a := Lib.hid (HD3.out.keep hb)
  have hf4 : Fr w4 (w4.alloc (.cells #[.bool ng, .slice og lg cg] 27)) [(27, #[.bool ng, .slice og lg cg])] := (Fr.nil w4).alloc rfl _ _
  have FP4b := Lib.hid (FP4a.out.later hf4.below)
  have FC4b := Lib.hid (FC4a.out.later hf4.below)
  have BA4b := Lib.hid (BA4a.out.below hf4.below BA4a.out.lt)
  have BB4b := Lib.hid (BB4a.out.below hf4.below BB4a.out.lt)
  have HA4b := Lib.hid (HA4a.out.keep hf4.below)
  have HB4b := Lib.hid (HB4a.out.keep hf4.below)
  have HC4b := Lib.hid (HC4a.out.keep hf4.below)
  have HD4b := Lib.hid (HD4a.out.keep hf4.below)
  have FG4 := Lib.hid hf4
  have HG4 := Lib.hid (hzg.keep hf4.below)
  have hlg : lg ≤ 1000000000 := Nat.le_trans (fits_len16 hzg (fits_gcd HFX.out HFY.out)) (by decide)
  clear hb hzg hf4
  have qq0 : (w4.alloc (.cells #[.bool ng, .slice og lg cg] 27)).cell? ⟨w2.heap.size, 0, none⟩ = some (.bool nc) := FC4b.out.cell 0 0 rfl rfl
  have qq1 : (w4.alloc (.cells #[.bool ng, .slice og lg cg] 27)).cell? ⟨w2.heap.size, 1, none⟩ = some (.slice oc lc cc) := FC4b.out.cell 0 1 rfl rfl
  have qq2 : (w4.alloc (.cells #[.bool ng, .slice og lg cg] 27)).cell? ⟨w2.heap.size + 1, 0, none⟩ = some (.bool nd) := FC4b.out.cell 1 0 rfl rfl
  have qq3 : (w4.alloc (.cells #[.bool ng, .slice og lg cg] 27)).cell? ⟨w2.heap.size + 1, 1, none⟩ = some (.slice od ld cd) := FC4b.out.cell 1 1 rfl rfl
  have qq4 : (w4.alloc (.cells #[.bool ng, .slice og lg cg] 27)).cell? ⟨w4.heap.size, 0, none⟩ = some (.bool ng) := FG4.out.cell 0 0 rfl rfl
  have qq5 : (w4.alloc (.cells #[.bool ng, .slice og lg cg] 27)).cell? ⟨w4.heap.size, 1, none⟩ = some (.slice og lg cg) := FG4.out.cell 0 1 rfl rfl
  go_wp2_with fail
  obtain ⟨V, hV⟩ : ∃ V, V = (w4.alloc (.cells #[.bool ng, .slice og lg cg] 27)) := ⟨_, rfl⟩
  rw [← hV] at FP4b FC4b FG4 BA4b BB4b HA4b HB4b HC4b HD4b HG4 qq0 qq1 qq2 qq3 qq4 qq5 ⊢
  clear hV
  go_region_held3 (fun w' => w'.cell? ⟨w2.heap.size, 0, none⟩ = some (.bool nc) ∧ w'.cell? ⟨w2.heap.size, 1, none⟩ = some (.slice oc lc cc) ∧ w'.cell? ⟨w2.heap.size + 1, 0, none⟩ = some (.bool nd) ∧ w'.cell? ⟨w2.heap.size + 1, 1, none⟩ = some (.slice od ld cd) ∧ w'.cell? ⟨w4.heap.size, 0, none⟩ = some (.bool ng) ∧ w'.cell? ⟨w4.heap.size, 1, none⟩ = some (.slice og lg cg)) (go_keep)
    (first | (go_at_call 12; refine (awake_any _).mono ?_; rintro e rw4 ⟨rfl, hb⟩; have hbb := hb; have FPr4 := Lib.hid (FPr3.out.later hbb); have FCr4 := Lib.hid (FCr3.out.later hbb); have FGr4 := Lib.hid (FGr3.out.later hbb); have BAr4 := Lib.hid (BAr3.out.below hbb BAr3.out.lt); have BBr4 := Lib.hid (BBr3.out.below hbb BBr3.out.lt); have HAr4 := Lib.hid (HAr3.out.keep hbb); have HBr4 := Lib.hid (HBr3.out.keep hbb); have HCr4 := Lib.hid (HCr3.out.keep hbb); have HDr4 := Lib.hid (HDr3.out.keep hbb); have HGr4 := Lib.hid (HGr3.out.keep hbb); have HUr4 := Lib.hid (HUr3.out.keep hbb); have HVr4 := Lib.hid (HVr3.out.keep hbb); clear hb hbb; have r4c0 : rw4.cell? ⟨w2.heap.size, 0, none⟩ = some (.bool nc) := FCr4.out.cell 0 0 rfl rfl; have r4c1 : rw4.cell? ⟨w2.heap.size, 1, none⟩ = some (.slice oc lc cc) := FCr4.out.cell 0 1 rfl rfl; have r4c2 : rw4.cell? ⟨w2.heap.size + 1, 0, none⟩ = some (.bool nd) := FCr4.out.cell 1 0 rfl rfl; have r4c3 : rw4.cell? ⟨w2.heap.size + 1, 1, none⟩ = some (.slice od ld cd) := FCr4.out.cell 1 1 rfl rfl; have r4c4 : rw4.cell? ⟨w4.heap.size, 0, none⟩ = some (.bool ng) := FGr4.out.cell 0 0 rfl rfl; have r4c5 : rw4.cell? ⟨w4.heap.size, 1, none⟩ = some (.slice og lg cg) := FGr4.out.cell 0 1 rfl rfl) | (go_at_call 16; refine (is_any _ _ _ _ _ _ _ _ _ _ HV0.out HGr2.out hlv hlg).mono ?_; rintro e rw3 ⟨rfl, hb⟩; have hbb := hb; have FPr3 := Lib.hid (FPr2.out.later hbb); have FCr3 := Lib.hid (FCr2.out.later hbb); have FGr3 := Lib.hid (FGr2.out.later hbb); have BAr3 := Lib.hid (BAr2.out.below hbb BAr2.out.lt); have BBr3 := Lib.hid (BBr2.out.below hbb BBr2.out.lt); have HAr3 := Lib.hid (HAr2.out.keep hbb); have HBr3 := Lib.hid (HBr2.out.keep hbb); have HCr3 := Lib.hid (HCr2.out.keep hbb); have HDr3 := Lib.hid (HDr2.out.keep hbb); have HGr3 := Lib.hid (HGr2.out.keep hbb); have HUr3 := Lib.hid (HUr2.out.keep hbb); have HVr3 := Lib.hid (HV0.out.keep hbb); clear hb hbb; have r3c0 : rw3.cell? ⟨w2.heap.size, 0, none⟩ = some (.bool nc) := FCr3.out.cell 0 0 rfl rfl; have r3c1 : rw3.cell? ⟨w2.heap.size, 1, none⟩ = some (.slice oc lc cc) := FCr3.out.cell 0 1 rfl rfl; have r3c2 : rw3.cell? ⟨w2.heap.size + 1, 0, none⟩ = some (.bool nd) := FCr3.out.cell 1 0 rfl rfl; have r3c3 : rw3.cell? ⟨w2.heap.size + 1, 1, none⟩ = some (.slice od ld cd) := FCr3.out.cell 1 1 rfl rfl; have r3c4 : rw3.cell? ⟨w4.heap.size, 0, none⟩ = some (.bool ng) := FGr3.out.cell 0 0 rfl rfl; have r3c5 : rw3.cell? ⟨w4.heap.size, 1, none⟩ = some (.slice og lg cg) := FGr3.out.cell 0 1 rfl rfl) | (go_at_call 17; refine (gcdI_any _ _ _ _ _ _ _ _ y x _ HDr1.out HCr1.out hld2 hlc2).mono ?_; rintro e rw2 ⟨nv, ov, lv, cv, rfl, hzv, hb⟩; have hbb := hb; have FPr2 := Lib.hid (FPr1.out.later hbb); have FCr2 := Lib.hid (FCr1.out.later hbb); have FGr2 := Lib.hid (FGr1.out.later hbb); have BAr2 := Lib.hid (BAr1.out.below hbb BAr1.out.lt); have BBr2 := Lib.hid (BBr1.out.below hbb BBr1.out.lt); have HAr2 := Lib.hid (HAr1.out.keep hbb); have HBr2 := Lib.hid (HBr1.out.keep hbb); have HCr2 := Lib.hid (HCr1.out.keep hbb); have HDr2 := Lib.hid (HDr1.out.keep hbb); have HGr2 := Lib.hid (HGr1.out.keep hbb); have HUr2 := Lib.hid (HUr1.out.keep hbb); have HV0 := Lib.hid (show Z32 _ _ _ _ ((Int.gcd x y : Nat) : Int) by rw [Int.gcd_comm]; exact hzv); have hlv : lv ≤ 1000000000 := Nat.le_trans (fits_len HV0.out (fits_gcd HFX.out HFY.out)) (by decide); clear hzv; clear hb hbb; have r2c0 : rw2.cell? ⟨w2.heap.size, 0, none⟩ = some (.bool nc) := FCr2.out.cell 0 0 rfl rfl; have r2c1 : rw2.cell? ⟨w2.heap.size, 1, none⟩ = some (.slice oc lc cc) := FCr2.out.cell 0 1 rfl rfl; have r2c2 : rw2.cell? ⟨w2.heap.size + 1, 0, none⟩ = some (.bool nd) := FCr2.out.cell 1 0 rfl rfl; have r2c3 : rw2.cell? ⟨w2.heap.size + 1, 1, none⟩ = some (.slice od ld cd) := FCr2.out.cell 1 1 rfl rfl; have r2c4 : rw2.cell? ⟨w4.heap.size, 0, none⟩ = some (.bool ng) := FGr2.out.cell 0 0 rfl rfl; have r2c5 : rw2.cell? ⟨w4.heap.size, 1, none⟩ = some (.slice og lg cg) := FGr2.out.cell 0 1 rfl rfl) | (go_at_call 16; refine (is_any _ _ _ _ _ _ _ _ _ _ HU0.out HGr0.out hlu hlg).mono ?_; rintro e rw1 ⟨rfl, hb⟩; have hbb := hb; have FPr1 := Lib.hid (FPr0.out.later hbb); have FCr1 := Lib.hid (FCr0.out.later hbb); have FGr1 := Lib.hid (FGr0.out.later hbb); have BAr1 := Lib.hid (BAr0.out.below hbb BAr0.out.lt); have BBr1 := Lib.hid (BBr0.out.below hbb BBr0.out.lt); have HAr1 := Lib.hid (HAr0.out.keep hbb); have HBr1 := Lib.hid (HBr0.out.keep hbb); have HCr1 := Lib.hid (HCr0.out.keep hbb); have HDr1 := Lib.hid (HDr0.out.keep hbb); have HGr1 := Lib.hid (HGr0.out.keep hbb); have HUr1 := Lib.hid (HU0.out.keep hbb); clear hb hbb; have r1c0 : rw1.cell? ⟨w2.heap.size, 0, none⟩ = some (.bool nc) := FCr1.out.cell 0 0 rfl rfl; have r1c1 : rw1.cell? ⟨w2.heap.size, 1, none⟩ = some (.slice oc lc cc) := FCr1.out.cell 0 1 rfl rfl; have r1c2 : rw1.cell? ⟨w2.heap.size + 1, 0, none⟩ = some (.bool nd) := FCr1.out.cell 1 0 rfl rfl; have r1c3 : rw1.cell? ⟨w2.heap.size + 1, 1, none⟩ = some (.slice od ld cd) := FCr1.out.cell 1 1 rfl rfl; have r1c4 : rw1.cell? ⟨w4.heap.size, 0, none⟩ = some (.bool ng) := FGr1.out.cell 0 0 rfl rfl; have r1c5 : rw1.cell? ⟨w4.heap.size, 1, none⟩ = some (.slice og lg cg) := FGr1.out.cell 0 1 rfl rfl) | (go_at_call 17; refine (gcdI_any _ _ _ _ _ _ _ _ x y V.drew (HC4b.out.keep (Below.refl _ _).drew) (HD4b.out.keep (Below.refl _ _).drew) hlc2 hld2).mono ?_; rintro e rw0 ⟨nu, ou, lu, cu, rfl, hzu, hb⟩; have hbb := below_of_drew hb; have FPr0 := Lib.hid (FP4b.out.later hbb); have FCr0 := Lib.hid (FC4b.out.later hbb); have FGr0 := Lib.hid (FG4.out.later hbb); have BAr0 := Lib.hid (BA4b.out.below hbb BA4b.out.lt); have BBr0 := Lib.hid (BB4b.out.below hbb BB4b.out.lt); have HAr0 := Lib.hid (HA4b.out.keep hbb); have HBr0 := Lib.hid (HB4b.out.keep hbb); have HCr0 := Lib.hid (HC4b.out.keep hbb); have HDr0 := Lib.hid (HD4b.out.keep hbb); have HGr0 := Lib.hid (HG4.out.keep hbb); have HU0 := Lib.hid hzu; have hlu : lu ≤ 1000000000 := Nat.le_trans (fits_len HU0.out (fits_gcd HFX.out HFY.out)) (by decide); clear hzu; clear hb hbb; have r0c0 : rw0.cell? ⟨w2.heap.size, 0, none⟩ = some (.bool nc) := FCr0.out.cell 0 0 rfl rfl; have r0c1 : rw0.cell? ⟨w2.heap.size, 1, none⟩ = some (.slice oc lc cc) := FCr0.out.cell 0 1 rfl rfl; have r0c2 : rw0.cell? ⟨w2.heap.size + 1, 0, none⟩ = some (.bool nd) := FCr0.out.cell 1 0 rfl rfl; have r0c3 : rw0.cell? ⟨w2.heap.size + 1, 1, none⟩ = some (.slice od ld cd) := FCr0.out.cell 1 1 rfl rfl; have r0c4 : rw0.cell? ⟨w4.heap.size, 0, none⟩ = some (.bool ng) := FGr0.out.cell 0 0 rfl rfl; have r0c5 : rw0.cell? ⟨w4.heap.size, 1, none⟩ = some (.slice og lg cg) := FGr0.out.cell 0 1 rfl rfl))
  go_wp2
  go_ret
  exact ⟨rfl, FPr4.out.below⟩

set_option maxRecDepth 100000 in
theorem lifted (os : Os) (started : os.Started) (H : Type) (enc : TypeId × Value → H) :
    ReturnsInHanded {} Try.checked os 4 .any (Rows.numGcdsSpec.pre6 enc Try.prog Try.f4 Rows.numGcdsRow.domain false) (Rows.numGcdsSpec.post enc Try.prog Try.f4 false true false false) := by
  refine returnsInHanded_of_change (C := Try.checked) own started (by kernel_rfl) Try.func4
    (ChangeSpec.witness6 (enc := enc) (C := Try.checked) false ⟨#[], #[.agg #[.bool false, .slice none 0 0], .agg #[.bool false, .slice none 0 0]], []⟩ 8 (by kernel_rfl) (by kernel_rfl) (by kernel_rfl) (by kernel_rfl)) ?_
  intro W base args ds gs before hval0 hW hcnd _
  have hval : ∀ (j : Nat) t v, Try.f4.params[j]? = some t → args[j]? = some v → Value.okWide Try.prog W .any base t v := hval0
  have hW' := hW
  obtain ⟨p, q, hA0, hV, rfl, hfz, hnd⟩ := hW
  have hA : DataW.TrodAll enc Try.prog W 0 (fun _ => true) true Try.f4.params.toList args.toList ds p := hA0
  have hAk := hA
  rw [Try.params4] at hA hval
  obtain ⟨v0, vs0, d0, ds0, p0, q0, hargs, rfl, rfl, h0, r0⟩ := trodAll_cons hA
  obtain ⟨v1, vs1, d1, ds1, p1, q1, rfl, rfl, rfl, h1, r1⟩ := trodAll_cons r0
  obtain ⟨rfl, rfl, rfl⟩ := trodAll_nil r1
  obtain rfl : args = #[v0, v1] := by cases args; simp_all
  obtain ⟨rfl, rfl⟩ := trodVars_none hV
  obtain ⟨s, ao, la, ca, xs, rfl, hs, hd, hla⟩ := open_raw (hval 0 24 v0 rfl rfl) h0
  obtain ⟨s2, ao2, la2, ca2, ys, rfl, hs2, hd2, hla2⟩ := open_raw (hval 1 24 v1 rfl rfl) h1
  clear hA0 hval0
  rw [List.append_nil] at hW'
  refine (walk s s2 ao ao2 la la2 ca ca2 xs ys W hs hd hla hs2 hd2 hla2).mono fun e W' ⟨he, hg⟩ => ?_
  subst he
  exact ⟨_, rfl, post_law (by kernel_rfl) (by rw [Try.params4]; intro t ht; simp at ht; subst ht; exact ⟨by kernel_rfl, of_decide_eq_true (by kernel_rfl)⟩) hW' rfl rfl Try.underlying4 hAk rfl rfl rfl hg⟩

theorem over : Rows.numGcdsRow.holds Try.pinned (OpenSpec.ofChange Rows.numGcdsSpec) :=
  OpenClaim.holds_of_wide 4 Try.f4 rfl rfl rfl rfl rfl rfl rfl ⟨rfl, rfl, rfl, rfl, rfl⟩ rfl rfl rfl rfl rfl (by kernel_rfl) Try.func4 (by kernel_rfl)
    (of_decide_eq_true (by kernel_rfl)) (by unfold Func.isWrapper; first | (rw [if_pos (by decide +kernel)]; kernel_rfl) | (rw [if_neg (by decide +kernel)]; exact ⟨rfl, rfl⟩))
    (fun os started H enc _ => lifted os started H enc)

/-- the statement -/
theorem proved : Rows.NumGcdsSaid :=
  over
end Go.Proofs.Ytbihgllfllkkaaa.numGcds
