/- For all integers a and b, NumKeeps(a, b) returns true, ends, and turns nothing that was there. For every input; no condition. -/
import Derived.Test.YtcgnmihabkgecaaRows
import Derived.IntWalk
import Derived.WalkKit
import Derived.ProofKit
import Derived.OpenShut
import Derived.Test.YtcgnmihabkgecaaPart13
namespace Go.Proofs.Ytcgnmihabkgecaa.numKeeps
open Go.ChangeShapes Go.WideShapes Go.ChangeAt Go.RowKit Go.Proofs.Ytcgnmihabkgecaa
set_option linter.unusedVariables false

theorem own : ownKnob Try.prog.godebug = none := by kernel_rfl

set_option maxHeartbeats 64000000 in
set_option maxRecDepth 100000 in
theorem walk (s1 s2 : Bool) (a1 a2 : Option Addr) (l1 l2 c1 c2 : Nat) (xs ys : List Nat) (W : World) (hs1 : Sl .u16 W a1 l1 xs) (hd1 : Dig B16 xs) (hl1 : l1 ≤ 9223372036854775807) (hs2 : Sl .u16 W a2 l2 ys) (hd2 : Dig B16 ys) (hl2 : l2 ≤ 9223372036854775807) :
    Calls Try.prog 3 #[.agg #[.bool s1, .slice a1 l1 c1], .agg #[.bool s2, .slice a2 l2 c2]] W fun e w' => e = .returned (.bool true) ∧ Below W.heap.size W w' := by
  have hf : Fr W ((W.alloc (.cells #[.bool s1, .slice a1 l1 c1] 24)).alloc (.cells #[.bool s2, .slice a2 l2 c2] 24)) [(24, #[.bool s1, .slice a1 l1 c1]), (24, #[.bool s2, .slice a2 l2 c2])] := ((Fr.nil W).alloc rfl _ _).alloc (by simp) _ _
  have FP0 := Lib.hid hf
  have HS1 := Lib.hid (hs1.keep hf.below)
  have HS2 := Lib.hid (hs2.keep hf.below)
  have HD1 := Lib.hid hd1
  have HD2 := Lib.hid hd2
  obtain ⟨x, hx⟩ : ∃ x, x = rawZ s1 xs 60 := ⟨_, rfl⟩
  obtain ⟨y, hy⟩ : ∃ y, y = rawZ s2 ys 60 := ⟨_, rfl⟩
  have KX : Hid (Bl 960 x) := by rw [hx]; exact rawZ_bl s1 xs hd1 60
  have KY : Hid (Bl 960 y) := by rw [hy]; exact rawZ_bl s2 ys hd2 60
  have HX := Lib.hid hx
  have HY := Lib.hid hy
  clear hf hs1 hs2 hd1 hd2 hx hy
  go_enter Try.func3, Try.ntmps3
  go_upto_region 1 with fail
  go_wp2_with fail
  rename_i hK0
  refine two_two 29 30 31 32 33 28 34 35 36 5 6 7 2 3 5 4 (.int .i64 60) (.bool s1) (.slice a1 l1 c1) (.bool s2) (.slice a2 l2 c2) W.heap.size (W.heap.size + 1) x y _ _ Try.func5 (by kernel_rfl) rfl Try.func4 (by kernel_rfl) rfl (by kernel_rfl)
    rfl rfl rfl rfl rfl rfl rfl rfl rfl rfl rfl rfl rfl rfl rfl rfl (by decide) (by decide) (by first | (simp; done) | (simp; omega)) (by first | (simp; done) | (simp; omega))
    (FP0.out.cell 0 0 rfl rfl) (FP0.out.cell 0 1 rfl rfl) (FP0.out.cell 1 0 rfl rfl) (FP0.out.cell 1 1 rfl rfl)
    (fun w hb hsz => by rw [HX.out]; exact lawOf_any s1 _ _ _ xs _ 60 w (HS1.out.keep hb) HD1.out rfl (by decide) hl1) (fun w hb hsz => by rw [HY.out]; exact lawOf_any s2 _ _ _ ys _ 60 w (HS2.out.keep hb) HD2.out rfl (by decide) hl2)
    (fun w n1 x1 m1 k1 n2 x2 m2 k2 h1 h2 => (two_any n1 n2 x1 x2 m1 m2 k1 k2 x y w h1 h2 (Nat.le_trans (fits_len16 h1 (KX.out.fits (by decide))) (by decide)) (Nat.le_trans (fits_len16 h2 (KY.out.fits (by decide))) (by decide))).mono fun e w h => h.fits (KX.out.fits (by decide)) (KY.out.fits (by decide))) ?_
  intro w1 b1 b2 nx ox lx cx ny oy ly cy d1 d3 d4 d5 hb1 hb11 hb12 hne hbx1 hbx2 hlx hly hz1 hz2
  refine hK0 _ _ ?_
  have BX1 := Lib.hid hbx1
  have BY1 := Lib.hid hbx2
  have HX1 := Lib.hid hz1
  have HY1 := Lib.hid hz2
  have FP1 := Lib.hid (FP0.out.later hb1)
  clear hb1 hb11 hb12 hne hbx1 hbx2 hz1 hz2 FP0 HS1 HS2 hK0
  simp only [puts, Act.put]
  have hlx1 : lx ≤ 100000000 := by omega
  have hly1 : ly ≤ 100000000 := by omega
  have hlx2 : lx ≤ 1000000000 := by omega
  have hly2 : ly ≤ 1000000000 := by omega
  have KX4 : Hid (Bl 4000 x) := KX.out.mono (by decide)
  have KY4 : Hid (Bl 4000 y) := KY.out.mono (by decide)
  go_wp2_with fail
  have qq0 : w1.cell? ⟨b1, 0, none⟩ = some (.bool nx) := BX1.out.cell 0
  have qq1 : w1.cell? ⟨b1, 1, none⟩ = some (.slice ox lx cx) := BX1.out.cell 1
  have qq2 : w1.cell? ⟨b2, 0, none⟩ = some (.bool ny) := BY1.out.cell 0
  have qq3 : w1.cell? ⟨b2, 1, none⟩ = some (.slice oy ly cy) := BY1.out.cell 1
  go_region_held3 (fun w' => w'.cell? ⟨b1, 0, none⟩ = some (.bool nx) ∧ w'.cell? ⟨b1, 1, none⟩ = some (.slice ox lx cx) ∧ w'.cell? ⟨b2, 0, none⟩ = some (.bool ny) ∧ w'.cell? ⟨b2, 1, none⟩ = some (.slice oy ly cy)) (go_keep)
    (first | (go_at_call 6; refine (string_any _ _ _ _ y _ HYr0.out hly2).mono ?_; rintro e rw1 ⟨rfl, hb⟩; have hbb := hb; have FPr1 := Lib.hid (FPr0.out.later hbb); have BXr1 := Lib.hid (BXr0.out.below hbb BXr0.out.lt); have BYr1 := Lib.hid (BYr0.out.below hbb BYr0.out.lt); have HXr1 := Lib.hid (HXr0.out.keep hbb); have HYr1 := Lib.hid (HYr0.out.keep hbb); clear hb hbb; have r1c0 : rw1.cell? ⟨b1, 0, none⟩ = some (.bool nx) := BXr1.out.cell 0; have r1c1 : rw1.cell? ⟨b1, 1, none⟩ = some (.slice ox lx cx) := BXr1.out.cell 1; have r1c2 : rw1.cell? ⟨b2, 0, none⟩ = some (.bool ny) := BYr1.out.cell 0; have r1c3 : rw1.cell? ⟨b2, 1, none⟩ = some (.slice oy ly cy) := BYr1.out.cell 1) | (go_at_call 6; refine (string_any _ _ _ _ x w1.drew (HX1.out.keep (Below.refl _ _).drew) hlx2).mono ?_; rintro e rw0 ⟨rfl, hb⟩; have hbb := below_of_drew hb; have FPr0 := Lib.hid (FP1.out.later hbb); have BXr0 := Lib.hid (BX1.out.below hbb BX1.out.lt); have BYr0 := Lib.hid (BY1.out.below hbb BY1.out.lt); have HXr0 := Lib.hid (HX1.out.keep hbb); have HYr0 := Lib.hid (HY1.out.keep hbb); clear hb hbb; have r0c0 : rw0.cell? ⟨b1, 0, none⟩ = some (.bool nx) := BXr0.out.cell 0; have r0c1 : rw0.cell? ⟨b1, 1, none⟩ = some (.slice ox lx cx) := BXr0.out.cell 1; have r0c2 : rw0.cell? ⟨b2, 0, none⟩ = some (.bool ny) := BYr0.out.cell 0; have r0c3 : rw0.cell? ⟨b2, 1, none⟩ = some (.slice oy ly cy) := BYr0.out.cell 1))
  have KC : Hid (Bl 961 (x + y)) := KX.out.add KY.out
  have KD : Hid (Bl 1920 (x * y)) := KX.out.mul KY.out
  have KE : Hid (Bl 962 (x + y - x)) := KC.out.sub (KX.out.mono (by decide))
  have qq0 : rw1.cell? ⟨b1, 0, none⟩ = some (.bool nx) := BXr1.out.cell 0
  have qq1 : rw1.cell? ⟨b1, 1, none⟩ = some (.slice ox lx cx) := BXr1.out.cell 1
  have qq2 : rw1.cell? ⟨b2, 0, none⟩ = some (.bool ny) := BYr1.out.cell 0
  have qq3 : rw1.cell? ⟨b2, 1, none⟩ = some (.slice oy ly cy) := BYr1.out.cell 1
  go_wp2_with fail
  refine ((addI_any _ _ _ _ _ _ _ _ x y _ HXr1.out HYr1.out hlx1 hly1).mono fun e w h => h.fine (KC.out.fits (by decide))).mono ?_
  rintro e w4 ⟨nc, oc, lc, cc, rfl, hlc, hz, hb⟩
  clear qq0 qq1 qq2 qq3
  have FP4a := Lib.hid (FPr1.out.later hb)
  have BX4a := Lib.hid (BXr1.out.below hb BXr1.out.lt)
  have BY4a := Lib.hid (BYr1.out.below hb BYr1.out.lt)
  have HX4a := Lib.hid (HXr1.out.keep hb)
  have HY4a := Lib.hid (HYr1.out.keep hb)
  have hf : Fr w4 (w4.alloc (.cells #[.bool nc, .slice oc lc cc] 27)) [(27, #[.bool nc, .slice oc lc cc])] := (Fr.nil w4).alloc rfl _ _
  have FP4b := Lib.hid (FP4a.out.later hf.below)
  have BX4b := Lib.hid (BX4a.out.below hf.below BX4a.out.lt)
  have BY4b := Lib.hid (BY4a.out.below hf.below BY4a.out.lt)
  have HX4b := Lib.hid (HX4a.out.keep hf.below)
  have HY4b := Lib.hid (HY4a.out.keep hf.below)
  have FUc4 := Lib.hid hf
  have HC4 := Lib.hid (hz.keep hf.below)
  have hlc1 : lc ≤ 100000000 := by omega
  clear hb hz hf
  have qq0 : (w4.alloc (.cells #[.bool nc, .slice oc lc cc] 27)).cell? ⟨b1, 0, none⟩ = some (.bool nx) := BX4b.out.cell 0
  have qq1 : (w4.alloc (.cells #[.bool nc, .slice oc lc cc] 27)).cell? ⟨b1, 1, none⟩ = some (.slice ox lx cx) := BX4b.out.cell 1
  have qq2 : (w4.alloc (.cells #[.bool nc, .slice oc lc cc] 27)).cell? ⟨b2, 0, none⟩ = some (.bool ny) := BY4b.out.cell 0
  have qq3 : (w4.alloc (.cells #[.bool nc, .slice oc lc cc] 27)).cell? ⟨b2, 1, none⟩ = some (.slice oy ly cy) := BY4b.out.cell 1
  go_wp2_with fail
  refine ((mulI_any _ _ _ _ _ _ _ _ x y _ HX4b.out HY4b.out hlx1 hly1).mono fun e w h => h.fine (KD.out.fits (by decide))).mono ?_
  rintro e w5 ⟨nd, od, ld, cd, rfl, hld, hz, hb⟩
  clear qq0 qq1 qq2 qq3
  have FP5a := Lib.hid (FP4b.out.later hb)
  have FUc5a := Lib.hid (FUc4.out.later hb)
  have BX5a := Lib.hid (BX4b.out.below hb BX4b.out.lt)
  have BY5a := Lib.hid (BY4b.out.below hb BY4b.out.lt)
  have HX5a := Lib.hid (HX4b.out.keep hb)
  have HY5a := Lib.hid (HY4b.out.keep hb)
  have HC5a := Lib.hid (HC4.out.keep hb)
  have hf : Fr w5 (w5.alloc (.cells #[.bool nd, .slice od ld cd] 27)) [(27, #[.bool nd, .slice od ld cd])] := (Fr.nil w5).alloc rfl _ _
  have FP5b := Lib.hid (FP5a.out.later hf.below)
  have FUc5b := Lib.hid (FUc5a.out.later hf.below)
  have BX5b := Lib.hid (BX5a.out.below hf.below BX5a.out.lt)
  have BY5b := Lib.hid (BY5a.out.below hf.below BY5a.out.lt)
  have HX5b := Lib.hid (HX5a.out.keep hf.below)
  have HY5b := Lib.hid (HY5a.out.keep hf.below)
  have HC5b := Lib.hid (HC5a.out.keep hf.below)
  have FUd5 := Lib.hid hf
  have HD5 := Lib.hid (hz.keep hf.below)
  have hld1 : ld ≤ 100000000 := by omega
  clear hb hz hf
  have qq0 : (w5.alloc (.cells #[.bool nd, .slice od ld cd] 27)).cell? ⟨w4.heap.size, 0, none⟩ = some (.bool nc) := FUc5b.out.cell 0 0 rfl rfl
  have qq1 : (w5.alloc (.cells #[.bool nd, .slice od ld cd] 27)).cell? ⟨w4.heap.size, 1, none⟩ = some (.slice oc lc cc) := FUc5b.out.cell 0 1 rfl rfl
  have qq2 : (w5.alloc (.cells #[.bool nd, .slice od ld cd] 27)).cell? ⟨b1, 0, none⟩ = some (.bool nx) := BX5b.out.cell 0
  have qq3 : (w5.alloc (.cells #[.bool nd, .slice od ld cd] 27)).cell? ⟨b1, 1, none⟩ = some (.slice ox lx cx) := BX5b.out.cell 1
  go_wp2_with fail
  refine ((subI_any _ _ _ _ _ _ _ _ (x + y) x _ HC5b.out HX5b.out hlc1 hlx1).mono fun e w h => h.fine (KE.out.fits (by decide))).mono ?_
  rintro e w6 ⟨ne, oe, le, ce, rfl, hle, hz, hb⟩
  clear qq0 qq1 qq2 qq3
  have FP6a := Lib.hid (FP5b.out.later hb)
  have FUc6a := Lib.hid (FUc5b.out.later hb)
  have FUd6a := Lib.hid (FUd5.out.later hb)
  have BX6a := Lib.hid (BX5b.out.below hb BX5b.out.lt)
  have BY6a := Lib.hid (BY5b.out.below hb BY5b.out.lt)
  have HX6a := Lib.hid (HX5b.out.keep hb)
  have HY6a := Lib.hid (HY5b.out.keep hb)
  have HC6a := Lib.hid (HC5b.out.keep hb)
  have HD6a := Lib.hid (HD5.out.keep hb)
  have hf : Fr w6 (w6.alloc (.cells #[.bool ne, .slice oe le ce] 27)) [(27, #[.bool ne, .slice oe le ce])] := (Fr.nil w6).alloc rfl _ _
  have FP6b := Lib.hid (FP6a.out.later hf.below)
  have FUc6b := Lib.hid (FUc6a.out.later hf.below)
  have FUd6b := Lib.hid (FUd6a.out.later hf.below)
  have BX6b := Lib.hid (BX6a.out.below hf.below BX6a.out.lt)
  have BY6b := Lib.hid (BY6a.out.below hf.below BY6a.out.lt)
  have HX6b := Lib.hid (HX6a.out.keep hf.below)
  have HY6b := Lib.hid (HY6a.out.keep hf.below)
  have HC6b := Lib.hid (HC6a.out.keep hf.below)
  have HD6b := Lib.hid (HD6a.out.keep hf.below)
  have FUe6 := Lib.hid hf
  have HE6 := Lib.hid (hz.keep hf.below)
  have hle1 : le ≤ 100000000 := by omega
  clear hb hz hf
  have qq0 : (w6.alloc (.cells #[.bool ne, .slice oe le ce] 27)).cell? ⟨w4.heap.size, 0, none⟩ = some (.bool nc) := FUc6b.out.cell 0 0 rfl rfl
  have qq1 : (w6.alloc (.cells #[.bool ne, .slice oe le ce] 27)).cell? ⟨w4.heap.size, 1, none⟩ = some (.slice oc lc cc) := FUc6b.out.cell 0 1 rfl rfl
  have qq2 : (w6.alloc (.cells #[.bool ne, .slice oe le ce] 27)).cell? ⟨w5.heap.size, 0, none⟩ = some (.bool nd) := FUd6b.out.cell 0 0 rfl rfl
  have qq3 : (w6.alloc (.cells #[.bool ne, .slice oe le ce] 27)).cell? ⟨w5.heap.size, 1, none⟩ = some (.slice od ld cd) := FUd6b.out.cell 0 1 rfl rfl
  go_wp2_with fail
  refine (div_keep _ _ _ _ _ _ _ _ (x * y) (x + y) _ HD6b.out HC6b.out hld hlc (KD.out.mono (by decide)) (KC.out.mono (by decide))).mono ?_
  rintro e w7 ⟨nq, oq, lq, cq, nr, or, lr, cr, er, zq, zr, rfl, hlq, hlr, kq, kr, hzq, hzr, hb⟩
  clear qq0 qq1 qq2 qq3
  have FP7a := Lib.hid (FP6b.out.later hb)
  have FUc7a := Lib.hid (FUc6b.out.later hb)
  have FUd7a := Lib.hid (FUd6b.out.later hb)
  have FUe7a := Lib.hid (FUe6.out.later hb)
  have BX7a := Lib.hid (BX6b.out.below hb BX6b.out.lt)
  have BY7a := Lib.hid (BY6b.out.below hb BY6b.out.lt)
  have HX7a := Lib.hid (HX6b.out.keep hb)
  have HY7a := Lib.hid (HY6b.out.keep hb)
  have HC7a := Lib.hid (HC6b.out.keep hb)
  have HD7a := Lib.hid (HD6b.out.keep hb)
  have HE7a := Lib.hid (HE6.out.keep hb)
  have hf : Fr w7 ((w7.alloc (.cells #[.bool nq, .slice oq lq cq] 27)).alloc (.cells #[.bool nr, .slice or lr cr] 27)) [(27, #[.bool nq, .slice oq lq cq]), (27, #[.bool nr, .slice or lr cr])] := ((Fr.nil w7).alloc rfl _ _).alloc (by simp) _ _
  have FP7b := Lib.hid (FP7a.out.later hf.below)
  have FUc7b := Lib.hid (FUc7a.out.later hf.below)
  have FUd7b := Lib.hid (FUd7a.out.later hf.below)
  have FUe7b := Lib.hid (FUe7a.out.later hf.below)
  have BX7b := Lib.hid (BX7a.out.below hf.below BX7a.out.lt)
  have BY7b := Lib.hid (BY7a.out.below hf.below BY7a.out.lt)
  have HX7b := Lib.hid (HX7a.out.keep hf.below)
  have HY7b := Lib.hid (HY7a.out.keep hf.below)
  have HC7b := Lib.hid (HC7a.out.keep hf.below)
  have HD7b := Lib.hid (HD7a.out.keep hf.below)
  have HE7b := Lib.hid (HE7a.out.keep hf.below)
  have FUq7 := Lib.hid hf
  have HQ7 := Lib.hid (hzq.keep hf.below)
  have HR7 := Lib.hid (hzr.keep hf.below)
  have KQ := Lib.hid kq
  have KR := Lib.hid kr
  clear hb hzq hzr hf kq kr
  go_upto_region 7 with fail
  obtain ⟨V7, hV⟩ : ∃ V, V = ((w7.alloc (.cells #[.bool nq, .slice oq lq cq] 27)).alloc (.cells #[.bool nr, .slice or lr cr] 27)) := ⟨_, rfl⟩
  rw [← hV] at FP7b FUc7b FUd7b FUe7b FUq7 BX7b BY7b HX7b HY7b HC7b HD7b HE7b HQ7 HR7 ⊢
  clear hV
  have KN : Hid (Bl 4000 (-x)) := KX4.out.neg
  have KG : Hid (Bl 4000 ((Int.gcd x y : Nat) : Int)) := bl_gcd KX4.out KY4.out
  have qq0 : V7.cell? ⟨w4.heap.size, 0, none⟩ = some (.bool nc) := FUc7b.out.cell 0 0 rfl rfl
  have qq1 : V7.cell? ⟨w4.heap.size, 1, none⟩ = some (.slice oc lc cc) := FUc7b.out.cell 0 1 rfl rfl
  have qq2 : V7.cell? ⟨w5.heap.size, 0, none⟩ = some (.bool nd) := FUd7b.out.cell 0 0 rfl rfl
  have qq3 : V7.cell? ⟨w5.heap.size, 1, none⟩ = some (.slice od ld cd) := FUd7b.out.cell 0 1 rfl rfl
  have qq4 : V7.cell? ⟨w6.heap.size, 0, none⟩ = some (.bool ne) := FUe7b.out.cell 0 0 rfl rfl
  have qq5 : V7.cell? ⟨w6.heap.size, 1, none⟩ = some (.slice oe le ce) := FUe7b.out.cell 0 1 rfl rfl
  have qq6 : V7.cell? ⟨w7.heap.size, 0, none⟩ = some (.bool nq) := FUq7.out.cell 0 0 rfl rfl
  have qq7 : V7.cell? ⟨w7.heap.size, 1, none⟩ = some (.slice oq lq cq) := FUq7.out.cell 0 1 rfl rfl
  have qq8 : V7.cell? ⟨w7.heap.size + 1, 0, none⟩ = some (.bool nr) := FUq7.out.cell 1 0 rfl rfl
  have qq9 : V7.cell? ⟨w7.heap.size + 1, 1, none⟩ = some (.slice or lr cr) := FUq7.out.cell 1 1 rfl rfl
  have qq10 : V7.cell? ⟨b1, 0, none⟩ = some (.bool nx) := BX7b.out.cell 0
  have qq11 : V7.cell? ⟨b1, 1, none⟩ = some (.slice ox lx cx) := BX7b.out.cell 1
  have qq12 : V7.cell? ⟨b2, 0, none⟩ = some (.bool ny) := BY7b.out.cell 0
  have qq13 : V7.cell? ⟨b2, 1, none⟩ = some (.slice oy ly cy) := BY7b.out.cell 1
  go_region_held3 (fun w' => w'.cell? ⟨w4.heap.size, 0, none⟩ = some (.bool nc) ∧ w'.cell? ⟨w4.heap.size, 1, none⟩ = some (.slice oc lc cc) ∧ w'.cell? ⟨w5.heap.size, 0, none⟩ = some (.bool nd) ∧ w'.cell? ⟨w5.heap.size, 1, none⟩ = some (.slice od ld cd) ∧ w'.cell? ⟨w6.heap.size, 0, none⟩ = some (.bool ne) ∧ w'.cell? ⟨w6.heap.size, 1, none⟩ = some (.slice oe le ce) ∧ w'.cell? ⟨w7.heap.size, 0, none⟩ = some (.bool nq) ∧ w'.cell? ⟨w7.heap.size, 1, none⟩ = some (.slice oq lq cq) ∧ w'.cell? ⟨w7.heap.size + 1, 0, none⟩ = some (.bool nr) ∧ w'.cell? ⟨w7.heap.size + 1, 1, none⟩ = some (.slice or lr cr) ∧ w'.cell? ⟨b1, 0, none⟩ = some (.bool nx) ∧ w'.cell? ⟨b1, 1, none⟩ = some (.slice ox lx cx) ∧ w'.cell? ⟨b2, 0, none⟩ = some (.bool ny) ∧ w'.cell? ⟨b2, 1, none⟩ = some (.slice oy ly cy)) (go_keep)
    (first | (go_at_call 12; refine ((gcdI_any _ _ _ _ _ _ _ _ x y _ HXr0.out HYr0.out hlx2 hly2).mono fun e w h => h.fit (KG.out.fits (by decide))).mono ?_; rintro e rw1 ⟨ng, og, lg, cg, rfl, hlg, hz, hb⟩; have hbb := hb; have FPr1 := Lib.hid (FPr0.out.later hbb); have FUcr1 := Lib.hid (FUcr0.out.later hbb); have FUdr1 := Lib.hid (FUdr0.out.later hbb); have FUer1 := Lib.hid (FUer0.out.later hbb); have FUqr1 := Lib.hid (FUqr0.out.later hbb); have BXr1 := Lib.hid (BXr0.out.below hbb BXr0.out.lt); have BYr1 := Lib.hid (BYr0.out.below hbb BYr0.out.lt); have HXr1 := Lib.hid (HXr0.out.keep hbb); have HYr1 := Lib.hid (HYr0.out.keep hbb); have HCr1 := Lib.hid (HCr0.out.keep hbb); have HDr1 := Lib.hid (HDr0.out.keep hbb); have HEr1 := Lib.hid (HEr0.out.keep hbb); have HQr1 := Lib.hid (HQr0.out.keep hbb); have HRr1 := Lib.hid (HRr0.out.keep hbb); have HNr1 := Lib.hid (HN0.out.keep hbb); have HG0 := Lib.hid hz; clear hz; clear hb hbb; have r1c0 : rw1.cell? ⟨w4.heap.size, 0, none⟩ = some (.bool nc) := FUcr1.out.cell 0 0 rfl rfl; have r1c1 : rw1.cell? ⟨w4.heap.size, 1, none⟩ = some (.slice oc lc cc) := FUcr1.out.cell 0 1 rfl rfl; have r1c2 : rw1.cell? ⟨w5.heap.size, 0, none⟩ = some (.bool nd) := FUdr1.out.cell 0 0 rfl rfl; have r1c3 : rw1.cell? ⟨w5.heap.size, 1, none⟩ = some (.slice od ld cd) := FUdr1.out.cell 0 1 rfl rfl; have r1c4 : rw1.cell? ⟨w6.heap.size, 0, none⟩ = some (.bool ne) := FUer1.out.cell 0 0 rfl rfl; have r1c5 : rw1.cell? ⟨w6.heap.size, 1, none⟩ = some (.slice oe le ce) := FUer1.out.cell 0 1 rfl rfl; have r1c6 : rw1.cell? ⟨w7.heap.size, 0, none⟩ = some (.bool nq) := FUqr1.out.cell 0 0 rfl rfl; have r1c7 : rw1.cell? ⟨w7.heap.size, 1, none⟩ = some (.slice oq lq cq) := FUqr1.out.cell 0 1 rfl rfl; have r1c8 : rw1.cell? ⟨w7.heap.size + 1, 0, none⟩ = some (.bool nr) := FUqr1.out.cell 1 0 rfl rfl; have r1c9 : rw1.cell? ⟨w7.heap.size + 1, 1, none⟩ = some (.slice or lr cr) := FUqr1.out.cell 1 1 rfl rfl; have r1c10 : rw1.cell? ⟨b1, 0, none⟩ = some (.bool nx) := BXr1.out.cell 0; have r1c11 : rw1.cell? ⟨b1, 1, none⟩ = some (.slice ox lx cx) := BXr1.out.cell 1; have r1c12 : rw1.cell? ⟨b2, 0, none⟩ = some (.bool ny) := BYr1.out.cell 0; have r1c13 : rw1.cell? ⟨b2, 1, none⟩ = some (.slice oy ly cy) := BYr1.out.cell 1) | (go_at_call 11; refine ((neg_any _ _ _ _ x V7.drew (HX7b.out.keep (Below.refl _ _).drew) hlx2).mono fun e w h => h.fit (KN.out.fits (by decide))).mono ?_; rintro e rw0 ⟨nn, on, ln, cn, rfl, hln, hz, hb⟩; have hbb := below_of_drew hb; have FPr0 := Lib.hid (FP7b.out.later hbb); have FUcr0 := Lib.hid (FUc7b.out.later hbb); have FUdr0 := Lib.hid (FUd7b.out.later hbb); have FUer0 := Lib.hid (FUe7b.out.later hbb); have FUqr0 := Lib.hid (FUq7.out.later hbb); have BXr0 := Lib.hid (BX7b.out.below hbb BX7b.out.lt); have BYr0 := Lib.hid (BY7b.out.below hbb BY7b.out.lt); have HXr0 := Lib.hid (HX7b.out.keep hbb); have HYr0 := Lib.hid (HY7b.out.keep hbb); have HCr0 := Lib.hid (HC7b.out.keep hbb); have HDr0 := Lib.hid (HD7b.out.keep hbb); have HEr0 := Lib.hid (HE7b.out.keep hbb); have HQr0 := Lib.hid (HQ7.out.keep hbb); have HRr0 := Lib.hid (HR7.out.keep hbb); have HN0 := Lib.hid hz; clear hz; clear hb hbb; have r0c0 : rw0.cell? ⟨w4.heap.size, 0, none⟩ = some (.bool nc) := FUcr0.out.cell 0 0 rfl rfl; have r0c1 : rw0.cell? ⟨w4.heap.size, 1, none⟩ = some (.slice oc lc cc) := FUcr0.out.cell 0 1 rfl rfl; have r0c2 : rw0.cell? ⟨w5.heap.size, 0, none⟩ = some (.bool nd) := FUdr0.out.cell 0 0 rfl rfl; have r0c3 : rw0.cell? ⟨w5.heap.size, 1, none⟩ = some (.slice od ld cd) := FUdr0.out.cell 0 1 rfl rfl; have r0c4 : rw0.cell? ⟨w6.heap.size, 0, none⟩ = some (.bool ne) := FUer0.out.cell 0 0 rfl rfl; have r0c5 : rw0.cell? ⟨w6.heap.size, 1, none⟩ = some (.slice oe le ce) := FUer0.out.cell 0 1 rfl rfl; have r0c6 : rw0.cell? ⟨w7.heap.size, 0, none⟩ = some (.bool nq) := FUqr0.out.cell 0 0 rfl rfl; have r0c7 : rw0.cell? ⟨w7.heap.size, 1, none⟩ = some (.slice oq lq cq) := FUqr0.out.cell 0 1 rfl rfl; have r0c8 : rw0.cell? ⟨w7.heap.size + 1, 0, none⟩ = some (.bool nr) := FUqr0.out.cell 1 0 rfl rfl; have r0c9 : rw0.cell? ⟨w7.heap.size + 1, 1, none⟩ = some (.slice or lr cr) := FUqr0.out.cell 1 1 rfl rfl; have r0c10 : rw0.cell? ⟨b1, 0, none⟩ = some (.bool nx) := BXr0.out.cell 0; have r0c11 : rw0.cell? ⟨b1, 1, none⟩ = some (.slice ox lx cx) := BXr0.out.cell 1; have r0c12 : rw0.cell? ⟨b2, 0, none⟩ = some (.bool ny) := BYr0.out.cell 0; have r0c13 : rw0.cell? ⟨b2, 1, none⟩ = some (.slice oy ly cy) := BYr0.out.cell 1))
  have hba := box_below rw1 27 #[.bool nx, .slice ox lx cx, .bool ny, .slice oy ly cy, .bool nc, .slice oc lc cc, .bool nd, .slice od ld cd, .bool ne, .slice oe le ce, .bool nq, .slice oq lq cq, .bool nr, .slice or lr cr, .bool nn, .slice on ln cn, .bool ng, .slice og lg cg]
  have FP8 := Lib.hid (FPr1.out.later hba)
  have FUc8 := Lib.hid (FUcr1.out.later hba)
  have FUd8 := Lib.hid (FUdr1.out.later hba)
  have FUe8 := Lib.hid (FUer1.out.later hba)
  have FUq8 := Lib.hid (FUqr1.out.later hba)
  have BX8 := Lib.hid (BXr1.out.below hba BXr1.out.lt)
  have BY8 := Lib.hid (BYr1.out.below hba BYr1.out.lt)
  have HX8 := Lib.hid (HXr1.out.keep hba)
  have HY8 := Lib.hid (HYr1.out.keep hba)
  have HC8 := Lib.hid (HCr1.out.keep hba)
  have HD8 := Lib.hid (HDr1.out.keep hba)
  have HE8 := Lib.hid (HEr1.out.keep hba)
  have HQ8 := Lib.hid (HQr1.out.keep hba)
  have HR8 := Lib.hid (HRr1.out.keep hba)
  have HN8 := Lib.hid (HNr1.out.keep hba)
  have HG8 := Lib.hid (HG0.out.keep hba)
  obtain ⟨vs, hvs⟩ : ∃ vs : List V4, vs = [(nx, ox, lx, cx), (ny, oy, ly, cy), (nc, oc, lc, cc), (nd, od, ld, cd), (ne, oe, le, ce), (nq, oq, lq, cq), (nr, or, lr, cr), (nn, on, ln, cn), (ng, og, lg, cg)] := ⟨_, rfl⟩
  obtain ⟨zs, hzs⟩ : ∃ zs : List Int, zs = [x, y, x + y, x * y, x + y - x, zq, zr, -x, ((Int.gcd x y : Nat) : Int)] := ⟨_, rfl⟩
  obtain ⟨V8, hV⟩ : ∃ V, V = rw1.alloc (.cells #[.bool nx, .slice ox lx cx, .bool ny, .slice oy ly cy, .bool nc, .slice oc lc cc, .bool nd, .slice od ld cd, .bool ne, .slice oe le ce, .bool nq, .slice oq lq cq, .bool nr, .slice or lr cr, .bool nn, .slice on ln cn, .bool ng, .slice og lg cg] 27) := ⟨_, rfl⟩
  rw [← hV] at FP8 FUc8 FUd8 FUe8 FUq8 BX8 BY8 HX8 HY8 HC8 HD8 HE8 HQ8 HR8 HN8 HG8 hba
  have NI : Hid (Nine V8 rw1.heap.size vs zs) := by
    refine ⟨by rw [hvs]; rfl, by rw [hzs]; rfl, by rw [hV, hvs]; exact Box.new _ _ _, ?_⟩
    rw [hvs, hzs]
    exact all9 ⟨by show lx ≤ 512; omega, KX4.out, HX8.out⟩ ⟨by show ly ≤ 512; omega, KY4.out, HY8.out⟩ ⟨hlc, KC.out.mono (by decide), HC8.out⟩ ⟨hld, KD.out.mono (by decide), HD8.out⟩ ⟨hle, KE.out.mono (by decide), HE8.out⟩ ⟨hlq, KQ.out, HQ8.out⟩ ⟨hlr, KR.out, HR8.out⟩ ⟨hln, KN.out, HN8.out⟩ ⟨hlg, KG.out, HG8.out⟩
  have hg8 : rw1.heap.size < V8.heap.size := NI.out.box.lt
  rw [← hV]
  clear hV hba hvs hzs
  have HST : Hid (OwnS V8 V8.heap.size 9 (.slice none 0 0) ((zs.take 0).map numeralZ) ∧ Below V8.heap.size V8 V8) := ⟨OwnS.nil _ _ _, Below.refl _ _⟩
  go_wp2_with fail
  go_loopw [20, 81] (fun tv iv wr => ∃ i : Nat, iv = .int .i64 (i : Int) ∧ i ≤ 9 ∧ OwnS wr V8.heap.size 9 tv ((zs.take i).map numeralZ) ∧ Below V8.heap.size V8 wr) (fun _ iv _ => 9 - (intOf iv).toNat)
  case atStart => exact ⟨0, rfl, by omega, HST.out.1, HST.out.2⟩
  case round =>
    clear HST
    obtain ⟨i, rfl, hi, hown, hbel⟩ := hrel
    have OW := Lib.hid hown
    have BE := Lib.hid hbel
    have NR := Lib.hid (NI.out.later hbel)
    clear hown hbel
    by_cases hi9 : i < 9
    · have t1 : (i : Int) < 9 := by omega
      obtain ⟨n0, o0, l0, c0, z0, hv0, hz0, hl0, kz0, hq0, e0, e1⟩ := NR.out.at i hi9
      have HZ0 := Lib.hid hz0
      have hba := box_below wr 27 #[.bool n0, .slice o0 l0 c0]
      have HQ0 := Lib.hid (hq0.keep hba)
      have BE0 := Lib.hid (BE.out.trans (hba.mono BE.out.size))
      have OW0 := Lib.hid (OW.out.later hba)
      clear hv0 hz0 hq0 kz0 hba
      have u1 : (0 : Int) ≤ (i : Int) := by omega
      go_wp2_with fail
      refine (string_any _ _ _ _ z0 _ HQ0.out (by omega)).mono ?_
      rintro e w9 ⟨rfl, hb⟩
      have OW1 := Lib.hid (OW0.out.later hb)
      have BE1 := Lib.hid (BE0.out.trans (hb.mono BE0.out.size))
      have htl : ((zs.take i).map numeralZ).length ≤ 9 := by rw [List.length_map, List.length_take]; omega
      clear hb e0 e1
      go_wp2_with (at_builtin; refine wpList_appS rfl _ _ 43 rfl V8.heap.size 9 (.string ⟨#[]⟩) 16 Try.underlying43 (by kernel_rfl) rfl _ _ rfl OW1.out (numeralZ z0) rfl (by omega) (by omega) BE1.out.size ?_; intro v' w10 hown' hbel')
      have J1 := Lib.hid hown'
      have J2 := Lib.hid (BE1.out.trans hbel')
      clear hown' hbel'
      go_wp2
      go_roundw
      case rel => exact ⟨i + 1, by go_num, by omega, by rw [take_texts HZ0.out]; exact J1.out, J2.out⟩
      case measure => simp only [intOf]; omega
    · have t1 : ¬ (i : Int) < 9 := by omega
      have hi10 : i = 9 := by omega
      have hlz := NI.out.lz
      have hall : (zs.take i).map numeralZ = zs.map numeralZ := by rw [List.take_of_length_le (by omega)]
      rw [hall] at OW
      clear hi hi9 hi10 hall
      have hlt : (zs.map numeralZ).length = 9 := by rw [List.length_map]; exact hlz
      clear hlz
      obtain ⟨gT, capT, hvt, hct, hcm, hcells⟩ := OW.out.at (by omega)
      rw [hlt] at hvt hct
      subst hvt
      have TX : Hid (∀ (j : Nat) (z : Int), zs[j]? = some z → wr.cell? ⟨gT, j, none⟩ = some (.string ⟨(numeralZ z).toArray⟩)) := fun j z hz => hcells j _ (by rw [List.getElem?_map, hz]; rfl)
      clear hcells hlt OW
      unfold maxLen at hcm
      have hb := BE.out
      have FP9 := Lib.hid (FP8.out.later hb)
      have BX9 := Lib.hid (BX8.out.below hb BX8.out.lt)
      have BY9 := Lib.hid (BY8.out.below hb BY8.out.lt)
      have HX9 := Lib.hid (HX8.out.keep hb)
      have HY9 := Lib.hid (HY8.out.keep hb)
      clear hb
      obtain ⟨V9, rfl⟩ : ∃ v, v = wr := ⟨wr, rfl⟩
      go_wp2_with fail
      go_loopw [23] (fun iv wr => ∃ i : Nat, iv = .int .i64 (i : Int) ∧ i ≤ 8 ∧ Below V9.heap.size V9 wr) (fun iv _ => 8 - (intOf iv).toNat)
      case atStart => exact ⟨0, rfl, by omega, Below.refl _ _⟩
      case round =>
        obtain ⟨i, rfl, hi, hbel⟩ := hrel
        have N2 := Lib.hid (NR.out.later hbel)
        have hg9 : rw1.heap.size < V9.heap.size := NR.out.box.lt
        have FZ : Hid (Fr V9 wr []) := ⟨hbel, by simpa using hbel.size, fun i T c h => by simp at h⟩
        clear hbel
        by_cases hi8 : i < 8
        · have t1 : (i : Int) + 1 < 9 := by omega
          have t2 : IntKind.i64.wrap ((i : Int) + 1) = (i : Int) + 1 := IntWalk.i64_in _ (by omega)
          have t3 : ((i : Int) + 1).toNat = i + 1 := by omega
          have t4 : (0 : Int) ≤ (i : Int) := by omega
          have t5 : (0 : Int) ≤ (i : Int) + 1 := by omega
          have t6 : (i : Int) < 9 := by omega
          obtain ⟨n0, o0, l0, c0, z0, hv0, hz0, hl0, kz0, hq0, e0, e1⟩ := N2.out.at i (by omega)
          obtain ⟨n1, o1, l1, c1, z1, hv1, hz1, hl1, kz1, hq1, e2, e3⟩ := N2.out.at (i + 1) (by omega)
          have T0 : Hid (Two9 wr rw1.heap.size i n0 o0 l0 c0 n1 o1 l1 c1) := ⟨e0, e1, e2, e3⟩
          have HQ0 := Lib.hid hq0
          have HQ1 := Lib.hid hq1
          have KZ0 := Lib.hid kz0
          have KZ1 := Lib.hid kz1
          clear hv0 hz0 hv1 hz1 kz0 kz1 hq0 hq1 e0 e1 e2 e3 N2
          go_upto_region 17 with fail
          have q0 : wr.cell? ⟨rw1.heap.size, i * 2, none⟩ = some (.bool n0) := T0.out.a
          have q1 : wr.cell? ⟨rw1.heap.size, i * 2 + 1, none⟩ = some (.slice o0 l0 c0) := T0.out.b
          have q2 : wr.cell? ⟨rw1.heap.size, (i + 1) * 2, none⟩ = some (.bool n1) := T0.out.c
          have q3 : wr.cell? ⟨rw1.heap.size, (i + 1) * 2 + 1, none⟩ = some (.slice o1 l1 c1) := T0.out.d
          go_wp2_with fail
          go_region_held3 (fun w' => w'.cell? ⟨rw1.heap.size, i * 2, none⟩ = some (.bool n0) ∧ w'.cell? ⟨rw1.heap.size, i * 2 + 1, none⟩ = some (.slice o0 l0 c0) ∧ w'.cell? ⟨rw1.heap.size, (i + 1) * 2, none⟩ = some (.bool n1) ∧ w'.cell? ⟨rw1.heap.size, (i + 1) * 2 + 1, none⟩ = some (.slice o1 l1 c1)) (go_keep)
            ((go_at_call 7; refine (add_drop (HQ0.out.keep (Below.refl _ _).drew) (HQ1.out.keep (Below.refl _ _).drew) hl0 hl1 : Calls Try.prog _ _ wr.drew _).mono ?_; rintro e x1 ⟨⟨r1, rfl⟩, hb⟩; have hbb := below_of_drew hb; have FZx1 := Lib.hid (FZ.out.later hbb); have HTx1 := Lib.hid (T0.out.keep hbb); have H0x1 := Lib.hid (HQ0.out.keep hbb); have H1x1 := Lib.hid (HQ1.out.keep hbb); clear hb hbb; have p1_0 : x1.cell? ⟨rw1.heap.size, i * 2, none⟩ = some (.bool n0) := HTx1.out.a; have p1_1 : x1.cell? ⟨rw1.heap.size, i * 2 + 1, none⟩ = some (.slice o0 l0 c0) := HTx1.out.b; have p1_2 : x1.cell? ⟨rw1.heap.size, (i + 1) * 2, none⟩ = some (.bool n1) := HTx1.out.c; have p1_3 : x1.cell? ⟨rw1.heap.size, (i + 1) * 2 + 1, none⟩ = some (.slice o1 l1 c1) := HTx1.out.d))
          clear q0 q1 q2 q3
          go_upto_region 18 with fail
          have q0 : x1.cell? ⟨rw1.heap.size, i * 2, none⟩ = some (.bool n0) := HTx1.out.a
          have q1 : x1.cell? ⟨rw1.heap.size, i * 2 + 1, none⟩ = some (.slice o0 l0 c0) := HTx1.out.b
          have q2 : x1.cell? ⟨rw1.heap.size, (i + 1) * 2, none⟩ = some (.bool n1) := HTx1.out.c
          have q3 : x1.cell? ⟨rw1.heap.size, (i + 1) * 2 + 1, none⟩ = some (.slice o1 l1 c1) := HTx1.out.d
          go_wp2_with fail
          go_region_held3 (fun w' => w'.cell? ⟨rw1.heap.size, i * 2, none⟩ = some (.bool n0) ∧ w'.cell? ⟨rw1.heap.size, i * 2 + 1, none⟩ = some (.slice o0 l0 c0) ∧ w'.cell? ⟨rw1.heap.size, (i + 1) * 2, none⟩ = some (.bool n1) ∧ w'.cell? ⟨rw1.heap.size, (i + 1) * 2 + 1, none⟩ = some (.slice o1 l1 c1)) (go_keep)
            ((go_at_call 9; refine (sub_drop (H0x1.out.keep (Below.refl _ _).drew) (H1x1.out.keep (Below.refl _ _).drew) hl0 hl1 : Calls Try.prog _ _ x1.drew _).mono ?_; rintro e x2 ⟨⟨r2, rfl⟩, hb⟩; have hbb := below_of_drew hb; have FZx2 := Lib.hid (FZx1.out.later hbb); have HTx2 := Lib.hid (HTx1.out.keep hbb); have H0x2 := Lib.hid (H0x1.out.keep hbb); have H1x2 := Lib.hid (H1x1.out.keep hbb); clear hb hbb; have p2_0 : x2.cell? ⟨rw1.heap.size, i * 2, none⟩ = some (.bool n0) := HTx2.out.a; have p2_1 : x2.cell? ⟨rw1.heap.size, i * 2 + 1, none⟩ = some (.slice o0 l0 c0) := HTx2.out.b; have p2_2 : x2.cell? ⟨rw1.heap.size, (i + 1) * 2, none⟩ = some (.bool n1) := HTx2.out.c; have p2_3 : x2.cell? ⟨rw1.heap.size, (i + 1) * 2 + 1, none⟩ = some (.slice o1 l1 c1) := HTx2.out.d))
          clear q0 q1 q2 q3
          go_upto_region 19 with fail
          have q0 : x2.cell? ⟨rw1.heap.size, i * 2, none⟩ = some (.bool n0) := HTx2.out.a
          have q1 : x2.cell? ⟨rw1.heap.size, i * 2 + 1, none⟩ = some (.slice o0 l0 c0) := HTx2.out.b
          have q2 : x2.cell? ⟨rw1.heap.size, (i + 1) * 2, none⟩ = some (.bool n1) := HTx2.out.c
          have q3 : x2.cell? ⟨rw1.heap.size, (i + 1) * 2 + 1, none⟩ = some (.slice o1 l1 c1) := HTx2.out.d
          go_wp2_with fail
          go_region_held3 (fun w' => w'.cell? ⟨rw1.heap.size, i * 2, none⟩ = some (.bool n0) ∧ w'.cell? ⟨rw1.heap.size, i * 2 + 1, none⟩ = some (.slice o0 l0 c0) ∧ w'.cell? ⟨rw1.heap.size, (i + 1) * 2, none⟩ = some (.bool n1) ∧ w'.cell? ⟨rw1.heap.size, (i + 1) * 2 + 1, none⟩ = some (.slice o1 l1 c1)) (go_keep)
            ((go_at_call 8; refine (mul_drop (H0x2.out.keep (Below.refl _ _).drew) (H1x2.out.keep (Below.refl _ _).drew) hl0 hl1 : Calls Try.prog _ _ x2.drew _).mono ?_; rintro e x3 ⟨⟨r3, rfl⟩, hb⟩; have hbb := below_of_drew hb; have FZx3 := Lib.hid (FZx2.out.later hbb); have HTx3 := Lib.hid (HTx2.out.keep hbb); have H0x3 := Lib.hid (H0x2.out.keep hbb); have H1x3 := Lib.hid (H1x2.out.keep hbb); clear hb hbb; have p3_0 : x3.cell? ⟨rw1.heap.size, i * 2, none⟩ = some (.bool n0) := HTx3.out.a; have p3_1 : x3.cell? ⟨rw1.heap.size, i * 2 + 1, none⟩ = some (.slice o0 l0 c0) := HTx3.out.b; have p3_2 : x3.cell? ⟨rw1.heap.size, (i + 1) * 2, none⟩ = some (.bool n1) := HTx3.out.c; have p3_3 : x3.cell? ⟨rw1.heap.size, (i + 1) * 2 + 1, none⟩ = some (.slice o1 l1 c1) := HTx3.out.d))
          clear q0 q1 q2 q3
          go_upto_region 20 with fail
          have q0 : x3.cell? ⟨rw1.heap.size, i * 2, none⟩ = some (.bool n0) := HTx3.out.a
          have q1 : x3.cell? ⟨rw1.heap.size, i * 2 + 1, none⟩ = some (.slice o0 l0 c0) := HTx3.out.b
          have q2 : x3.cell? ⟨rw1.heap.size, (i + 1) * 2, none⟩ = some (.bool n1) := HTx3.out.c
          have q3 : x3.cell? ⟨rw1.heap.size, (i + 1) * 2 + 1, none⟩ = some (.slice o1 l1 c1) := HTx3.out.d
          go_wp2_with fail
          go_region_held3 (fun w' => w'.cell? ⟨rw1.heap.size, i * 2, none⟩ = some (.bool n0) ∧ w'.cell? ⟨rw1.heap.size, i * 2 + 1, none⟩ = some (.slice o0 l0 c0) ∧ w'.cell? ⟨rw1.heap.size, (i + 1) * 2, none⟩ = some (.bool n1) ∧ w'.cell? ⟨rw1.heap.size, (i + 1) * 2 + 1, none⟩ = some (.slice o1 l1 c1)) (go_keep)
            ((go_at_call 10; refine ((div_keep _ _ _ _ _ _ _ _ z0 z1 _ (H0x3.out.keep (Below.refl _ _).drew) (H1x3.out.keep (Below.refl _ _).drew) hl0 hl1 KZ0.out KZ1.out).mono fun e w h => h.drop : Calls Try.prog _ _ x3.drew _).mono ?_; rintro e x4 ⟨⟨r4, rfl⟩, hb⟩; have hbb := below_of_drew hb; have FZx4 := Lib.hid (FZx3.out.later hbb); have HTx4 := Lib.hid (HTx3.out.keep hbb); have H0x4 := Lib.hid (H0x3.out.keep hbb); have H1x4 := Lib.hid (H1x3.out.keep hbb); clear hb hbb; have p4_0 : x4.cell? ⟨rw1.heap.size, i * 2, none⟩ = some (.bool n0) := HTx4.out.a; have p4_1 : x4.cell? ⟨rw1.heap.size, i * 2 + 1, none⟩ = some (.slice o0 l0 c0) := HTx4.out.b; have p4_2 : x4.cell? ⟨rw1.heap.size, (i + 1) * 2, none⟩ = some (.bool n1) := HTx4.out.c; have p4_3 : x4.cell? ⟨rw1.heap.size, (i + 1) * 2 + 1, none⟩ = some (.slice o1 l1 c1) := HTx4.out.d))
          clear q0 q1 q2 q3
          have q0 : x4.cell? ⟨rw1.heap.size, i * 2, none⟩ = some (.bool n0) := HTx4.out.a
          have q1 : x4.cell? ⟨rw1.heap.size, i * 2 + 1, none⟩ = some (.slice o0 l0 c0) := HTx4.out.b
          have q2 : x4.cell? ⟨rw1.heap.size, (i + 1) * 2, none⟩ = some (.bool n1) := HTx4.out.c
          have q3 : x4.cell? ⟨rw1.heap.size, (i + 1) * 2 + 1, none⟩ = some (.slice o1 l1 c1) := HTx4.out.d
          go_wp2_with fail
          refine (neg_drop H0x4.out hl0).mono ?_
          rintro e x5 ⟨⟨r5, rfl⟩, hb⟩
          clear q0 q1 q2 q3
          have FZx5 := Lib.hid (FZx4.out.later hb)
          have HTx5 := Lib.hid (HTx4.out.keep hb)
          have H0x5 := Lib.hid (H0x4.out.keep hb)
          have H1x5 := Lib.hid (H1x4.out.keep hb)
          clear hb
          go_upto_region 22 with fail
          have q0 : x5.cell? ⟨rw1.heap.size, i * 2, none⟩ = some (.bool n0) := HTx5.out.a
          have q1 : x5.cell? ⟨rw1.heap.size, i * 2 + 1, none⟩ = some (.slice o0 l0 c0) := HTx5.out.b
          have q2 : x5.cell? ⟨rw1.heap.size, (i + 1) * 2, none⟩ = some (.bool n1) := HTx5.out.c
          have q3 : x5.cell? ⟨rw1.heap.size, (i + 1) * 2 + 1, none⟩ = some (.slice o1 l1 c1) := HTx5.out.d
          go_wp2_with fail
          go_region_held3 (fun w' => w'.cell? ⟨rw1.heap.size, i * 2, none⟩ = some (.bool n0) ∧ w'.cell? ⟨rw1.heap.size, i * 2 + 1, none⟩ = some (.slice o0 l0 c0) ∧ w'.cell? ⟨rw1.heap.size, (i + 1) * 2, none⟩ = some (.bool n1) ∧ w'.cell? ⟨rw1.heap.size, (i + 1) * 2 + 1, none⟩ = some (.slice o1 l1 c1)) (go_keep)
            ((go_at_call 12; refine (gcd_drop (H0x5.out.keep (Below.refl _ _).drew) (H1x5.out.keep (Below.refl _ _).drew) hl0 hl1 : Calls Try.prog _ _ x5.drew _).mono ?_; rintro e x6 ⟨⟨r6, rfl⟩, hb⟩; have hbb := below_of_drew hb; have FZx6 := Lib.hid (FZx5.out.later hbb); have HTx6 := Lib.hid (HTx5.out.keep hbb); have H0x6 := Lib.hid (H0x5.out.keep hbb); have H1x6 := Lib.hid (H1x5.out.keep hbb); clear hb hbb; have p6_0 : x6.cell? ⟨rw1.heap.size, i * 2, none⟩ = some (.bool n0) := HTx6.out.a; have p6_1 : x6.cell? ⟨rw1.heap.size, i * 2 + 1, none⟩ = some (.slice o0 l0 c0) := HTx6.out.b; have p6_2 : x6.cell? ⟨rw1.heap.size, (i + 1) * 2, none⟩ = some (.bool n1) := HTx6.out.c; have p6_3 : x6.cell? ⟨rw1.heap.size, (i + 1) * 2 + 1, none⟩ = some (.slice o1 l1 c1) := HTx6.out.d))
          clear q0 q1 q2 q3
          go_upto_region 23 with fail
          go_wp2_with fail
          rename_i hK0
          refine keep_region i n0 n1 o0 o1 l0 l1 c0 c1 z0 z1 rw1.heap.size _ (by kernel_rfl) rfl rfl rfl rfl rfl rfl rfl rfl rfl rfl rfl rfl rfl rfl rfl rfl (by have h1 := FZx6.out.below.size; omega) HTx6.out.a HTx6.out.b (by have h1 := FZx6.out.below.size; omega) HTx6.out.c HTx6.out.d rfl rfl H0x6.out H1x6.out hl0 hl1 KZ0.out KZ1.out hi8 t2 ?_
          intro x7 bf nf of lf cf bbf mf df pf qf d9 d10 d12 d15 hb hb13 hbx hlf hmf kpf kqf hqf
          refine hK0 _ _ ?_
          have FZx7 := Lib.hid (FZx6.out.later hb)
          have HTx7 := Lib.hid (HTx6.out.keep hb)
          have H0x7 := Lib.hid (H0x6.out.keep hb)
          have H1x7 := Lib.hid (H1x6.out.keep hb)
          have BF := Lib.hid hbx
          have HF := Lib.hid hqf
          have KPF := Lib.hid kpf
          clear hb hb13 hbx hqf kpf kqf hK0
          simp only [puts, Act.put]
          go_upto_region 24 with fail
          have f0 : x7.cell? ⟨bf, 0, none⟩ = some (.bool nf) := BF.out.cell 0
          have f1 : x7.cell? ⟨bf, 1, none⟩ = some (.slice of lf cf) := BF.out.cell 1
          have f2 : x7.cell? ⟨bf, 2, none⟩ = some (.slice bbf mf df) := BF.out.cell 2
          have q0 : x7.cell? ⟨rw1.heap.size, i * 2, none⟩ = some (.bool n0) := HTx7.out.a
          have q1 : x7.cell? ⟨rw1.heap.size, i * 2 + 1, none⟩ = some (.slice o0 l0 c0) := HTx7.out.b
          have q2 : x7.cell? ⟨rw1.heap.size, (i + 1) * 2, none⟩ = some (.bool n1) := HTx7.out.c
          have q3 : x7.cell? ⟨rw1.heap.size, (i + 1) * 2 + 1, none⟩ = some (.slice o1 l1 c1) := HTx7.out.d
          go_wp2_with fail
          go_region_held3 (fun w' => w'.cell? ⟨bf, 0, none⟩ = some (.bool nf) ∧ w'.cell? ⟨bf, 1, none⟩ = some (.slice of lf cf) ∧ w'.cell? ⟨bf, 2, none⟩ = some (.slice bbf mf df) ∧ w'.cell? ⟨rw1.heap.size, i * 2, none⟩ = some (.bool n0) ∧ w'.cell? ⟨rw1.heap.size, i * 2 + 1, none⟩ = some (.slice o0 l0 c0) ∧ w'.cell? ⟨rw1.heap.size, (i + 1) * 2, none⟩ = some (.bool n1) ∧ w'.cell? ⟨rw1.heap.size, (i + 1) * 2 + 1, none⟩ = some (.slice o1 l1 c1)) (go_keep)
            (first | (go_at_call 7; refine (add_drop HM8.out H0x8.out hlm hl0).mono ?_; rintro e x9 ⟨⟨r9, rfl⟩, hb⟩; have FZx9 := Lib.hid (FZx8.out.later hb); have BFx9 := Lib.hid (BFx8.out.below hb BFx8.out.lt); have HTx9 := Lib.hid (HTx8.out.keep hb); have H0x9 := Lib.hid (H0x8.out.keep hb); have H1x9 := Lib.hid (H1x8.out.keep hb); have HFx9 := Lib.hid (HFx8.out.keep hb); have HMx9 := Lib.hid (HM8.out.keep hb); clear hb; have h0 : x9.cell? ⟨bf, 0, none⟩ = some (.bool nf) := BFx9.out.cell 0; have h1 : x9.cell? ⟨bf, 1, none⟩ = some (.slice of lf cf) := BFx9.out.cell 1; have h2 : x9.cell? ⟨bf, 2, none⟩ = some (.slice bbf mf df) := BFx9.out.cell 2; have p9_0 : x9.cell? ⟨rw1.heap.size, i * 2, none⟩ = some (.bool n0) := HTx9.out.a; have p9_1 : x9.cell? ⟨rw1.heap.size, i * 2 + 1, none⟩ = some (.slice o0 l0 c0) := HTx9.out.b; have p9_2 : x9.cell? ⟨rw1.heap.size, (i + 1) * 2, none⟩ = some (.bool n1) := HTx9.out.c; have p9_3 : x9.cell? ⟨rw1.heap.size, (i + 1) * 2 + 1, none⟩ = some (.slice o1 l1 c1) := HTx9.out.d) | (go_at_call 14; refine ((ratNum_any nf of bbf lf mf cf df pf qf x7.drew (HF.out.keep (Below.refl _ _).drew) (by omega)).mono fun e w h => h.fit (KPF.out.fits (by decide))).mono ?_; rintro e x8 ⟨nm, om, lm, cm, rfl, hlm, hz, hb⟩; have hbb := below_of_drew hb; have FZx8 := Lib.hid (FZx7.out.later hbb); have BFx8 := Lib.hid (BF.out.below hbb BF.out.lt); have HTx8 := Lib.hid (HTx7.out.keep hbb); have H0x8 := Lib.hid (H0x7.out.keep hbb); have H1x8 := Lib.hid (H1x7.out.keep hbb); have HFx8 := Lib.hid (HF.out.keep hbb); have HM8 := Lib.hid hz; clear hb hbb hz; have g0 : x8.cell? ⟨bf, 0, none⟩ = some (.bool nf) := BFx8.out.cell 0; have g1 : x8.cell? ⟨bf, 1, none⟩ = some (.slice of lf cf) := BFx8.out.cell 1; have g2 : x8.cell? ⟨bf, 2, none⟩ = some (.slice bbf mf df) := BFx8.out.cell 2; have p8_0 : x8.cell? ⟨rw1.heap.size, i * 2, none⟩ = some (.bool n0) := HTx8.out.a; have p8_1 : x8.cell? ⟨rw1.heap.size, i * 2 + 1, none⟩ = some (.slice o0 l0 c0) := HTx8.out.b; have p8_2 : x8.cell? ⟨rw1.heap.size, (i + 1) * 2, none⟩ = some (.bool n1) := HTx8.out.c; have p8_3 : x8.cell? ⟨rw1.heap.size, (i + 1) * 2 + 1, none⟩ = some (.slice o1 l1 c1) := HTx8.out.d))
          clear f0 f1 f2 q0 q1 q2 q3
          have f0 : x9.cell? ⟨bf, 0, none⟩ = some (.bool nf) := BFx9.out.cell 0
          have f1 : x9.cell? ⟨bf, 1, none⟩ = some (.slice of lf cf) := BFx9.out.cell 1
          have f2 : x9.cell? ⟨bf, 2, none⟩ = some (.slice bbf mf df) := BFx9.out.cell 2
          go_wp2_with fail
          refine (ratAdd_drop HFx9.out hlf hmf).mono ?_
          rintro e x10 ⟨⟨r10, rfl⟩, hb⟩
          clear f0 f1 f2
          have FZx10 := Lib.hid (FZx9.out.later hb)
          have BFx10 := Lib.hid (BFx9.out.below hb BFx9.out.lt)
          have HTx10 := Lib.hid (HTx9.out.keep hb)
          have H0x10 := Lib.hid (H0x9.out.keep hb)
          have H1x10 := Lib.hid (H1x9.out.keep hb)
          have HFx10 := Lib.hid (HFx9.out.keep hb)
          clear hb
          have f0 : x10.cell? ⟨bf, 0, none⟩ = some (.bool nf) := BFx10.out.cell 0
          have f1 : x10.cell? ⟨bf, 1, none⟩ = some (.slice of lf cf) := BFx10.out.cell 1
          have f2 : x10.cell? ⟨bf, 2, none⟩ = some (.slice bbf mf df) := BFx10.out.cell 2
          go_wp2_with fail
          refine (ratNeg_drop HFx10.out hlf hmf).mono ?_
          rintro e x11 ⟨⟨r11, rfl⟩, hb⟩
          clear f0 f1 f2
          have FZx11 := Lib.hid (FZx10.out.later hb)
          have BFx11 := Lib.hid (BFx10.out.below hb BFx10.out.lt)
          have HTx11 := Lib.hid (HTx10.out.keep hb)
          have H0x11 := Lib.hid (H0x10.out.keep hb)
          have H1x11 := Lib.hid (H1x10.out.keep hb)
          have HFx11 := Lib.hid (HFx10.out.keep hb)
          clear hb
          have f0 : x11.cell? ⟨bf, 0, none⟩ = some (.bool nf) := BFx11.out.cell 0
          have f1 : x11.cell? ⟨bf, 1, none⟩ = some (.slice of lf cf) := BFx11.out.cell 1
          have f2 : x11.cell? ⟨bf, 2, none⟩ = some (.slice bbf mf df) := BFx11.out.cell 2
          go_wp2_with fail
          refine (decimal_drop HFx11.out hlf hmf).mono ?_
          rintro e x12 ⟨⟨r12, rfl⟩, hb⟩
          clear f0 f1 f2
          have FZx12 := Lib.hid (FZx11.out.later hb)
          have BFx12 := Lib.hid (BFx11.out.below hb BFx11.out.lt)
          have HTx12 := Lib.hid (HTx11.out.keep hb)
          have H0x12 := Lib.hid (H0x11.out.keep hb)
          have H1x12 := Lib.hid (H1x11.out.keep hb)
          have HFx12 := Lib.hid (HFx11.out.keep hb)
          clear hb
          go_wp2
          go_roundw
          case rel => exact ⟨i + 1, by go_num, by omega, FZx12.out.below⟩
          case measure => simp only [intOf]; omega
        · have t1 : ¬ (i : Int) + 1 < 9 := by omega
          have t2 : (i : Int) ≤ 8 := by omega
          have t4 : (0 : Int) ≤ (i : Int) := by omega
          clear hi hi8
          have hb := FZ.out.below
          have FP10 := Lib.hid (FP9.out.later hb)
          have BX10 := Lib.hid (BX9.out.below hb BX9.out.lt)
          have BY10 := Lib.hid (BY9.out.below hb BY9.out.lt)
          have HX10 := Lib.hid (HX9.out.keep hb)
          have HY10 := Lib.hid (HY9.out.keep hb)
          have TX2 : Hid (∀ (j : Nat) (z : Int), zs[j]? = some z → wr.cell? ⟨gT, j, none⟩ = some (.string ⟨(numeralZ z).toArray⟩)) := fun j z hz => cell_later hb (TX.out j z hz)
          clear hb FZ TX
          obtain ⟨V10, rfl⟩ : ∃ v, v = wr := ⟨wr, rfl⟩
          go_wp2_with fail
          go_loopw [182] (fun iv wr => ∃ j : Nat, iv = .int .i64 (j : Int) ∧ j ≤ 9 ∧ Below V10.heap.size V10 wr) (fun iv _ => 9 - (intOf iv).toNat)
          case atStart => exact ⟨0, rfl, by omega, Below.refl _ _⟩
          case round =>
            obtain ⟨j, rfl, hj, hbel⟩ := hrel
            have N3 := Lib.hid (N2.out.later hbel)
            have BE3 := Lib.hid hbel
            by_cases hj9 : j < 9
            · have t3 : (j : Int) < 9 := by omega
              have t4 : (0 : Int) ≤ (j : Int) := by omega
              obtain ⟨n0, o0, l0, c0, z0, hv0, hz0, hl0, kz0, hq0, e0, e1⟩ := N3.out.at j hj9
              have hba := box_below wr 27 #[.bool n0, .slice o0 l0 c0]
              have HQ0 := Lib.hid (hq0.keep hba)
              have BE4 := Lib.hid (hbel.trans (hba.mono hbel.size))
              have x0 : wr.cell? ⟨gT, j, none⟩ = some (.string ⟨(numeralZ z0).toArray⟩) := cell_later hbel (TX2.out j z0 hz0)
              have HX0 := Lib.hid (cell_later hba x0)
              have hfz : Fr wr (wr.alloc (.cells #[.bool n0, .slice o0 l0 c0] 27)) [(27, #[.bool n0, .slice o0 l0 c0])] := (Fr.nil wr).alloc rfl _ _
              have FZ0 := Lib.hid hfz
              clear hv0 hz0 kz0 hq0 hba hbel hfz x0
              go_upto_region 31 with fail
              obtain ⟨VZ, hV⟩ : ∃ V, V = wr.alloc (.cells #[.bool n0, .slice o0 l0 c0] 27) := ⟨_, rfl⟩
              rw [← hV] at HQ0 BE4 HX0 FZ0 ⊢
              clear hV e0 e1
              have y0 : VZ.cell? ⟨wr.heap.size, 0, none⟩ = some (.bool n0) := FZ0.out.cell 0 0 rfl rfl
              have y1 : VZ.cell? ⟨wr.heap.size, 1, none⟩ = some (.slice o0 l0 c0) := FZ0.out.cell 0 1 rfl rfl
              have y2 := HX0.out
              go_wp2_with fail
              go_region_held3 (fun w' => w'.cell? ⟨wr.heap.size, 0, none⟩ = some (.bool n0) ∧ w'.cell? ⟨wr.heap.size, 1, none⟩ = some (.slice o0 l0 c0) ∧ w'.cell? ⟨gT, j, none⟩ = some (.string ⟨(numeralZ z0).toArray⟩)) (go_keep)
                ((go_at_call 6; refine (string_any _ _ _ _ z0 VZ.drew (HQ0.out.keep (Below.refl _ _).drew) (by omega)).mono ?_; rintro e y9 ⟨rfl, hb⟩; have hbb := below_of_drew hb; have BE5 := Lib.hid (BE4.out.trans (hbb.mono BE4.out.size)); have HX1 := Lib.hid (cell_later hbb HX0.out); have FZ1 := Lib.hid (FZ0.out.later hbb); clear hb hbb; have r0 : y9.cell? ⟨wr.heap.size, 0, none⟩ = some (.bool n0) := FZ1.out.cell 0 0 rfl rfl; have r1 : y9.cell? ⟨wr.heap.size, 1, none⟩ = some (.slice o0 l0 c0) := FZ1.out.cell 0 1 rfl rfl; have r2 := HX1.out))
              go_wp2
              go_roundw
              case rel => exact ⟨j + 1, by go_num, by omega, BE5.out⟩
              case measure => simp only [intOf]; omega
            · have t3 : ¬ (j : Int) < 9 := by omega
              have hb := BE3.out
              have FP11 := Lib.hid (FP10.out.later hb)
              have BX11 := Lib.hid (BX10.out.below hb BX10.out.lt)
              have BY11 := Lib.hid (BY10.out.below hb BY10.out.lt)
              have HX11 := Lib.hid (HX10.out.keep hb)
              have HY11 := Lib.hid (HY10.out.keep hb)
              clear hb hj hj9 hbel N3
              have qq0 : wr.cell? ⟨b1, 0, none⟩ = some (.bool nx) := BX11.out.cell 0
              have qq1 : wr.cell? ⟨b1, 1, none⟩ = some (.slice ox lx cx) := BX11.out.cell 1
              go_wp2_with fail
              refine (string_any _ _ _ _ x _ HX11.out hlx2).mono ?_
              rintro e w21 ⟨rfl, hb⟩
              clear qq0 qq1
              have FP21a := Lib.hid (FP11.out.later hb)
              have BX21a := Lib.hid (BX11.out.below hb BX11.out.lt)
              have BY21a := Lib.hid (BY11.out.below hb BY11.out.lt)
              have HX21a := Lib.hid (HX11.out.keep hb)
              have HY21a := Lib.hid (HY11.out.keep hb)
              clear hb
              have qq0 : w21.cell? ⟨b2, 0, none⟩ = some (.bool ny) := BY21a.out.cell 0
              have qq1 : w21.cell? ⟨b2, 1, none⟩ = some (.slice oy ly cy) := BY21a.out.cell 1
              go_wp2_with fail
              refine (string_any _ _ _ _ y _ HY21a.out hly2).mono ?_
              rintro e w22 ⟨rfl, hb⟩
              clear qq0 qq1
              have FP22a := Lib.hid (FP21a.out.later hb)
              have BX22a := Lib.hid (BX21a.out.below hb BX21a.out.lt)
              have BY22a := Lib.hid (BY21a.out.below hb BY21a.out.lt)
              have HX22a := Lib.hid (HX21a.out.keep hb)
              have HY22a := Lib.hid (HY21a.out.keep hb)
              clear hb
              go_wp2_with fail
              refine (awake_any _).mono ?_
              rintro e w23 ⟨rfl, hb⟩
              have FP23a := Lib.hid (FP22a.out.later hb)
              have BX23a := Lib.hid (BX22a.out.below hb BX22a.out.lt)
              have BY23a := Lib.hid (BY22a.out.below hb BY22a.out.lt)
              have HX23a := Lib.hid (HX22a.out.keep hb)
              have HY23a := Lib.hid (HY22a.out.keep hb)
              clear hb
              go_wp2
              go_ret
              exact ⟨rfl, FP23a.out.below⟩

set_option maxRecDepth 100000 in
theorem lifted (os : Os) (started : os.Started) (H : Type) (enc : TypeId × Value → H) :
    ReturnsInHanded {} Try.checked os 3 .any (Rows.numKeepsSpec.pre6 enc Try.prog Try.f3 Rows.numKeepsRow.domain false) (Rows.numKeepsSpec.post enc Try.prog Try.f3 false true false false) := by
  refine returnsInHanded_of_change (C := Try.checked) own started (by kernel_rfl) Try.func3
    (ChangeSpec.witness6 (enc := enc) (C := Try.checked) false ⟨#[], #[.agg #[.bool false, .slice none 0 0], .agg #[.bool false, .slice none 0 0]], []⟩ 8 (by kernel_rfl) (by kernel_rfl) (by kernel_rfl) (by kernel_rfl)) ?_
  intro W base args ds gs before hval0 hW hcnd _
  have hval : ∀ (j : Nat) t v, Try.f3.params[j]? = some t → args[j]? = some v → Value.okWide Try.prog W .any base t v := hval0
  have hW' := hW
  obtain ⟨p, q, hA0, hV, rfl, hfz, hnd⟩ := hW
  have hA : DataW.TrodAll enc Try.prog W 0 (fun _ => true) true Try.f3.params.toList args.toList ds p := hA0
  have hAk := hA
  rw [Try.params3] at hA hval
  obtain ⟨v0, vs0, d0, ds0, p0, q0, hargs, rfl, rfl, h0, r0⟩ := trodAll_cons hA
  obtain ⟨v1, vs1, d1, ds1, p1, q1, rfl, rfl, rfl, h1, r1⟩ := trodAll_cons r0
  obtain ⟨rfl, rfl, rfl⟩ := trodAll_nil r1
  obtain rfl : args = #[v0, v1] := by cases args; simp_all
  obtain ⟨rfl, rfl⟩ := trodVars_none hV
  obtain ⟨s0, a0, l0, c0, xs0, rfl, hs0, hd0, hl0⟩ := open_raw (hval 0 24 v0 rfl rfl) h0
  obtain ⟨s1, a1, l1, c1, xs1, rfl, hs1, hd1, hl1⟩ := open_raw (hval 1 24 v1 rfl rfl) h1
  clear hA0 hval0
  rw [List.append_nil] at hW'
  refine (walk s0 s1 a0 a1 l0 l1 c0 c1 xs0 xs1 W hs0 hd0 hl0 hs1 hd1 hl1).mono fun e W' ⟨he, hg⟩ => ?_
  subst he
  exact ⟨_, rfl, post_law (by kernel_rfl) (by rw [Try.params3]; intro t ht; simp at ht; subst ht; exact ⟨by kernel_rfl, of_decide_eq_true (by kernel_rfl)⟩) hW' rfl rfl Try.underlying4 hAk rfl rfl rfl hg⟩

theorem over : Rows.numKeepsRow.holds Try.pinned (OpenSpec.ofChange Rows.numKeepsSpec) :=
  OpenClaim.holds_of_wide 3 Try.f3 rfl rfl rfl rfl rfl rfl rfl ⟨rfl, rfl, rfl, rfl, rfl⟩ rfl rfl rfl rfl rfl (by kernel_rfl) Try.func3 (by kernel_rfl)
    (of_decide_eq_true (by kernel_rfl)) (by unfold Func.isWrapper; first | (rw [if_pos (by decide +kernel)]; kernel_rfl) | (rw [if_neg (by decide +kernel)]; exact ⟨rfl, rfl⟩))
    (fun os started H enc _ => lifted os started H enc)

/-- the statement -/
theorem proved : Rows.NumKeepsSaid :=
  over
end Go.Proofs.Ytcgnmihabkgecaa.numKeeps
