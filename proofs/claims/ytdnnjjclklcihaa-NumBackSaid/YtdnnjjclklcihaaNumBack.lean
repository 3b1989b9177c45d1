/- For all integers a and b, NumBack(a, b) returns true, ends, and turns nothing that was there. For every input; no condition. -/
import Derived.Test.YtdnnjjclklcihaaRows
import Derived.WalkKit
import Derived.ProofKit
import Derived.OpenShut
import Derived.Test.YtdnnjjclklcihaaPart10
namespace Go.Proofs.Ytdnnjjclklcihaa.numBack
open Go.ChangeShapes Go.WideShapes Go.ChangeAt Go.RowKit Go.Proofs.Ytdnnjjclklcihaa
set_option linter.unusedVariables false

theorem own : ownKnob Try.prog.godebug = none := by kernel_rfl

set_option maxHeartbeats 16000000 in
set_option maxRecDepth 4000 in
theorem walk (s1 s2 : Bool) (a1 a2 : Option Addr) (l1 l2 c1 c2 : Nat) (xs ys : List Nat) (W : World) (hs1 : Sl .u16 W a1 l1 xs) (hd1 : Dig B16 xs) (hl1 : l1 ≤ 9223372036854775807) (hs2 : Sl .u16 W a2 l2 ys) (hd2 : Dig B16 ys) (hl2 : l2 ≤ 9223372036854775807) :
    Calls Try.prog 12 #[.agg #[.bool s1, .slice a1 l1 c1], .agg #[.bool s2, .slice a2 l2 c2]] W fun e w' => e = .returned (.bool true) ∧ Below W.heap.size W w' := by
  have hf : Fr W ((W.alloc (.cells #[.bool s1, .slice a1 l1 c1] 46)).alloc (.cells #[.bool s2, .slice a2 l2 c2] 46)) [(46, #[.bool s1, .slice a1 l1 c1]), (46, #[.bool s2, .slice a2 l2 c2])] := ((Fr.nil W).alloc rfl _ _).alloc (by simp) _ _
  have FP0 := Lib.hid hf
  have HS1 := Lib.hid (hs1.keep hf.below)
  have HS2 := Lib.hid (hs2.keep hf.below)
  have HD1 := Lib.hid hd1
  have HD2 := Lib.hid hd2
  obtain ⟨x, hx⟩ : ∃ x, x = rawZ s1 xs 400 := ⟨_, rfl⟩
  obtain ⟨y, hy⟩ : ∃ y, y = rawZ s2 ys 400 := ⟨_, rfl⟩
  have KX : Hid (Bl 6400 x) := by rw [hx]; exact rawZ_bl s1 xs hd1 400
  have KY : Hid (Bl 6400 y) := by rw [hy]; exact rawZ_bl s2 ys hd2 400
  have HX := Lib.hid hx
  have HY := Lib.hid hy
  clear hf hs1 hs2 hd1 hd2 hx hy
  go_enter Try.func12, Try.ntmps12
  go_wp2_with fail
  rename_i hK0
  refine two_two 19 20 21 22 23 18 24 25 26 5 6 7 2 3 28 34 (.int .i64 400) (.bool s1) (.slice a1 l1 c1) (.bool s2) (.slice a2 l2 c2) W.heap.size (W.heap.size + 1) x y _ _ Try.func28 (by kernel_rfl) rfl Try.func34 (by kernel_rfl) rfl (by kernel_rfl)
    rfl rfl rfl rfl rfl rfl rfl rfl rfl rfl rfl rfl rfl rfl rfl rfl (by decide) (by decide) (by first | (simp; done) | (simp; omega)) (by first | (simp; done) | (simp; omega))
    (FP0.out.cell 0 0 rfl rfl) (FP0.out.cell 0 1 rfl rfl) (FP0.out.cell 1 0 rfl rfl) (FP0.out.cell 1 1 rfl rfl)
    (fun w hb hsz => by rw [HX.out]; exact lawOf_any s1 _ _ _ xs _ 400 w (HS1.out.keep hb) HD1.out rfl (by decide) hl1) (fun w hb hsz => by rw [HY.out]; exact lawOf_any s2 _ _ _ ys _ 400 w (HS2.out.keep hb) HD2.out rfl (by decide) hl2)
    (fun w n1 x1 m1 k1 n2 x2 m2 k2 h1 h2 => (two_any n1 n2 x1 x2 m1 m2 k1 k2 x y w h1 h2 (Nat.le_trans (fits_len16 h1 (KX.out.fits (by decide))) (by decide)) (Nat.le_trans (fits_len16 h2 (KY.out.fits (by decide))) (by decide))).mono fun e w h => h.fits (KX.out.fits (by decide)) (KY.out.fits (by decide))) ?_
  intro w1 b1 b2 nx ox lx cx ny oy ly cy d1 d3 d4 d5 hb1 hb11 hb12 hne hbx1 hbx2 hlx hly hz1 hz2
  refine hK0 _ _ ?_
  have BX1 := Lib.hid hbx1
  have BY1 := Lib.hid hbx2
  have HX1 := Lib.hid hz1
  have HY1 := Lib.hid hz2
  have FP1 := Lib.hid (FP0.out.later hb1)
  clear hb1 hb11 hb12 hne hbx1 hbx2 hz1 hz2 FP0 HS1 HS2 hK0
  simp only [puts, Act.put]
  have hlx1 : lx ≤ 100000000 := by omega
  have hly1 : ly ≤ 100000000 := by omega
  have hlx2 : lx ≤ 1000000000 := by omega
  have hly2 : ly ≤ 1000000000 := by omega
  have qq0 : w1.cell? ⟨b1, 0, none⟩ = some (.bool nx) := BX1.out.cell 0
  have qq1 : w1.cell? ⟨b1, 1, none⟩ = some (.slice ox lx cx) := BX1.out.cell 1
  go_wp2_with fail
  refine (string_any _ _ _ _ x _ HX1.out hlx2).mono ?_
  rintro e w2 ⟨rfl, hb⟩
  clear qq0 qq1
  have FP2a := Lib.hid (FP1.out.later hb)
  have BX2a := Lib.hid (BX1.out.below hb BX1.out.lt)
  have BY2a := Lib.hid (BY1.out.below hb BY1.out.lt)
  have HX2a := Lib.hid (HX1.out.keep hb)
  have HY2a := Lib.hid (HY1.out.keep hb)
  clear hb
  go_wp2_with fail
  refine (parse_back x _ (KX.out.fits (by decide))).mono ?_
  rintro e w3 ⟨nk, ok, lk, ck, rfl, hlk, hz, hb⟩
  have FP3a := Lib.hid (FP2a.out.later hb)
  have BX3a := Lib.hid (BX2a.out.below hb BX2a.out.lt)
  have BY3a := Lib.hid (BY2a.out.below hb BY2a.out.lt)
  have HX3a := Lib.hid (HX2a.out.keep hb)
  have HY3a := Lib.hid (HY2a.out.keep hb)
  have hf : Fr w3 (w3.alloc (.cells #[.bool nk, .slice ok lk ck] 24)) [(24, #[.bool nk, .slice ok lk ck])] := (Fr.nil w3).alloc rfl _ _
  have FP3b := Lib.hid (FP3a.out.later hf.below)
  have BX3b := Lib.hid (BX3a.out.below hf.below BX3a.out.lt)
  have BY3b := Lib.hid (BY3a.out.below hf.below BY3a.out.lt)
  have HX3b := Lib.hid (HX3a.out.keep hf.below)
  have HY3b := Lib.hid (HY3a.out.keep hf.below)
  have FK3 := Lib.hid hf
  have HK3 := Lib.hid (hz.keep hf.below)
  clear hb hz hf
  have hlk2 : lk ≤ 1000000000 := by omega
  have qq0 : (w3.alloc (.cells #[.bool nk, .slice ok lk ck] 24)).cell? ⟨w3.heap.size, 0, none⟩ = some (.bool nk) := FK3.out.cell 0 0 rfl rfl
  have qq1 : (w3.alloc (.cells #[.bool nk, .slice ok lk ck] 24)).cell? ⟨w3.heap.size, 1, none⟩ = some (.slice ok lk ck) := FK3.out.cell 0 1 rfl rfl
  have qq2 : (w3.alloc (.cells #[.bool nk, .slice ok lk ck] 24)).cell? ⟨b1, 0, none⟩ = some (.bool nx) := BX3b.out.cell 0
  have qq3 : (w3.alloc (.cells #[.bool nk, .slice ok lk ck] 24)).cell? ⟨b1, 1, none⟩ = some (.slice ox lx cx) := BX3b.out.cell 1
  go_wp2_with fail
  refine ((cmpI_any _ _ _ _ _ _ _ _ x x _ HK3.out HX3b.out hlk2 hlx2).mono fun e w h => (⟨h.1.trans (congrArg (fun t => Ending.returned (.int .i64 t)) (by rw [show x - x = 0 by omega]; rfl)), h.2⟩ : e = .returned (.int .i64 0) ∧ _)).mono ?_
  rintro e w4 ⟨rfl, hb⟩
  clear qq0 qq1 qq2 qq3
  have FP4a := Lib.hid (FP3b.out.later hb)
  have FK4a := Lib.hid (FK3.out.later hb)
  have BX4a := Lib.hid (BX3b.out.below hb BX3b.out.lt)
  have BY4a := Lib.hid (BY3b.out.below hb BY3b.out.lt)
  have HX4a := Lib.hid (HX3b.out.keep hb)
  have HY4a := Lib.hid (HY3b.out.keep hb)
  have HK4a := Lib.hid (HK3.out.keep hb)
  clear hb
  by_cases hy0 : y = 0
  · have hly0 : ly = 0 := HY4a.out.n32.zero.1 (by omega)
    subst hly0
    have qq0 : w4.cell? ⟨b1, 0, none⟩ = some (.bool nx) := BX4a.out.cell 0
    have qq1 : w4.cell? ⟨b1, 1, none⟩ = some (.slice ox lx cx) := BX4a.out.cell 1
    have qq2 : w4.cell? ⟨b2, 0, none⟩ = some (.bool ny) := BY4a.out.cell 0
    have qq3 : w4.cell? ⟨b2, 1, none⟩ = some (.slice oy 0 cy) := BY4a.out.cell 1
    go_wp2_with fail
    refine (div_zero _ _ _ _ _ _ _ _).mono ?_
    rintro e w5 ⟨rfl, hb⟩
    clear qq0 qq1 qq2 qq3
    have FP5a := Lib.hid (FP4a.out.later hb)
    have BX5a := Lib.hid (BX4a.out.below hb BX4a.out.lt)
    have BY5a := Lib.hid (BY4a.out.below hb BY4a.out.lt)
    have HX5a := Lib.hid (HX4a.out.keep hb)
    have HY5a := Lib.hid (HY4a.out.keep hb)
    clear hb
    have hg : Fr w5 ((w5.alloc (.cells #[.bool false, .slice none 0 0] 24)).alloc (.cells #[.bool false, .slice none 0 0] 24)) [(24, #[.bool false, .slice none 0 0]), (24, #[.bool false, .slice none 0 0])] := ((Fr.nil w5).alloc rfl _ _).alloc (by simp) _ _
    have FPz := Lib.hid (FP5a.out.later hg.below)
    have BXz := Lib.hid (BX5a.out.below hg.below BX5a.out.lt)
    have BYz := Lib.hid (BY5a.out.below hg.below BY5a.out.lt)
    have HXz := Lib.hid (HX5a.out.keep hg.below)
    have HYz := Lib.hid (HY5a.out.keep hg.below)
    clear hg
    have qq0 : ((w5.alloc (.cells #[.bool false, .slice none 0 0] 24)).alloc (.cells #[.bool false, .slice none 0 0] 24)).cell? ⟨b2, 0, none⟩ = some (.bool ny) := BYz.out.cell 0
    have qq1 : ((w5.alloc (.cells #[.bool false, .slice none 0 0] 24)).alloc (.cells #[.bool false, .slice none 0 0] 24)).cell? ⟨b2, 1, none⟩ = some (.slice oy 0 cy) := BYz.out.cell 1
    go_wp2_with fail
    refine ((sign_any _ _ _ _ y _ HYz.out).mono fun e w h => (⟨h.1.trans (congrArg (fun t => Ending.returned (.int .i64 t)) (by rw [hy0]; rfl)), h.2⟩ : e = .returned (.int .i64 0) ∧ _)).mono ?_
    rintro e w6 ⟨rfl, hb⟩
    clear qq0 qq1
    have FP6a := Lib.hid (FPz.out.later hb)
    have BX6a := Lib.hid (BXz.out.below hb BXz.out.lt)
    have BY6a := Lib.hid (BYz.out.below hb BYz.out.lt)
    have HX6a := Lib.hid (HXz.out.keep hb)
    have HY6a := Lib.hid (HYz.out.keep hb)
    clear hb
    go_wp2_with fail
    refine (awake_any _).mono ?_
    rintro e w7 ⟨rfl, hb⟩
    have FP7a := Lib.hid (FP6a.out.later hb)
    have BX7a := Lib.hid (BX6a.out.below hb BX6a.out.lt)
    have BY7a := Lib.hid (BY6a.out.below hb BY6a.out.lt)
    have HX7a := Lib.hid (HX6a.out.keep hb)
    have HY7a := Lib.hid (HY6a.out.keep hb)
    go_wp2
    go_ret
    exact ⟨rfl, FP7a.out.below⟩
  · have HY0 := Lib.hid hy0
    clear hy0
    have qq0 : w4.cell? ⟨b1, 0, none⟩ = some (.bool nx) := BX4a.out.cell 0
    have qq1 : w4.cell? ⟨b1, 1, none⟩ = some (.slice ox lx cx) := BX4a.out.cell 1
    have qq2 : w4.cell? ⟨b2, 0, none⟩ = some (.bool ny) := BY4a.out.cell 0
    have qq3 : w4.cell? ⟨b2, 1, none⟩ = some (.slice oy ly cy) := BY4a.out.cell 1
    go_wp2_with fail
    refine (div_any _ _ _ _ _ _ _ _ x y _ HX4a.out HY4a.out hlx1 hly1 HY0.out (divide_ok _ _ (by have := HY0.out; omega))).mono ?_
    rintro e w5 ⟨nq, oq, lq, cq, nr, or, lr, cr, rfl, hzq, hzr, hb⟩
    clear qq0 qq1 qq2 qq3
    have FP5a := Lib.hid (FP4a.out.later hb)
    have BX5a := Lib.hid (BX4a.out.below hb BX4a.out.lt)
    have BY5a := Lib.hid (BY4a.out.below hb BY4a.out.lt)
    have HX5a := Lib.hid (HX4a.out.keep hb)
    have HY5a := Lib.hid (HY4a.out.keep hb)
    have hf : Fr w5 ((w5.alloc (.cells #[.bool nq, .slice oq lq cq] 24)).alloc (.cells #[.bool nr, .slice or lr cr] 24)) [(24, #[.bool nq, .slice oq lq cq]), (24, #[.bool nr, .slice or lr cr])] := ((Fr.nil w5).alloc rfl _ _).alloc (by simp) _ _
    have FP5b := Lib.hid (FP5a.out.later hf.below)
    have BX5b := Lib.hid (BX5a.out.below hf.below BX5a.out.lt)
    have BY5b := Lib.hid (BY5a.out.below hf.below BY5a.out.lt)
    have HX5b := Lib.hid (HX5a.out.keep hf.below)
    have HY5b := Lib.hid (HY5a.out.keep hf.below)
    have FQ := Lib.hid hf
    have HQ := Lib.hid (hzq.keep hf.below)
    have HR := Lib.hid (hzr.keep hf.below)
    have KQ : Hid (Bl 6400 (x / y)) := bl_div KX.out
    have KR : Hid (Bl 6400 (x % y)) := bl_mod KY.out HY0.out
    have hlq1 : lq ≤ 100000000 := Nat.le_trans (fits_len hzq (KQ.out.fits (by decide))) (by decide)
    have hlr1 : lr ≤ 100000000 := Nat.le_trans (fits_len hzr (KR.out.fits (by decide))) (by decide)
    have hlr2 : lr ≤ 1000000000 := by omega
    clear hb hzq hzr hf
    obtain ⟨t, ht⟩ : ∃ t, t = y.sign := ⟨_, rfl⟩
    have ht0 : (t == 0) = false := by
      have : y.sign ≠ 0 := fun h => HY0.out (Int.sign_eq_zero_iff_zero.1 h)
      rw [ht]; simp [this]
    have HT := Lib.hid ht
    clear ht
    have qq0 : ((w5.alloc (.cells #[.bool nq, .slice oq lq cq] 24)).alloc (.cells #[.bool nr, .slice or lr cr] 24)).cell? ⟨b2, 0, none⟩ = some (.bool ny) := BY5b.out.cell 0
    have qq1 : ((w5.alloc (.cells #[.bool nq, .slice oq lq cq] 24)).alloc (.cells #[.bool nr, .slice or lr cr] 24)).cell? ⟨b2, 1, none⟩ = some (.slice oy ly cy) := BY5b.out.cell 1
    go_wp2_with fail
    refine ((sign_any _ _ _ _ y _ HY5b.out).mono fun e w h => (⟨h.1.trans (congrArg (fun t => Ending.returned (.int .i64 t)) HT.out.symm), h.2⟩ : e = .returned (.int .i64 t) ∧ _)).mono ?_
    rintro e w6 ⟨rfl, hb⟩
    clear qq0 qq1
    have FP6a := Lib.hid (FP5b.out.later hb)
    have FQ6a := Lib.hid (FQ.out.later hb)
    have BX6a := Lib.hid (BX5b.out.below hb BX5b.out.lt)
    have BY6a := Lib.hid (BY5b.out.below hb BY5b.out.lt)
    have HX6a := Lib.hid (HX5b.out.keep hb)
    have HY6a := Lib.hid (HY5b.out.keep hb)
    have HQ6a := Lib.hid (HQ.out.keep hb)
    have HR6a := Lib.hid (HR.out.keep hb)
    clear hb
    have qq0 : w6.cell? ⟨w5.heap.size, 0, none⟩ = some (.bool nq) := FQ6a.out.cell 0 0 rfl rfl
    have qq1 : w6.cell? ⟨w5.heap.size, 1, none⟩ = some (.slice oq lq cq) := FQ6a.out.cell 0 1 rfl rfl
    have qq2 : w6.cell? ⟨w5.heap.size + 1, 0, none⟩ = some (.bool nr) := FQ6a.out.cell 1 0 rfl rfl
    have qq3 : w6.cell? ⟨w5.heap.size + 1, 1, none⟩ = some (.slice or lr cr) := FQ6a.out.cell 1 1 rfl rfl
    have qq4 : w6.cell? ⟨b2, 0, none⟩ = some (.bool ny) := BY6a.out.cell 0
    have qq5 : w6.cell? ⟨b2, 1, none⟩ = some (.slice oy ly cy) := BY6a.out.cell 1
    go_wp2_with fail
    refine ((mulI_any _ _ _ _ _ _ _ _ (x / y) y _ HQ6a.out HY6a.out hlq1 hly1).mono fun e w h => h.fine ((bl_back KX.out KY.out HY0.out).fits (by decide))).mono ?_
    rintro e w7 ⟨nm, om, lm, cm, rfl, hlm, hz, hb⟩
    clear qq0 qq1 qq2 qq3 qq4 qq5
    have FP7a := Lib.hid (FP6a.out.later hb)
    have FQ7a := Lib.hid (FQ6a.out.later hb)
    have BX7a := Lib.hid (BX6a.out.below hb BX6a.out.lt)
    have BY7a := Lib.hid (BY6a.out.below hb BY6a.out.lt)
    have HX7a := Lib.hid (HX6a.out.keep hb)
    have HY7a := Lib.hid (HY6a.out.keep hb)
    have HQ7a := Lib.hid (HQ6a.out.keep hb)
    have HR7a := Lib.hid (HR6a.out.keep hb)
    have hf : Fr w7 (w7.alloc (.cells #[.bool nm, .slice om lm cm] 24)) [(24, #[.bool nm, .slice om lm cm])] := (Fr.nil w7).alloc rfl _ _
    have FP7b := Lib.hid (FP7a.out.later hf.below)
    have FQ7b := Lib.hid (FQ7a.out.later hf.below)
    have BX7b := Lib.hid (BX7a.out.below hf.below BX7a.out.lt)
    have BY7b := Lib.hid (BY7a.out.below hf.below BY7a.out.lt)
    have HX7b := Lib.hid (HX7a.out.keep hf.below)
    have HY7b := Lib.hid (HY7a.out.keep hf.below)
    have HQ7b := Lib.hid (HQ7a.out.keep hf.below)
    have HR7b := Lib.hid (HR7a.out.keep hf.below)
    have FM7 := Lib.hid hf
    have HM7 := Lib.hid (hz.keep hf.below)
    clear hb hz hf
    have hlm1 : lm ≤ 100000000 := by omega
    have qq0 : (w7.alloc (.cells #[.bool nm, .slice om lm cm] 24)).cell? ⟨w5.heap.size, 0, none⟩ = some (.bool nq) := FQ7b.out.cell 0 0 rfl rfl
    have qq1 : (w7.alloc (.cells #[.bool nm, .slice om lm cm] 24)).cell? ⟨w5.heap.size, 1, none⟩ = some (.slice oq lq cq) := FQ7b.out.cell 0 1 rfl rfl
    have qq2 : (w7.alloc (.cells #[.bool nm, .slice om lm cm] 24)).cell? ⟨w5.heap.size + 1, 0, none⟩ = some (.bool nr) := FQ7b.out.cell 1 0 rfl rfl
    have qq3 : (w7.alloc (.cells #[.bool nm, .slice om lm cm] 24)).cell? ⟨w5.heap.size + 1, 1, none⟩ = some (.slice or lr cr) := FQ7b.out.cell 1 1 rfl rfl
    have qq4 : (w7.alloc (.cells #[.bool nm, .slice om lm cm] 24)).cell? ⟨w7.heap.size, 0, none⟩ = some (.bool nm) := FM7.out.cell 0 0 rfl rfl
    have qq5 : (w7.alloc (.cells #[.bool nm, .slice om lm cm] 24)).cell? ⟨w7.heap.size, 1, none⟩ = some (.slice om lm cm) := FM7.out.cell 0 1 rfl rfl
    go_wp2_with fail
    refine ((addI_any _ _ _ _ _ _ _ _ (x / y * y) (x % y) _ HM7.out HR7b.out hlm1 hlr1).mono fun e w h => (show OutE _ x e w from (by rw [Int.ediv_mul_add_emod] at h; exact h.fine (KX.out.fits (by decide))))).mono ?_
    rintro e w8 ⟨ns, os, ls, cs, rfl, hls, hz, hb⟩
    clear qq0 qq1 qq2 qq3 qq4 qq5
    have FP8a := Lib.hid (FP7b.out.later hb)
    have FQ8a := Lib.hid (FQ7b.out.later hb)
    have FM8a := Lib.hid (FM7.out.later hb)
    have BX8a := Lib.hid (BX7b.out.below hb BX7b.out.lt)
    have BY8a := Lib.hid (BY7b.out.below hb BY7b.out.lt)
    have HX8a := Lib.hid (HX7b.out.keep hb)
    have HY8a := Lib.hid (HY7b.out.keep hb)
    have HQ8a := Lib.hid (HQ7b.out.keep hb)
    have HR8a := Lib.hid (HR7b.out.keep hb)
    have HM8a := Lib.hid (HM7.out.keep hb)
    have hf : Fr w8 ((w8.alloc (.cells #[.bool ns, .slice os ls cs] 24)).alloc (.cells #[.bool ny, .slice oy ly cy] 24)) [(24, #[.bool ns, .slice os ls cs]), (24, #[.bool ny, .slice oy ly cy])] := ((Fr.nil w8).alloc rfl _ _).alloc (by simp) _ _
    have FP8b := Lib.hid (FP8a.out.later hf.below)
    have FQ8b := Lib.hid (FQ8a.out.later hf.below)
    have BX8b := Lib.hid (BX8a.out.below hf.below BX8a.out.lt)
    have BY8b := Lib.hid (BY8a.out.below hf.below BY8a.out.lt)
    have HX8b := Lib.hid (HX8a.out.keep hf.below)
    have HY8b := Lib.hid (HY8a.out.keep hf.below)
    have HQ8b := Lib.hid (HQ8a.out.keep hf.below)
    have HR8b := Lib.hid (HR8a.out.keep hf.below)
    have FS := Lib.hid hf
    have HSS := Lib.hid (hz.keep hf.below)
    have hls2 : ls ≤ 1000000000 := by omega
    have p0 : (w8.alloc (.cells #[.bool ns, .slice os ls cs] 24)).cell? ⟨b2, 0, none⟩ = some (.bool ny) := (BY8a.out.below (box_below _ _ _) BY8a.out.lt).cell 0
    have p1 : (w8.alloc (.cells #[.bool ns, .slice os ls cs] 24)).cell? ⟨b2, 1, none⟩ = some (.slice oy ly cy) := (BY8a.out.below (box_below _ _ _) BY8a.out.lt).cell 1
    clear hb hz hf
    have qq0 : ((w8.alloc (.cells #[.bool ns, .slice os ls cs] 24)).alloc (.cells #[.bool ny, .slice oy ly cy] 24)).cell? ⟨b2, 0, none⟩ = some (.bool ny) := BY8b.out.cell 0
    have qq1 : ((w8.alloc (.cells #[.bool ns, .slice os ls cs] 24)).alloc (.cells #[.bool ny, .slice oy ly cy] 24)).cell? ⟨b2, 1, none⟩ = some (.slice oy ly cy) := BY8b.out.cell 1
    go_wp2_with fail
    refine ((sign_any _ _ _ _ y _ HY8b.out).mono fun e w h => (⟨h.1.trans (congrArg (fun t => Ending.returned (.int .i64 t)) HT.out.symm), h.2⟩ : e = .returned (.int .i64 t) ∧ _)).mono ?_
    rintro e w9 ⟨rfl, hb⟩
    clear qq0 qq1
    have FP9a := Lib.hid (FP8b.out.later hb)
    have FQ9a := Lib.hid (FQ8b.out.later hb)
    have FS9a := Lib.hid (FS.out.later hb)
    have BX9a := Lib.hid (BX8b.out.below hb BX8b.out.lt)
    have BY9a := Lib.hid (BY8b.out.below hb BY8b.out.lt)
    have HX9a := Lib.hid (HX8b.out.keep hb)
    have HY9a := Lib.hid (HY8b.out.keep hb)
    have HQ9a := Lib.hid (HQ8b.out.keep hb)
    have HR9a := Lib.hid (HR8b.out.keep hb)
    have HS9a := Lib.hid (HSS.out.keep hb)
    clear hb
    clear p0 p1
    have hrn : 0 ≤ x % y := Int.emod_nonneg x HY0.out
    have hrl : x % y < y.natAbs := Int.emod_lt x HY0.out
    obtain ⟨r, hr⟩ : ∃ r, r = x % y := ⟨_, rfl⟩
    rw [← hr] at hrn hrl HR9a
    have HRE := Lib.hid hr
    have HRN := Lib.hid hrn
    have HRL := Lib.hid hrl
    clear hr hrn hrl
    by_cases hneg : y < 0
    · have htn : t < 0 := by rw [HT.out]; have := Int.sign_eq_neg_one_of_neg hneg; omega
      have qq0 : w9.cell? ⟨b2, 0, none⟩ = some (.bool ny) := BY9a.out.cell 0
      have qq1 : w9.cell? ⟨b2, 1, none⟩ = some (.slice oy ly cy) := BY9a.out.cell 1
      go_wp2_with fail
      refine (neg_any _ _ _ _ y _ HY9a.out hly2).mono ?_
      rintro e w10 ⟨nz, oz, lz, cz, rfl, hz, hb⟩
      clear qq0 qq1
      have FP10a := Lib.hid (FP9a.out.later hb)
      have FQ10a := Lib.hid (FQ9a.out.later hb)
      have FS10a := Lib.hid (FS9a.out.later hb)
      have BX10a := Lib.hid (BX9a.out.below hb BX9a.out.lt)
      have BY10a := Lib.hid (BY9a.out.below hb BY9a.out.lt)
      have HX10a := Lib.hid (HX9a.out.keep hb)
      have HY10a := Lib.hid (HY9a.out.keep hb)
      have HQ10a := Lib.hid (HQ9a.out.keep hb)
      have HR10a := Lib.hid (HR9a.out.keep hb)
      have HS10a := Lib.hid (HS9a.out.keep hb)
      have hlz2 : lz ≤ 1000000000 := neg_len hz (KY.out.fits (by decide))
      have HZ := Lib.hid hz
      clear hz hb
      have g0 : w10.cell? ⟨w8.heap.size + 1, 0, none⟩ = some (.bool ny) := FS10a.out.cell 1 0 rfl rfl
      have g1 : w10.cell? ⟨w8.heap.size + 1, 1, none⟩ = some (.slice oy ly cy) := FS10a.out.cell 1 1 rfl rfl
      have g2 : w10.frozen? ⟨w8.heap.size + 1, 0, none⟩ = false := FS10a.out.frozen 1 0 rfl
      have g3 : w10.frozen? ⟨w8.heap.size + 1, 1, none⟩ = false := FS10a.out.frozen 1 1 rfl
      go_wp2_with fail
      obtain ⟨V, hV⟩ : ∃ V, V = setFrom w10 (w8.heap.size + 1) 0 [.bool nz, .slice oz lz cz] := ⟨_, rfl⟩
      have hbz : Box w10 (w8.heap.size + 1) 24 #[.bool ny, .slice oy ly cy] := FS10a.out.box 1 _ _ rfl
      have hui : ∀ u ∈ [Value.bool nz, Value.slice oz lz cz], isInt u = false := by simp [isInt]
      have hVf : Fr w8 V [(24, #[.bool ns, .slice os ls cs]), (24, #[.bool nz, .slice oz lz cz])] := by
        rw [hV]; exact (FS10a.out.set 1 0 rfl (.bool nz)).set 1 1 rfl (.slice oz lz cz)
      have hVz : Z32 V nz oz lz (-y) := by rw [hV]; exact HZ.out.setFrom _ hui hbz rfl
      have hVs : Z32 V ns os ls x := by rw [hV]; exact HS10a.out.setFrom _ hui hbz rfl
      have hVr : Z32 V nr or lr r := by rw [hV]; exact HR10a.out.setFrom _ hui hbz rfl
      have hVx : Z32 V nx ox lx x := by rw [hV]; exact HX10a.out.setFrom _ hui hbz rfl
      have hgq := FQ10a.out.size
      have hgs := FS10a.out.below.size
      have hgb := BX10a.out
      have hVb : Box V b1 24 #[.bool nx, .slice ox lx cx] := by rw [hV]; exact (setFrom_other (by have h1 := BX8a.out.lt; omega) _ _ _).trans hgb
      have hVq : Box V (w5.heap.size + 1) 24 #[.bool nr, .slice or lr cr] := by rw [hV]; exact (setFrom_other (by have h1 := (FQ8a.out.box 1 _ _ rfl).lt; omega) _ _ _).trans (FQ10a.out.box 1 _ _ rfl)
      have hVP : Below W.heap.size W V := by rw [hV]; exact setFrom_below (by have h1 := FP10a.out.below; have h2 := FP8a.out.below.size; omega) _ _ _ _ FP10a.out.below
      have hVn : w10.heap.size = V.heap.size := by rw [hV, setFrom_size]
      simp only [setFrom] at hV
      rw [← hV, hVn]
      have VS := Lib.hid hVf
      have VZ := Lib.hid hVz
      have VSS := Lib.hid hVs
      have VR := Lib.hid hVr
      have VX := Lib.hid hVx
      have VB := Lib.hid hVb
      have VQ := Lib.hid hVq
      have VP : Hid (Fr W V []) := ⟨hVP, by simpa using hVP.size, fun i T c h => by simp at h⟩
      clear g0 g1 g2 g3 hbz hui hVf hVz hVs hVr hVx hVb hVq hVP hV hgq hgs hgb hVn
      go_wp2_with fail
      refine ((fine_any _ 3 _ _ (zeros_sl V 36 3 _ rfl) (by decide)).mono fun e w h => (⟨h.1, h.2 ▸ (Below.refl _ _).alloc (Nat.le_refl _) _⟩ : e = .returned (.bool true) ∧ Below (V).heap.size V w)).mono ?_
      rintro e w11 ⟨rfl, hb⟩
      have FP11a := Lib.hid (VP.out.later hb)
      have FS11a := Lib.hid (VS.out.later hb)
      have BX11a := Lib.hid (VB.out.below hb VB.out.lt)
      have BQ11a := Lib.hid (VQ.out.below hb VQ.out.lt)
      have HZ11a := Lib.hid (VZ.out.keep hb)
      have HS11a := Lib.hid (VSS.out.keep hb)
      have HR11a := Lib.hid (VR.out.keep hb)
      have HX11a := Lib.hid (VX.out.keep hb)
      clear hb
      have qq0 : w11.cell? ⟨w8.heap.size, 0, none⟩ = some (.bool ns) := FS11a.out.cell 0 0 rfl rfl
      have qq1 : w11.cell? ⟨w8.heap.size, 1, none⟩ = some (.slice os ls cs) := FS11a.out.cell 0 1 rfl rfl
      have qq2 : w11.cell? ⟨w8.heap.size + 1, 0, none⟩ = some (.bool nz) := FS11a.out.cell 1 0 rfl rfl
      have qq3 : w11.cell? ⟨w8.heap.size + 1, 1, none⟩ = some (.slice oz lz cz) := FS11a.out.cell 1 1 rfl rfl
      have qq4 : w11.cell? ⟨b1, 0, none⟩ = some (.bool nx) := BX11a.out.cell 0
      have qq5 : w11.cell? ⟨b1, 1, none⟩ = some (.slice ox lx cx) := BX11a.out.cell 1
      go_wp2_with fail
      refine ((cmpI_any _ _ _ _ _ _ _ _ x x _ HS11a.out HX11a.out hls2 hlx2).mono fun e w h => (⟨h.1.trans (congrArg (fun t => Ending.returned (.int .i64 t)) (by rw [show x - x = 0 by omega]; rfl)), h.2⟩ : e = .returned (.int .i64 0) ∧ _)).mono ?_
      rintro e w12 ⟨rfl, hb⟩
      clear qq0 qq1 qq2 qq3 qq4 qq5
      have FP12a := Lib.hid (FP11a.out.later hb)
      have FS12a := Lib.hid (FS11a.out.later hb)
      have BX12a := Lib.hid (BX11a.out.below hb BX11a.out.lt)
      have BQ12a := Lib.hid (BQ11a.out.below hb BQ11a.out.lt)
      have HZ12a := Lib.hid (HZ11a.out.keep hb)
      have HS12a := Lib.hid (HS11a.out.keep hb)
      have HR12a := Lib.hid (HR11a.out.keep hb)
      have HX12a := Lib.hid (HX11a.out.keep hb)
      clear hb
      obtain ⟨u, hu⟩ : ∃ u, u = r.sign := ⟨_, rfl⟩
      have hu0 : 0 ≤ u := by rw [hu]; exact Int.sign_nonneg_iff.2 HRN.out
      have hu1 : decide (0 ≤ u) = true := by simpa using hu0
      have HU := Lib.hid hu
      clear hu
      have qq0 : w12.cell? ⟨w5.heap.size + 1, 0, none⟩ = some (.bool nr) := BQ12a.out.cell 0
      have qq1 : w12.cell? ⟨w5.heap.size + 1, 1, none⟩ = some (.slice or lr cr) := BQ12a.out.cell 1
      go_wp2_with fail
      refine ((sign_any _ _ _ _ r _ HR12a.out).mono fun e w h => (⟨h.1.trans (congrArg (fun t => Ending.returned (.int .i64 t)) HU.out.symm), h.2⟩ : e = .returned (.int .i64 u) ∧ _)).mono ?_
      rintro e w13 ⟨rfl, hb⟩
      clear qq0 qq1
      have FP13a := Lib.hid (FP12a.out.later hb)
      have FS13a := Lib.hid (FS12a.out.later hb)
      have BX13a := Lib.hid (BX12a.out.below hb BX12a.out.lt)
      have BQ13a := Lib.hid (BQ12a.out.below hb BQ12a.out.lt)
      have HZ13a := Lib.hid (HZ12a.out.keep hb)
      have HS13a := Lib.hid (HS12a.out.keep hb)
      have HR13a := Lib.hid (HR12a.out.keep hb)
      have HX13a := Lib.hid (HX12a.out.keep hb)
      clear hb
      have qq0 : w13.cell? ⟨w8.heap.size, 0, none⟩ = some (.bool ns) := FS13a.out.cell 0 0 rfl rfl
      have qq1 : w13.cell? ⟨w8.heap.size, 1, none⟩ = some (.slice os ls cs) := FS13a.out.cell 0 1 rfl rfl
      have qq2 : w13.cell? ⟨w8.heap.size + 1, 0, none⟩ = some (.bool nz) := FS13a.out.cell 1 0 rfl rfl
      have qq3 : w13.cell? ⟨w8.heap.size + 1, 1, none⟩ = some (.slice oz lz cz) := FS13a.out.cell 1 1 rfl rfl
      have qq4 : w13.cell? ⟨w5.heap.size + 1, 0, none⟩ = some (.bool nr) := BQ13a.out.cell 0
      have qq5 : w13.cell? ⟨w5.heap.size + 1, 1, none⟩ = some (.slice or lr cr) := BQ13a.out.cell 1
      go_wp2_with fail
      refine ((cmpI_any _ _ _ _ _ _ _ _ r (-y) _ HR13a.out HZ13a.out hlr2 hlz2).mono fun e w h => (⟨h.1.trans (congrArg (fun t => Ending.returned (.int .i64 t)) (Int.sign_eq_neg_one_of_neg (by have := HRL.out; omega))), h.2⟩ : e = .returned (.int .i64 (-1)) ∧ _)).mono ?_
      rintro e w14 ⟨rfl, hb⟩
      clear qq0 qq1 qq2 qq3 qq4 qq5
      have FP14a := Lib.hid (FP13a.out.later hb)
      have FS14a := Lib.hid (FS13a.out.later hb)
      have BX14a := Lib.hid (BX13a.out.below hb BX13a.out.lt)
      have BQ14a := Lib.hid (BQ13a.out.below hb BQ13a.out.lt)
      have HZ14a := Lib.hid (HZ13a.out.keep hb)
      have HS14a := Lib.hid (HS13a.out.keep hb)
      have HR14a := Lib.hid (HR13a.out.keep hb)
      have HX14a := Lib.hid (HX13a.out.keep hb)
      clear hb
      go_wp2_with fail
      refine (awake_any _).mono ?_
      rintro e w15 ⟨rfl, hb⟩
      have FP15a := Lib.hid (FP14a.out.later hb)
      have FS15a := Lib.hid (FS14a.out.later hb)
      have BX15a := Lib.hid (BX14a.out.below hb BX14a.out.lt)
      have BQ15a := Lib.hid (BQ14a.out.below hb BQ14a.out.lt)
      have HZ15a := Lib.hid (HZ14a.out.keep hb)
      have HS15a := Lib.hid (HS14a.out.keep hb)
      have HR15a := Lib.hid (HR14a.out.keep hb)
      have HX15a := Lib.hid (HX14a.out.keep hb)
      go_wp2
      go_ret
      exact ⟨rfl, FP15a.out.below⟩
    · have htn : ¬ t < 0 := by rw [HT.out]; have := Int.sign_nonneg_iff.2 (show 0 ≤ y by omega); omega
      go_wp2_with fail
      refine ((fine_any _ 3 _ _ (zeros_sl w9 36 3 _ rfl) (by decide)).mono fun e w h => (⟨h.1, h.2 ▸ (Below.refl _ _).alloc (Nat.le_refl _) _⟩ : e = .returned (.bool true) ∧ Below (w9).heap.size w9 w)).mono ?_
      rintro e w10 ⟨rfl, hb⟩
      have FP10a := Lib.hid (FP9a.out.later hb)
      have FQ10a := Lib.hid (FQ9a.out.later hb)
      have FS10a := Lib.hid (FS9a.out.later hb)
      have BX10a := Lib.hid (BX9a.out.below hb BX9a.out.lt)
      have BY10a := Lib.hid (BY9a.out.below hb BY9a.out.lt)
      have HX10a := Lib.hid (HX9a.out.keep hb)
      have HY10a := Lib.hid (HY9a.out.keep hb)
      have HR10a := Lib.hid (HR9a.out.keep hb)
      have HS10a := Lib.hid (HS9a.out.keep hb)
      clear hb
      have qq0 : w10.cell? ⟨w8.heap.size, 0, none⟩ = some (.bool ns) := FS10a.out.cell 0 0 rfl rfl
      have qq1 : w10.cell? ⟨w8.heap.size, 1, none⟩ = some (.slice os ls cs) := FS10a.out.cell 0 1 rfl rfl
      have qq2 : w10.cell? ⟨w8.heap.size + 1, 0, none⟩ = some (.bool ny) := FS10a.out.cell 1 0 rfl rfl
      have qq3 : w10.cell? ⟨w8.heap.size + 1, 1, none⟩ = some (.slice oy ly cy) := FS10a.out.cell 1 1 rfl rfl
      have qq4 : w10.cell? ⟨b1, 0, none⟩ = some (.bool nx) := BX10a.out.cell 0
      have qq5 : w10.cell? ⟨b1, 1, none⟩ = some (.slice ox lx cx) := BX10a.out.cell 1
      go_wp2_with fail
      refine ((cmpI_any _ _ _ _ _ _ _ _ x x _ HS10a.out HX10a.out hls2 hlx2).mono fun e w h => (⟨h.1.trans (congrArg (fun t => Ending.returned (.int .i64 t)) (by rw [show x - x = 0 by omega]; rfl)), h.2⟩ : e = .returned (.int .i64 0) ∧ _)).mono ?_
      rintro e w11 ⟨rfl, hb⟩
      clear qq0 qq1 qq2 qq3 qq4 qq5
      have FP11a := Lib.hid (FP10a.out.later hb)
      have FQ11a := Lib.hid (FQ10a.out.later hb)
      have FS11a := Lib.hid (FS10a.out.later hb)
      have BX11a := Lib.hid (BX10a.out.below hb BX10a.out.lt)
      have BY11a := Lib.hid (BY10a.out.below hb BY10a.out.lt)
      have HX11a := Lib.hid (HX10a.out.keep hb)
      have HY11a := Lib.hid (HY10a.out.keep hb)
      have HR11a := Lib.hid (HR10a.out.keep hb)
      have HS11a := Lib.hid (HS10a.out.keep hb)
      clear hb
      obtain ⟨u, hu⟩ : ∃ u, u = r.sign := ⟨_, rfl⟩
      have hu0 : 0 ≤ u := by rw [hu]; exact Int.sign_nonneg_iff.2 HRN.out
      have hu1 : decide (0 ≤ u) = true := by simpa using hu0
      have HU := Lib.hid hu
      clear hu
      have qq0 : w11.cell? ⟨w5.heap.size, 0, none⟩ = some (.bool nq) := FQ11a.out.cell 0 0 rfl rfl
      have qq1 : w11.cell? ⟨w5.heap.size, 1, none⟩ = some (.slice oq lq cq) := FQ11a.out.cell 0 1 rfl rfl
      have qq2 : w11.cell? ⟨w5.heap.size + 1, 0, none⟩ = some (.bool nr) := FQ11a.out.cell 1 0 rfl rfl
      have qq3 : w11.cell? ⟨w5.heap.size + 1, 1, none⟩ = some (.slice or lr cr) := FQ11a.out.cell 1 1 rfl rfl
      go_wp2_with fail
      refine ((sign_any _ _ _ _ r _ HR11a.out).mono fun e w h => (⟨h.1.trans (congrArg (fun t => Ending.returned (.int .i64 t)) HU.out.symm), h.2⟩ : e = .returned (.int .i64 u) ∧ _)).mono ?_
      rintro e w12 ⟨rfl, hb⟩
      clear qq0 qq1 qq2 qq3
      have FP12a := Lib.hid (FP11a.out.later hb)
      have FQ12a := Lib.hid (FQ11a.out.later hb)
      have FS12a := Lib.hid (FS11a.out.later hb)
      have BX12a := Lib.hid (BX11a.out.below hb BX11a.out.lt)
      have BY12a := Lib.hid (BY11a.out.below hb BY11a.out.lt)
      have HX12a := Lib.hid (HX11a.out.keep hb)
      have HY12a := Lib.hid (HY11a.out.keep hb)
      have HR12a := Lib.hid (HR11a.out.keep hb)
      have HS12a := Lib.hid (HS11a.out.keep hb)
      clear hb
      have qq0 : w12.cell? ⟨w5.heap.size, 0, none⟩ = some (.bool nq) := FQ12a.out.cell 0 0 rfl rfl
      have qq1 : w12.cell? ⟨w5.heap.size, 1, none⟩ = some (.slice oq lq cq) := FQ12a.out.cell 0 1 rfl rfl
      have qq2 : w12.cell? ⟨w5.heap.size + 1, 0, none⟩ = some (.bool nr) := FQ12a.out.cell 1 0 rfl rfl
      have qq3 : w12.cell? ⟨w5.heap.size + 1, 1, none⟩ = some (.slice or lr cr) := FQ12a.out.cell 1 1 rfl rfl
      have qq4 : w12.cell? ⟨w8.heap.size, 0, none⟩ = some (.bool ns) := FS12a.out.cell 0 0 rfl rfl
      have qq5 : w12.cell? ⟨w8.heap.size, 1, none⟩ = some (.slice os ls cs) := FS12a.out.cell 0 1 rfl rfl
      have qq6 : w12.cell? ⟨w8.heap.size + 1, 0, none⟩ = some (.bool ny) := FS12a.out.cell 1 0 rfl rfl
      have qq7 : w12.cell? ⟨w8.heap.size + 1, 1, none⟩ = some (.slice oy ly cy) := FS12a.out.cell 1 1 rfl rfl
      go_wp2_with fail
      refine ((cmpI_any _ _ _ _ _ _ _ _ r y _ HR12a.out HY12a.out hlr2 hly2).mono fun e w h => (⟨h.1.trans (congrArg (fun t => Ending.returned (.int .i64 t)) (Int.sign_eq_neg_one_of_neg (by have := HRL.out; omega))), h.2⟩ : e = .returned (.int .i64 (-1)) ∧ _)).mono ?_
      rintro e w13 ⟨rfl, hb⟩
      clear qq0 qq1 qq2 qq3 qq4 qq5 qq6 qq7
      have FP13a := Lib.hid (FP12a.out.later hb)
      have FQ13a := Lib.hid (FQ12a.out.later hb)
      have FS13a := Lib.hid (FS12a.out.later hb)
      have BX13a := Lib.hid (BX12a.out.below hb BX12a.out.lt)
      have BY13a := Lib.hid (BY12a.out.below hb BY12a.out.lt)
      have HX13a := Lib.hid (HX12a.out.keep hb)
      have HY13a := Lib.hid (HY12a.out.keep hb)
      have HR13a := Lib.hid (HR12a.out.keep hb)
      have HS13a := Lib.hid (HS12a.out.keep hb)
      clear hb
      go_wp2_with fail
      refine (awake_any _).mono ?_
      rintro e w14 ⟨rfl, hb⟩
      have FP14a := Lib.hid (FP13a.out.later hb)
      have FQ14a := Lib.hid (FQ13a.out.later hb)
      have FS14a := Lib.hid (FS13a.out.later hb)
      have BX14a := Lib.hid (BX13a.out.below hb BX13a.out.lt)
      have BY14a := Lib.hid (BY13a.out.below hb BY13a.out.lt)
      have HX14a := Lib.hid (HX13a.out.keep hb)
      have HY14a := Lib.hid (HY13a.out.keep hb)
      have HR14a := Lib.hid (HR13a.out.keep hb)
      have HS14a := Lib.hid (HS13a.out.keep hb)
      go_wp2
      go_ret
      exact ⟨rfl, FP14a.out.below⟩

set_option maxRecDepth 100000 in
theorem lifted (os : Os) (started : os.Started) (H : Type) (enc : TypeId × Value → H) :
    ReturnsInHanded {} Try.checked os 12 .any (Rows.numBackSpec.pre6 enc Try.prog Try.f12 Rows.numBackRow.domain false) (Rows.numBackSpec.post enc Try.prog Try.f12 false true false false) := by
  refine returnsInHanded_of_change (C := Try.checked) own started (by kernel_rfl) Try.func12
    (ChangeSpec.witness6 (enc := enc) (C := Try.checked) false ⟨#[], #[.agg #[.bool false, .slice none 0 0], .agg #[.bool false, .slice none 0 0]], []⟩ 8 (by kernel_rfl) (by kernel_rfl) (by kernel_rfl) (by kernel_rfl)) ?_
  intro W base args ds gs before hval0 hW hcnd _
  have hval : ∀ (j : Nat) t v, Try.f12.params[j]? = some t → args[j]? = some v → Value.okWide Try.prog W .any base t v := hval0
  have hW' := hW
  obtain ⟨p, q, hA0, hV, rfl, hfz, hnd⟩ := hW
  have hA : DataW.TrodAll enc Try.prog W 0 (fun _ => true) true Try.f12.params.toList args.toList ds p := hA0
  have hAk := hA
  rw [Try.params12] at hA hval
  obtain ⟨v0, vs0, d0, ds0, p0, q0, hargs, rfl, rfl, h0, r0⟩ := trodAll_cons hA
  obtain ⟨v1, vs1, d1, ds1, p1, q1, rfl, rfl, rfl, h1, r1⟩ := trodAll_cons r0
  obtain ⟨rfl, rfl, rfl⟩ := trodAll_nil r1
  obtain rfl : args = #[v0, v1] := by cases args; simp_all
  obtain ⟨rfl, rfl⟩ := trodVars_none hV
  obtain ⟨s, ao, la, ca, xs, rfl, hs, hd, hla⟩ := open_raw (hval 0 46 v0 rfl rfl) h0
  obtain ⟨s2, ao2, la2, ca2, ys, rfl, hs2, hd2, hla2⟩ := open_raw (hval 1 46 v1 rfl rfl) h1
  clear hA0 hval0
  rw [List.append_nil] at hW'
  refine (walk s s2 ao ao2 la la2 ca ca2 xs ys W hs hd hla hs2 hd2 hla2).mono fun e W' ⟨he, hg⟩ => ?_
  subst he
  exact ⟨_, rfl, post_law (by kernel_rfl) (by rw [Try.params12]; intro t ht; simp at ht; subst ht; exact ⟨by kernel_rfl, of_decide_eq_true (by kernel_rfl)⟩) hW' rfl rfl Try.underlying4 hAk rfl rfl rfl hg⟩

theorem over : Rows.numBackRow.holds Try.pinned (OpenSpec.ofChange Rows.numBackSpec) :=
  OpenClaim.holds_of_wide 12 Try.f12 rfl rfl rfl rfl rfl rfl rfl ⟨rfl, rfl, rfl, rfl, rfl⟩ rfl rfl rfl rfl rfl (by kernel_rfl) Try.func12 (by kernel_rfl)
    (of_decide_eq_true (by kernel_rfl)) (by unfold Func.isWrapper; first | (rw [if_pos (by decide +kernel)]; kernel_rfl) | (rw [if_neg (by decide +kernel)]; exact ⟨rfl, rfl⟩))
    (fun os started H enc _ => lifted os started H enc)

/-- the statement -/
theorem proved : Rows.NumBackSaid :=
  over
end Go.Proofs.Ytdnnjjclklcihaa.numBack
