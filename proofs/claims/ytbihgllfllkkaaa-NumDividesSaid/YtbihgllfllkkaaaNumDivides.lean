/- For all integers x and y, NumDivides(x, y) returns true, ends, and turns nothing that was there. For every input; no condition. -/
import Derived.Test.YtbihgllfllkkaaaRows
import Derived.WalkKit
import Derived.ProofKit
import Derived.OpenShut
import Derived.Test.YtbihgllfllkkaaaPart10
namespace Go.Proofs.Ytbihgllfllkkaaa.numDivides
open Go.ChangeShapes Go.WideShapes Go.ChangeAt Go.RowKit Go.Proofs.Ytbihgllfllkkaaa
set_option linter.unusedVariables false

theorem own : ownKnob Try.prog.godebug = none := by kernel_rfl

set_option maxHeartbeats 8000000 in
theorem walk (s1 s2 : Bool) (a1 a2 : Option Addr) (l1 l2 c1 c2 : Nat) (xs ys : List Nat) (W : World) (hs1 : Sl .u16 W a1 l1 xs) (hd1 : Dig B16 xs) (hl1 : l1 ≤ 9223372036854775807) (hs2 : Sl .u16 W a2 l2 ys) (hd2 : Dig B16 ys) (hl2 : l2 ≤ 9223372036854775807) :
    Calls Try.prog 3 #[.agg #[.bool s1, .slice a1 l1 c1], .agg #[.bool s2, .slice a2 l2 c2]] W fun e w' => e = .returned (.bool true) ∧ Below W.heap.size W w' := by
  have hf : Fr W ((W.alloc (.cells #[.bool s1, .slice a1 l1 c1] 24)).alloc (.cells #[.bool s2, .slice a2 l2 c2] 24)) [(24, #[.bool s1, .slice a1 l1 c1]), (24, #[.bool s2, .slice a2 l2 c2])] := ((Fr.nil W).alloc rfl _ _).alloc (by simp) _ _
  have FP0 := Lib.hid hf
  have HS1 := Lib.hid (hs1.keep hf.below)
  have HS2 := Lib.hid (hs2.keep hf.below)
  have HD1 := Lib.hid hd1
  have HD2 := Lib.hid hd2
  obtain ⟨x, hx⟩ : ∃ x, x = rawZ s1 xs 80 := ⟨_, rfl⟩
  obtain ⟨y, hy⟩ : ∃ y, y = rawZ s2 ys 80 := ⟨_, rfl⟩
  have HFX : Hid (Fits x) := by rw [hx]; exact rawZ_fits s1 xs hd1 80 (by decide)
  have HFY : Hid (Fits y) := by rw [hy]; exact rawZ_fits s2 ys hd2 80 (by decide)
  have HX := Lib.hid hx
  have HY := Lib.hid hy
  clear hf hs1 hs2 hd1 hd2 hx hy
  go_enter Try.func3, Try.ntmps3
  go_wp2_with fail
  rename_i Q0 K0 hK0
  refine two_of 15 16 17 18 5 6 2 3 7 (.int .i64 80) (.bool s1) (.slice a1 l1 c1) (.bool s2) (.slice a2 l2 c2) W.heap.size (W.heap.size + 1) x y _ Try.func7 (by kernel_rfl) rfl (by kernel_rfl) rfl rfl rfl rfl rfl rfl rfl rfl rfl rfl (by decide) (by decide) (by simp; omega) (by simp)
    (FP0.out.cell 0 0 rfl rfl) (FP0.out.cell 0 1 rfl rfl) (FP0.out.cell 1 0 rfl rfl) (FP0.out.cell 1 1 rfl rfl)
    (fun w hb hsz => by rw [HX.out]; exact lawOf_any s1 _ _ _ xs _ 80 w (HS1.out.keep hb) HD1.out rfl (by decide) hl1) (fun w hb hsz => by rw [HY.out]; exact lawOf_any s2 _ _ _ ys _ 80 w (HS2.out.keep hb) HD2.out rfl (by decide) hl2) ?_
  intro w1 b1 b2 n1 x1 m1 k1 n2 x2 m2 k2 hb1 hb11 hb12 hne hbx1 hbx2 h1k h1m h2k h2m hz1 hz2
  refine hK0 _ _ ?_
  have hm1 : m1 ≤ 1000000 := Nat.le_trans (fits_len16 hz1 HFX.out) (by decide)
  have hm2 : m2 ≤ 1000000 := Nat.le_trans (fits_len16 hz2 HFY.out) (by decide)
  have hm1' : m1 ≤ 1000000000 := by omega
  have hm2' : m2 ≤ 1000000000 := by omega
  have BA1 := Lib.hid hbx1
  have BB1 := Lib.hid hbx2
  have HA1 := Lib.hid hz1
  have HB1 := Lib.hid hz2
  have FP1 := Lib.hid (FP0.out.later hb1)
  clear hb1 hb11 hb12 hne hbx1 hbx2 hz1 hz2 FP0 HS1 HS2 hK0
  simp only [puts, Act.put]
  have qq0 : w1.cell? ⟨b1, 0, none⟩ = some (.bool n1) := BA1.out.cell 0
  have qq1 : w1.cell? ⟨b1, 1, none⟩ = some (.slice x1 m1 k1) := BA1.out.cell 1
  have qq2 : w1.cell? ⟨b2, 0, none⟩ = some (.bool n2) := BB1.out.cell 0
  have qq3 : w1.cell? ⟨b2, 1, none⟩ = some (.slice x2 m2 k2) := BB1.out.cell 1
  go_wp2_with fail
  refine (((two_any _ _ _ _ _ _ _ _ x y _ HA1.out HB1.out hm1 hm2).mono fun e w h => h.fits HFX.out HFY.out)).mono ?_
  rintro e w2 ⟨nc, oc, lc, cc, nd, od, ld, cd, rfl, hlc, hld, hzc, hzd, hb⟩
  clear qq0 qq1 qq2 qq3
  have FP2 := Lib.hid (FP1.out.later hb)
  have BA2 := Lib.hid (BA1.out.below hb BA1.out.lt)
  have BB2 := Lib.hid (BB1.out.below hb BB1.out.lt)
  have HA2 := Lib.hid (HA1.out.keep hb)
  have HB2 := Lib.hid (HB1.out.keep hb)
  have hfc : Fr w2 ((w2.alloc (.cells #[.bool nc, .slice oc lc cc] 31)).alloc (.cells #[.bool nd, .slice od ld cd] 31)) [(31, #[.bool nc, .slice oc lc cc]), (31, #[.bool nd, .slice od ld cd])] := ((Fr.nil w2).alloc rfl _ _).alloc (by simp) _ _
  have FP3 := Lib.hid (FP2.out.later hfc.below)
  have BA3 := Lib.hid (BA2.out.below hfc.below BA2.out.lt)
  have BB3 := Lib.hid (BB2.out.below hfc.below BB2.out.lt)
  have HA3 := Lib.hid (HA2.out.keep hfc.below)
  have HB3 := Lib.hid (HB2.out.keep hfc.below)
  have FC3 := Lib.hid hfc
  have HC3 := Lib.hid (hzc.keep hfc.below)
  have HD3 := Lib.hid (hzd.keep hfc.below)
  clear hb hzc hzd hfc
  have hlc1 : lc ≤ 100000000 := by omega
  have hld1 : ld ≤ 100000000 := by omega
  have hlc2 : lc ≤ 1000000000 := by omega
  have hld2 : ld ≤ 1000000000 := by omega
  by_cases hy0 : y = 0
  · have hld0 : ld = 0 := HD3.out.n32.zero.1 (by omega)
    subst hld0
    have qq0 : ((w2.alloc (.cells #[.bool nc, .slice oc lc cc] 31)).alloc (.cells #[.bool nd, .slice od 0 cd] 31)).cell? ⟨w2.heap.size, 0, none⟩ = some (.bool nc) := FC3.out.cell 0 0 rfl rfl
    have qq1 : ((w2.alloc (.cells #[.bool nc, .slice oc lc cc] 31)).alloc (.cells #[.bool nd, .slice od 0 cd] 31)).cell? ⟨w2.heap.size, 1, none⟩ = some (.slice oc lc cc) := FC3.out.cell 0 1 rfl rfl
    have qq2 : ((w2.alloc (.cells #[.bool nc, .slice oc lc cc] 31)).alloc (.cells #[.bool nd, .slice od 0 cd] 31)).cell? ⟨w2.heap.size + 1, 0, none⟩ = some (.bool nd) := FC3.out.cell 1 0 rfl rfl
    have qq3 : ((w2.alloc (.cells #[.bool nc, .slice oc lc cc] 31)).alloc (.cells #[.bool nd, .slice od 0 cd] 31)).cell? ⟨w2.heap.size + 1, 1, none⟩ = some (.slice od 0 cd) := FC3.out.cell 1 1 rfl rfl
    go_wp2_with fail
    refine (div_zero _ _ _ _ _ _ _ _).mono ?_
    rintro e w4 ⟨rfl, hb⟩
    clear qq0 qq1 qq2 qq3
    have FP4a := Lib.hid (FP3.out.later hb)
    have FC4a := Lib.hid (FC3.out.later hb)
    have BA4a := Lib.hid (BA3.out.below hb BA3.out.lt)
    have BB4a := Lib.hid (BB3.out.below hb BB3.out.lt)
    have HA4a := Lib.hid (HA3.out.keep hb)
    have HB4a := Lib.hid (HB3.out.keep hb)
    have HC4a := Lib.hid (HC3.out.keep hb)
    have HD4a := Lib.hid (HD3.out.keep hb)
    have hf4 : Fr w4 ((w4.alloc (.cells #[.bool false, .slice none 0 0] 31)).alloc (.cells #[.bool false, .slice none 0 0] 31)) [(31, #[.bool false, .slice none 0 0]), (31, #[.bool false, .slice none 0 0])] := ((Fr.nil w4).alloc rfl _ _).alloc (by simp) _ _
    have FP4b := Lib.hid (FP4a.out.later hf4.below)
    have FC4b := Lib.hid (FC4a.out.later hf4.below)
    have BA4b := Lib.hid (BA4a.out.below hf4.below BA4a.out.lt)
    have BB4b := Lib.hid (BB4a.out.below hf4.below BB4a.out.lt)
    have HA4b := Lib.hid (HA4a.out.keep hf4.below)
    have HB4b := Lib.hid (HB4a.out.keep hf4.below)
    have HC4b := Lib.hid (HC4a.out.keep hf4.below)
    have HD4b := Lib.hid (HD4a.out.keep hf4.below)
    have FQ4 := Lib.hid hf4
    clear hb hf4
    have qq0 : ((w4.alloc (.cells #[.bool false, .slice none 0 0] 31)).alloc (.cells #[.bool false, .slice none 0 0] 31)).cell? ⟨b2, 0, none⟩ = some (.bool n2) := BB4b.out.cell 0
    have qq1 : ((w4.alloc (.cells #[.bool false, .slice none 0 0] 31)).alloc (.cells #[.bool false, .slice none 0 0] 31)).cell? ⟨b2, 1, none⟩ = some (.slice x2 m2 k2) := BB4b.out.cell 1
    go_wp2_with fail
    refine ((sign16_any _ _ _ _ y _ HB4b.out).mono fun e w h => (⟨h.1.trans (congrArg (fun t => Ending.returned (.int .i64 t)) (by rw [hy0]; rfl)), h.2⟩ : e = .returned (.int .i64 0) ∧ _)).mono ?_
    rintro e w5 ⟨rfl, hb⟩
    clear qq0 qq1
    have FP5a := Lib.hid (FP4b.out.later hb)
    have FC5a := Lib.hid (FC4b.out.later hb)
    have FQ5a := Lib.hid (FQ4.out.later hb)
    have BA5a := Lib.hid (BA4b.out.below hb BA4b.out.lt)
    have BB5a := Lib.hid (BB4b.out.below hb BB4b.out.lt)
    have HA5a := Lib.hid (HA4b.out.keep hb)
    have HB5a := Lib.hid (HB4b.out.keep hb)
    have HC5a := Lib.hid (HC4b.out.keep hb)
    have HD5a := Lib.hid (HD4b.out.keep hb)
    clear hb
    have qq0 : w5.cell? ⟨w4.heap.size, 0, none⟩ = some (.bool false) := FQ5a.out.cell 0 0 rfl rfl
    have qq1 : w5.cell? ⟨w4.heap.size, 1, none⟩ = some (.slice none 0 0) := FQ5a.out.cell 0 1 rfl rfl
    have qq2 : w5.cell? ⟨w4.heap.size + 1, 0, none⟩ = some (.bool false) := FQ5a.out.cell 1 0 rfl rfl
    have qq3 : w5.cell? ⟨w4.heap.size + 1, 1, none⟩ = some (.slice none 0 0) := FQ5a.out.cell 1 1 rfl rfl
    go_wp2_with fail
    refine (string_zero _).mono ?_
    rintro e w6 ⟨rfl, hb⟩
    clear qq0 qq1 qq2 qq3
    have FP6a := Lib.hid (FP5a.out.later hb)
    have FC6a := Lib.hid (FC5a.out.later hb)
    have FQ6a := Lib.hid (FQ5a.out.later hb)
    have BA6a := Lib.hid (BA5a.out.below hb BA5a.out.lt)
    have BB6a := Lib.hid (BB5a.out.below hb BB5a.out.lt)
    have HA6a := Lib.hid (HA5a.out.keep hb)
    have HB6a := Lib.hid (HB5a.out.keep hb)
    have HC6a := Lib.hid (HC5a.out.keep hb)
    have HD6a := Lib.hid (HD5a.out.keep hb)
    clear hb
    have qq0 : w6.cell? ⟨w4.heap.size, 0, none⟩ = some (.bool false) := FQ6a.out.cell 0 0 rfl rfl
    have qq1 : w6.cell? ⟨w4.heap.size, 1, none⟩ = some (.slice none 0 0) := FQ6a.out.cell 0 1 rfl rfl
    have qq2 : w6.cell? ⟨w4.heap.size + 1, 0, none⟩ = some (.bool false) := FQ6a.out.cell 1 0 rfl rfl
    have qq3 : w6.cell? ⟨w4.heap.size + 1, 1, none⟩ = some (.slice none 0 0) := FQ6a.out.cell 1 1 rfl rfl
    go_wp2_with fail
    refine (string_zero _).mono ?_
    rintro e w7 ⟨rfl, hb⟩
    clear qq0 qq1 qq2 qq3
    have FP7a := Lib.hid (FP6a.out.later hb)
    have FC7a := Lib.hid (FC6a.out.later hb)
    have FQ7a := Lib.hid (FQ6a.out.later hb)
    have BA7a := Lib.hid (BA6a.out.below hb BA6a.out.lt)
    have BB7a := Lib.hid (BB6a.out.below hb BB6a.out.lt)
    have HA7a := Lib.hid (HA6a.out.keep hb)
    have HB7a := Lib.hid (HB6a.out.keep hb)
    have HC7a := Lib.hid (HC6a.out.keep hb)
    have HD7a := Lib.hid (HD6a.out.keep hb)
    clear hb
    go_wp2_with fail
    refine (awake_any _).mono ?_
    rintro e w8 ⟨rfl, hb⟩
    have FP8a := Lib.hid (FP7a.out.later hb)
    have FC8a := Lib.hid (FC7a.out.later hb)
    have FQ8a := Lib.hid (FQ7a.out.later hb)
    have BA8a := Lib.hid (BA7a.out.below hb BA7a.out.lt)
    have BB8a := Lib.hid (BB7a.out.below hb BB7a.out.lt)
    have HA8a := Lib.hid (HA7a.out.keep hb)
    have HB8a := Lib.hid (HB7a.out.keep hb)
    have HC8a := Lib.hid (HC7a.out.keep hb)
    have HD8a := Lib.hid (HD7a.out.keep hb)
    clear hb
    go_wp2
    go_ret
    exact ⟨rfl, FP8a.out.below⟩
  · have HY0 := Lib.hid hy0
    clear hy0
    have qq0 : ((w2.alloc (.cells #[.bool nc, .slice oc lc cc] 31)).alloc (.cells #[.bool nd, .slice od ld cd] 31)).cell? ⟨w2.heap.size, 0, none⟩ = some (.bool nc) := FC3.out.cell 0 0 rfl rfl
    have qq1 : ((w2.alloc (.cells #[.bool nc, .slice oc lc cc] 31)).alloc (.cells #[.bool nd, .slice od ld cd] 31)).cell? ⟨w2.heap.size, 1, none⟩ = some (.slice oc lc cc) := FC3.out.cell 0 1 rfl rfl
    have qq2 : ((w2.alloc (.cells #[.bool nc, .slice oc lc cc] 31)).alloc (.cells #[.bool nd, .slice od ld cd] 31)).cell? ⟨w2.heap.size + 1, 0, none⟩ = some (.bool nd) := FC3.out.cell 1 0 rfl rfl
    have qq3 : ((w2.alloc (.cells #[.bool nc, .slice oc lc cc] 31)).alloc (.cells #[.bool nd, .slice od ld cd] 31)).cell? ⟨w2.heap.size + 1, 1, none⟩ = some (.slice od ld cd) := FC3.out.cell 1 1 rfl rfl
    go_wp2_with fail
    refine (div_any _ _ _ _ _ _ _ _ x y _ HC3.out HD3.out hlc1 hld1 HY0.out (divide_ok _ _ (by have := HY0.out; omega))).mono ?_
    rintro e w4 ⟨nq, oq, lq, cq, nr, or, lr, cr, rfl, hzq, hzr, hb⟩
    clear qq0 qq1 qq2 qq3
    have FP4a := Lib.hid (FP3.out.later hb)
    have FC4a := Lib.hid (FC3.out.later hb)
    have BA4a := Lib.hid (BA3.out.below hb BA3.out.lt)
    have BB4a := Lib.hid (BB3.out.below hb BB3.out.lt)
    have HA4a := Lib.hid (HA3.out.keep hb)
    have HB4a := Lib.hid (HB3.out.keep hb)
    have HC4a := Lib.hid (HC3.out.keep hb)
    have HD4a := Lib.hid (HD3.out.keep hb)
    have hf4 : Fr w4 ((w4.alloc (.cells #[.bool nq, .slice oq lq cq] 31)).alloc (.cells #[.bool nr, .slice or lr cr] 31)) [(31, #[.bool nq, .slice oq lq cq]), (31, #[.bool nr, .slice or lr cr])] := ((Fr.nil w4).alloc rfl _ _).alloc (by simp) _ _
    have FP4b := Lib.hid (FP4a.out.later hf4.below)
    have FC4b := Lib.hid (FC4a.out.later hf4.below)
    have BA4b := Lib.hid (BA4a.out.below hf4.below BA4a.out.lt)
    have BB4b := Lib.hid (BB4a.out.below hf4.below BB4a.out.lt)
    have HA4b := Lib.hid (HA4a.out.keep hf4.below)
    have HB4b := Lib.hid (HB4a.out.keep hf4.below)
    have HC4b := Lib.hid (HC4a.out.keep hf4.below)
    have HD4b := Lib.hid (HD4a.out.keep hf4.below)
    have FQ4 := Lib.hid hf4
    have HQ4 := Lib.hid (hzq.keep hf4.below)
    have HR4 := Lib.hid (hzr.keep hf4.below)
    have TQ : Hid (ToldOk (x / y) 0 (x / y)) := .inl ⟨fits_div HFX.out, rfl, rfl⟩
    have TR : Hid (ToldOk (x % y) 0 (x % y)) := .inl ⟨fits_mod HFY.out HY0.out, rfl, rfl⟩
    have hlq : lq ≤ 1000000000 := Nat.le_trans (fits_len hzq (fits_div HFX.out)) (by decide)
    have hlr : lr ≤ 1000000000 := Nat.le_trans (fits_len hzr (fits_mod HFY.out HY0.out)) (by decide)
    clear hb hf4 hzq hzr
    obtain ⟨t, ht⟩ : ∃ t, t = y.sign := ⟨_, rfl⟩
    have ht0 : (t == 0) = false := by
      have : y.sign ≠ 0 := fun h => HY0.out (Int.sign_eq_zero_iff_zero.1 h)
      rw [ht]; simp [this]
    have HT := Lib.hid ht
    clear ht
    have qq0 : ((w4.alloc (.cells #[.bool nq, .slice oq lq cq] 31)).alloc (.cells #[.bool nr, .slice or lr cr] 31)).cell? ⟨b2, 0, none⟩ = some (.bool n2) := BB4b.out.cell 0
    have qq1 : ((w4.alloc (.cells #[.bool nq, .slice oq lq cq] 31)).alloc (.cells #[.bool nr, .slice or lr cr] 31)).cell? ⟨b2, 1, none⟩ = some (.slice x2 m2 k2) := BB4b.out.cell 1
    go_wp2_with fail
    refine ((sign16_any _ _ _ _ y _ HB4b.out).mono fun e w h => (⟨h.1.trans (congrArg (fun t => Ending.returned (.int .i64 t)) HT.out.symm), h.2⟩ : e = .returned (.int .i64 t) ∧ _)).mono ?_
    rintro e w5 ⟨rfl, hb⟩
    clear qq0 qq1
    have FP5a := Lib.hid (FP4b.out.later hb)
    have FC5a := Lib.hid (FC4b.out.later hb)
    have FQ5a := Lib.hid (FQ4.out.later hb)
    have BA5a := Lib.hid (BA4b.out.below hb BA4b.out.lt)
    have BB5a := Lib.hid (BB4b.out.below hb BB4b.out.lt)
    have HA5a := Lib.hid (HA4b.out.keep hb)
    have HB5a := Lib.hid (HB4b.out.keep hb)
    have HC5a := Lib.hid (HC4b.out.keep hb)
    have HD5a := Lib.hid (HD4b.out.keep hb)
    have HQ5a := Lib.hid (HQ4.out.keep hb)
    have HR5a := Lib.hid (HR4.out.keep hb)
    clear hb
    have qq0 : w5.cell? ⟨b1, 0, none⟩ = some (.bool n1) := BA5a.out.cell 0
    have qq1 : w5.cell? ⟨b1, 1, none⟩ = some (.slice x1 m1 k1) := BA5a.out.cell 1
    have qq2 : w5.cell? ⟨b2, 0, none⟩ = some (.bool n2) := BB5a.out.cell 0
    have qq3 : w5.cell? ⟨b2, 1, none⟩ = some (.slice x2 m2 k2) := BB5a.out.cell 1
    go_wp2_with fail
    refine (divZ16_any _ _ _ _ _ _ _ _ x y _ HA5a.out HB5a.out (by omega) (by omega) HY0.out).mono ?_
    rintro e w6 ⟨ns, os, ls, cs, nt, ot, lt, ct, rfl, hs1, hs2, ht1, ht2, hzs, hzt, hb⟩
    clear qq0 qq1 qq2 qq3
    have FP6a := Lib.hid (FP5a.out.later hb)
    have FC6a := Lib.hid (FC5a.out.later hb)
    have FQ6a := Lib.hid (FQ5a.out.later hb)
    have BA6a := Lib.hid (BA5a.out.below hb BA5a.out.lt)
    have BB6a := Lib.hid (BB5a.out.below hb BB5a.out.lt)
    have HA6a := Lib.hid (HA5a.out.keep hb)
    have HB6a := Lib.hid (HB5a.out.keep hb)
    have HC6a := Lib.hid (HC5a.out.keep hb)
    have HD6a := Lib.hid (HD5a.out.keep hb)
    have HQ6a := Lib.hid (HQ5a.out.keep hb)
    have HR6a := Lib.hid (HR5a.out.keep hb)
    have hf6 : Fr w6 ((w6.alloc (.cells #[.bool ns, .slice os ls cs] 27)).alloc (.cells #[.bool nt, .slice ot lt ct] 27)) [(27, #[.bool ns, .slice os ls cs]), (27, #[.bool nt, .slice ot lt ct])] := ((Fr.nil w6).alloc rfl _ _).alloc (by simp) _ _
    have FP6b := Lib.hid (FP6a.out.later hf6.below)
    have FC6b := Lib.hid (FC6a.out.later hf6.below)
    have FQ6b := Lib.hid (FQ6a.out.later hf6.below)
    have BA6b := Lib.hid (BA6a.out.below hf6.below BA6a.out.lt)
    have BB6b := Lib.hid (BB6a.out.below hf6.below BB6a.out.lt)
    have HA6b := Lib.hid (HA6a.out.keep hf6.below)
    have HB6b := Lib.hid (HB6a.out.keep hf6.below)
    have HC6b := Lib.hid (HC6a.out.keep hf6.below)
    have HD6b := Lib.hid (HD6a.out.keep hf6.below)
    have HQ6b := Lib.hid (HQ6a.out.keep hf6.below)
    have HR6b := Lib.hid (HR6a.out.keep hf6.below)
    have FS6 := Lib.hid hf6
    have HS6 := Lib.hid (hzs.keep hf6.below)
    have HT6 := Lib.hid (hzt.keep hf6.below)
    have hls : ls ≤ 1000000000 := Nat.le_trans (fits_len16 hzs (fits_div HFX.out)) (by decide)
    have hlt : lt ≤ 1000000000 := Nat.le_trans (fits_len16 hzt (fits_mod HFY.out HY0.out)) (by decide)
    clear hb hf6 hzs hzt
    have qq0 : ((w6.alloc (.cells #[.bool ns, .slice os ls cs] 27)).alloc (.cells #[.bool nt, .slice ot lt ct] 27)).cell? ⟨w4.heap.size, 0, none⟩ = some (.bool nq) := FQ6b.out.cell 0 0 rfl rfl
    have qq1 : ((w6.alloc (.cells #[.bool ns, .slice os ls cs] 27)).alloc (.cells #[.bool nt, .slice ot lt ct] 27)).cell? ⟨w4.heap.size, 1, none⟩ = some (.slice oq lq cq) := FQ6b.out.cell 0 1 rfl rfl
    have qq2 : ((w6.alloc (.cells #[.bool ns, .slice os ls cs] 27)).alloc (.cells #[.bool nt, .slice ot lt ct] 27)).cell? ⟨w4.heap.size + 1, 0, none⟩ = some (.bool nr) := FQ6b.out.cell 1 0 rfl rfl
    have qq3 : ((w6.alloc (.cells #[.bool ns, .slice os ls cs] 27)).alloc (.cells #[.bool nt, .slice ot lt ct] 27)).cell? ⟨w4.heap.size + 1, 1, none⟩ = some (.slice or lr cr) := FQ6b.out.cell 1 1 rfl rfl
    have qq4 : ((w6.alloc (.cells #[.bool ns, .slice os ls cs] 27)).alloc (.cells #[.bool nt, .slice ot lt ct] 27)).cell? ⟨w6.heap.size, 0, none⟩ = some (.bool ns) := FS6.out.cell 0 0 rfl rfl
    have qq5 : ((w6.alloc (.cells #[.bool ns, .slice os ls cs] 27)).alloc (.cells #[.bool nt, .slice ot lt ct] 27)).cell? ⟨w6.heap.size, 1, none⟩ = some (.slice os ls cs) := FS6.out.cell 0 1 rfl rfl
    have qq6 : ((w6.alloc (.cells #[.bool ns, .slice os ls cs] 27)).alloc (.cells #[.bool nt, .slice ot lt ct] 27)).cell? ⟨w6.heap.size + 1, 0, none⟩ = some (.bool nt) := FS6.out.cell 1 0 rfl rfl
    have qq7 : ((w6.alloc (.cells #[.bool ns, .slice os ls cs] 27)).alloc (.cells #[.bool nt, .slice ot lt ct] 27)).cell? ⟨w6.heap.size + 1, 1, none⟩ = some (.slice ot lt ct) := FS6.out.cell 1 1 rfl rfl
    go_wp2_with fail
    refine (told_any _ _ _ _ _ _ _ _ (x / y) 0 (x / y) _ HQ6b.out HS6.out hlq hls TQ.out).mono ?_
    rintro e w7 ⟨rfl, hb⟩
    clear qq0 qq1 qq2 qq3 qq4 qq5 qq6 qq7
    have FP7a := Lib.hid (FP6b.out.later hb)
    have FC7a := Lib.hid (FC6b.out.later hb)
    have FQ7a := Lib.hid (FQ6b.out.later hb)
    have FS7a := Lib.hid (FS6.out.later hb)
    have BA7a := Lib.hid (BA6b.out.below hb BA6b.out.lt)
    have BB7a := Lib.hid (BB6b.out.below hb BB6b.out.lt)
    have HA7a := Lib.hid (HA6b.out.keep hb)
    have HB7a := Lib.hid (HB6b.out.keep hb)
    have HC7a := Lib.hid (HC6b.out.keep hb)
    have HD7a := Lib.hid (HD6b.out.keep hb)
    have HQ7a := Lib.hid (HQ6b.out.keep hb)
    have HR7a := Lib.hid (HR6b.out.keep hb)
    have HS7a := Lib.hid (HS6.out.keep hb)
    have HT7a := Lib.hid (HT6.out.keep hb)
    clear hb
    have qq0 : w7.cell? ⟨w4.heap.size, 0, none⟩ = some (.bool nq) := FQ7a.out.cell 0 0 rfl rfl
    have qq1 : w7.cell? ⟨w4.heap.size, 1, none⟩ = some (.slice oq lq cq) := FQ7a.out.cell 0 1 rfl rfl
    have qq2 : w7.cell? ⟨w4.heap.size + 1, 0, none⟩ = some (.bool nr) := FQ7a.out.cell 1 0 rfl rfl
    have qq3 : w7.cell? ⟨w4.heap.size + 1, 1, none⟩ = some (.slice or lr cr) := FQ7a.out.cell 1 1 rfl rfl
    have qq4 : w7.cell? ⟨w6.heap.size, 0, none⟩ = some (.bool ns) := FS7a.out.cell 0 0 rfl rfl
    have qq5 : w7.cell? ⟨w6.heap.size, 1, none⟩ = some (.slice os ls cs) := FS7a.out.cell 0 1 rfl rfl
    have qq6 : w7.cell? ⟨w6.heap.size + 1, 0, none⟩ = some (.bool nt) := FS7a.out.cell 1 0 rfl rfl
    have qq7 : w7.cell? ⟨w6.heap.size + 1, 1, none⟩ = some (.slice ot lt ct) := FS7a.out.cell 1 1 rfl rfl
    go_wp2_with fail
    refine (told_any _ _ _ _ _ _ _ _ (x % y) 0 (x % y) _ HR7a.out HT7a.out hlr hlt TR.out).mono ?_
    rintro e w8 ⟨rfl, hb⟩
    clear qq0 qq1 qq2 qq3 qq4 qq5 qq6 qq7
    have FP8a := Lib.hid (FP7a.out.later hb)
    have FC8a := Lib.hid (FC7a.out.later hb)
    have FQ8a := Lib.hid (FQ7a.out.later hb)
    have FS8a := Lib.hid (FS7a.out.later hb)
    have BA8a := Lib.hid (BA7a.out.below hb BA7a.out.lt)
    have BB8a := Lib.hid (BB7a.out.below hb BB7a.out.lt)
    have HA8a := Lib.hid (HA7a.out.keep hb)
    have HB8a := Lib.hid (HB7a.out.keep hb)
    have HC8a := Lib.hid (HC7a.out.keep hb)
    have HD8a := Lib.hid (HD7a.out.keep hb)
    have HQ8a := Lib.hid (HQ7a.out.keep hb)
    have HR8a := Lib.hid (HR7a.out.keep hb)
    have HS8a := Lib.hid (HS7a.out.keep hb)
    have HT8a := Lib.hid (HT7a.out.keep hb)
    clear hb
    go_wp2_with fail
    refine (awake_any _).mono ?_
    rintro e w9 ⟨rfl, hb⟩
    have FP9a := Lib.hid (FP8a.out.later hb)
    have FC9a := Lib.hid (FC8a.out.later hb)
    have FQ9a := Lib.hid (FQ8a.out.later hb)
    have FS9a := Lib.hid (FS8a.out.later hb)
    have BA9a := Lib.hid (BA8a.out.below hb BA8a.out.lt)
    have BB9a := Lib.hid (BB8a.out.below hb BB8a.out.lt)
    have HA9a := Lib.hid (HA8a.out.keep hb)
    have HB9a := Lib.hid (HB8a.out.keep hb)
    have HC9a := Lib.hid (HC8a.out.keep hb)
    have HD9a := Lib.hid (HD8a.out.keep hb)
    have HQ9a := Lib.hid (HQ8a.out.keep hb)
    have HR9a := Lib.hid (HR8a.out.keep hb)
    have HS9a := Lib.hid (HS8a.out.keep hb)
    have HT9a := Lib.hid (HT8a.out.keep hb)
    clear hb
    go_wp2
    go_ret
    exact ⟨rfl, FP9a.out.below⟩

set_option maxRecDepth 100000 in
theorem lifted (os : Os) (started : os.Started) (H : Type) (enc : TypeId × Value → H) :
    ReturnsInHanded {} Try.checked os 3 .any (Rows.numDividesSpec.pre6 enc Try.prog Try.f3 Rows.numDividesRow.domain false) (Rows.numDividesSpec.post enc Try.prog Try.f3 false true false false) := by
  refine returnsInHanded_of_change (C := Try.checked) own started (by kernel_rfl) Try.func3
    (ChangeSpec.witness6 (enc := enc) (C := Try.checked) false ⟨#[], #[.agg #[.bool false, .slice none 0 0], .agg #[.bool false, .slice none 0 0]], []⟩ 8 (by kernel_rfl) (by kernel_rfl) (by kernel_rfl) (by kernel_rfl)) ?_
  intro W base args ds gs before hval0 hW hcnd _
  have hval : ∀ (j : Nat) t v, Try.f3.params[j]? = some t → args[j]? = some v → Value.okWide Try.prog W .any base t v := hval0
  have hW' := hW
  obtain ⟨p, q, hA0, hV, rfl, hfz, hnd⟩ := hW
  have hA : DataW.TrodAll enc Try.prog W 0 (fun _ => true) true Try.f3.params.toList args.toList ds p := hA0
  have hAk := hA
  rw [Try.params3] at hA hval
  obtain ⟨v0, vs0, d0, ds0, p0, q0, hargs, rfl, rfl, h0, r0⟩ := trodAll_cons hA
  obtain ⟨v1, vs1, d1, ds1, p1, q1, rfl, rfl, rfl, h1, r1⟩ := trodAll_cons r0
  obtain ⟨rfl, rfl, rfl⟩ := trodAll_nil r1
  obtain rfl : args = #[v0, v1] := by cases args; simp_all
  obtain ⟨rfl, rfl⟩ := trodVars_none hV
  obtain ⟨s, ao, la, ca, xs, rfl, hs, hd, hla⟩ := open_raw (hval 0 24 v0 rfl rfl) h0
  obtain ⟨s2, ao2, la2, ca2, ys, rfl, hs2, hd2, hla2⟩ := open_raw (hval 1 24 v1 rfl rfl) h1
  clear hA0 hval0
  rw [List.append_nil] at hW'
  refine (walk s s2 ao ao2 la la2 ca ca2 xs ys W hs hd hla hs2 hd2 hla2).mono fun e W' ⟨he, hg⟩ => ?_
  subst he
  exact ⟨_, rfl, post_law (by kernel_rfl) (by rw [Try.params3]; intro t ht; simp at ht; subst ht; exact ⟨by kernel_rfl, of_decide_eq_true (by kernel_rfl)⟩) hW' rfl rfl Try.underlying4 hAk rfl rfl rfl hg⟩

theorem over : Rows.numDividesRow.holds Try.pinned (OpenSpec.ofChange Rows.numDividesSpec) :=
  OpenClaim.holds_of_wide 3 Try.f3 rfl rfl rfl rfl rfl rfl rfl ⟨rfl, rfl, rfl, rfl, rfl⟩ rfl rfl rfl rfl rfl (by kernel_rfl) Try.func3 (by kernel_rfl)
    (of_decide_eq_true (by kernel_rfl)) (by unfold Func.isWrapper; first | (rw [if_pos (by decide +kernel)]; kernel_rfl) | (rw [if_neg (by decide +kernel)]; exact ⟨rfl, rfl⟩))
    (fun os started H enc _ => lifted os started H enc)

/-- the statement -/
theorem proved : Rows.NumDividesSaid :=
  over
end Go.Proofs.Ytbihgllfllkkaaa.numDivides
