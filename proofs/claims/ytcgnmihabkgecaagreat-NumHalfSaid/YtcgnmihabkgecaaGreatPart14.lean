/- Part 14 of the contracts: Half, RatC, RatD, RatE, RatF. -/
import Derived.Deep.Cut
import Derived.Test.YtcgnmihabkgecaaGreatPart13

/- The laws' helper half. -/
set_option linter.unusedVariables false
set_option linter.unusedSimpArgs false
namespace Go.Proofs.YtcgnmihabkgecaaGreat
open Go.RowKit Go.Proofs

theorem fits_lowP {x y : Int} (h : Fits x) : Fits (lowP x y) := by
  unfold Fits at *
  rw [blen_le] at *
  unfold lowP; rw [sgn_natAbs]
  exact Nat.lt_of_le_of_lt (Nat.div_le_self _ _) h
theorem fits_lowQ {x y : Int} (h : Fits y) : blen (lowQ x y) ≤ 16384 := by
  unfold Fits at h
  rw [blen_le] at *
  unfold lowQ
  exact Nat.lt_of_le_of_lt (Nat.div_le_self _ _) h

/-- what half returns: the program's fraction and the specification's -/
def HalfOut (X Y : Int) (W : World) (e : Ending) (w' : World) : Prop :=
  ∃ na ao la ca bo lb cb s1 o1 l1 c1 s2 o2 l2 c2 P Q, e = .returned (.tuple #[.agg #[.bool na, .slice ao la ca, .slice bo lb cb], .agg #[.bool s1, .slice o1 l1 c1, .bool s2, .slice o2 l2 c2], .bool (decide (Y ≠ 0))]) ∧ la ≤ 512 ∧ lb ≤ 512 ∧ Q32 w' na ao la bo lb P Q ∧
    (Y ≠ 0 → P = lowP X Y ∧ Q = lowQ X Y ∧ l1 ≤ 1024 ∧ l2 ≤ 1024 ∧ Z16 w' s1 o1 l1 P ∧ Z16 w' s2 o2 l2 (Q : Int)) ∧ Below W.heap.size W w'

set_option maxRecDepth 4000 in
set_option maxHeartbeats 2000000 in
theorem half_any (sx sy : Bool) (ax ay : Option Addr) (lx ly kx ky M : Nat) (xs ys : List Nat) (X Y : Int) (W : World) (hs1 : Sl .u16 W ax lx xs) (hdx : Dig B16 xs) (hs2 : Sl .u16 W ay ly ys) (hdy : Dig B16 ys) (hX : X = rawZ sx xs M) (hY : Y = rawZ sy ys M) (hM : M ≤ 1024) (hlx : lx ≤ 9223372036854775807) (hly : ly ≤ 9223372036854775807) :
    Calls Tryz.prog 14 #[.agg #[.bool sx, .slice ax lx kx], .agg #[.bool sy, .slice ay ly ky], .int .i64 (M : Int)] W (HalfOut X Y W) := by
  have hf : Fr W ((((W.alloc (.cells #[.bool sx, .slice ax lx kx] 43)).alloc (.cells #[.bool sy, .slice ay ly ky] 43)).alloc (.cells #[.bool false, .slice none 0 0, .slice none 0 0] 27)).alloc (.cells #[.bool false, .slice none 0 0, .bool false, .slice none 0 0] 35)) [(43, #[.bool sx, .slice ax lx kx]), (43, #[.bool sy, .slice ay ly ky]), (27, #[.bool false, .slice none 0 0, .slice none 0 0]), (35, #[.bool false, .slice none 0 0, .bool false, .slice none 0 0])] := ((((Fr.nil W).alloc rfl _ _).alloc (by simp) _ _).alloc (by simp) _ _).alloc (by simp) _ _
  have HFX : Hid (Fits X) := by rw [hX]; exact rawZ_fits sx xs hdx M hM
  have HFY : Hid (Fits Y) := by rw [hY]; exact rawZ_fits sy ys hdy M hM
  have HF := Lib.hid hf
  have HX_0 := Lib.hid (hs1.keep hf.below)
  have HY_0 := Lib.hid (hs2.keep hf.below)
  clear hf hs1 hs2
  go_enter Tryz.func14, Tryz.ntmps14
  go_wp2_with fail
  obtain ⟨V, hV⟩ : ∃ V, V = ((((W.alloc (.cells #[.bool sx, .slice ax lx kx] 43)).alloc (.cells #[.bool sy, .slice ay ly ky] 43)).alloc (.cells #[.bool false, .slice none 0 0, .slice none 0 0] 27)).alloc (.cells #[.bool false, .slice none 0 0, .bool false, .slice none 0 0] 35)) := ⟨_, rfl⟩
  rw [← hV] at HF HX_0 HY_0 ⊢
  clear hV
  have hv : W.heap.size + 4 ≤ V.heap.size := by have := HF.out.size; simpa using this
  rename_i hK0
  refine half_region sx sy ax ay lx ly kx ky M xs ys W.heap.size (W.heap.size + 1) _ _ (by kernel_rfl) rfl rfl rfl rfl rfl rfl rfl rfl rfl rfl rfl (by omega) (HF.out.cell 0 0 rfl rfl) (HF.out.cell 0 1 rfl rfl) rfl (by omega) (HF.out.cell 1 0 rfl rfl) (HF.out.cell 1 1 rfl rfl) rfl HX_0.out hdx HY_0.out hdy (by omega) hlx hly ?_
  intro w1 b6 b7 n2 o2 l2 c2 n5 o5 l5 c5 hb hb6 hbx hb7 hby hne hc2 hm2 hzx hc5 hm5 hzy
  rw [← hX] at hzx
  rw [← hY] at hzy
  refine hK0 _ _ ?_
  have FP1 := Lib.hid (HF.out.later hb)
  have hl2 : l2 ≤ 1000 + 24 := fits_len16 hzx HFX.out
  have hl5 : l5 ≤ 1000 + 24 := fits_len16 hzy HFY.out
  have BA1 := Lib.hid hbx
  have BB1 := Lib.hid hby
  have HA1 := Lib.hid hzx
  have HB1 := Lib.hid hzy
  clear hb hbx hby hzx hzy hK0 HX_0 HY_0 hX hY hne
  simp only [puts, Act.put]
  by_cases hy0 : Y = 0
  · have HY0 := Lib.hid hy0
    have qq0 : w1.cell? ⟨b7, 0, none⟩ = some (.bool n5) := BB1.out.cell 0
    have qq1 : w1.cell? ⟨b7, 1, none⟩ = some (.slice o5 l5 c5) := BB1.out.cell 1
    go_wp2_with fail
    refine ((sign16_any _ _ _ _ Y _ HB1.out).mono fun e w h => (⟨h.1.trans (congrArg (fun t => Ending.returned (.int .i64 t)) (by rw [HY0.out]; rfl)), h.2⟩ : e = .returned (.int .i64 0) ∧ _)).mono ?_
    rintro e w2 ⟨rfl, hb⟩
    clear qq0 qq1
    have FP2a := Lib.hid (FP1.out.later hb)
    have BA2a := Lib.hid (BA1.out.below hb BA1.out.lt)
    have BB2a := Lib.hid (BB1.out.below hb BB1.out.lt)
    have HA2a := Lib.hid (HA1.out.keep hb)
    have HB2a := Lib.hid (HB1.out.keep hb)
    clear hb hy0
    have g0 : w2.cell? ⟨W.heap.size + 2, 0, none⟩ = some (.bool false) := FP2a.out.cell 2 0 rfl rfl
    have g1 : w2.cell? ⟨W.heap.size + 2, 1, none⟩ = some (.slice none 0 0) := FP2a.out.cell 2 1 rfl rfl
    have g2 : w2.cell? ⟨W.heap.size + 2, 2, none⟩ = some (.slice none 0 0) := FP2a.out.cell 2 2 rfl rfl
    have gf0 : w2.frozen? ⟨W.heap.size + 2, 0, none⟩ = false := FP2a.out.frozen 2 0 rfl
    have gf1 : w2.frozen? ⟨W.heap.size + 2, 1, none⟩ = false := FP2a.out.frozen 2 1 rfl
    have gf2 : w2.frozen? ⟨W.heap.size + 2, 2, none⟩ = false := FP2a.out.frozen 2 2 rfl
    have h0 : w2.cell? ⟨W.heap.size + 3, 0, none⟩ = some (.bool false) := FP2a.out.cell 3 0 rfl rfl
    have h1 : w2.cell? ⟨W.heap.size + 3, 1, none⟩ = some (.slice none 0 0) := FP2a.out.cell 3 1 rfl rfl
    have h2 : w2.cell? ⟨W.heap.size + 3, 2, none⟩ = some (.bool false) := FP2a.out.cell 3 2 rfl rfl
    have h3 : w2.cell? ⟨W.heap.size + 3, 3, none⟩ = some (.slice none 0 0) := FP2a.out.cell 3 3 rfl rfl
    have hf0 : w2.frozen? ⟨W.heap.size + 3, 0, none⟩ = false := FP2a.out.frozen 3 0 rfl
    have hf1 : w2.frozen? ⟨W.heap.size + 3, 1, none⟩ = false := FP2a.out.frozen 3 1 rfl
    have hf2 : w2.frozen? ⟨W.heap.size + 3, 2, none⟩ = false := FP2a.out.frozen 3 2 rfl
    have hf3 : w2.frozen? ⟨W.heap.size + 3, 3, none⟩ = false := FP2a.out.frozen 3 3 rfl
    go_wp2
    obtain ⟨e0, e1, e2, hq, hbel⟩ := FP2a.out.finQ (cap := 0) (bc := 0) (neg := false) (ao := none) (len := 0) (bo := none) (bl := 0) (p := 0) (q := 1) 2 rfl ⟨Z32.nil _, .inl ⟨rfl, rfl⟩⟩
    have hfr := (((FP2a.out.set 2 0 rfl (.bool false)).set 2 1 rfl (.slice none 0 0)).set 2 2 rfl (.slice none 0 0))
    have hfr2 := ((((hfr.set 3 0 rfl (.bool false)).set 3 1 rfl (.slice none 0 0)).set 3 2 rfl (.bool false)).set 3 3 rfl (.slice none 0 0))
    have r0 := hfr2.cell 2 0 (v := .bool false) rfl rfl
    have r1 := hfr2.cell 2 1 (v := .slice none 0 0) rfl rfl
    have r2 := hfr2.cell 2 2 (v := .slice none 0 0) rfl rfl
    have t0 := hfr2.cell 3 0 (v := .bool false) rfl rfl
    have t1 := hfr2.cell 3 1 (v := .slice none 0 0) rfl rfl
    have t2 := hfr2.cell 3 2 (v := .bool false) rfl rfl
    have t3 := hfr2.cell 3 3 (v := .slice none 0 0) rfl rfl
    exact bodyPost_ret (v := .tuple #[.agg #[.bool false, .slice none 0 0, .slice none 0 0], .agg #[.bool false, .slice none 0 0, .bool false, .slice none 0 0], .bool false]) (by simp [results, Tryz.results14, go_sem, r0, r1, r2, t0, t1, t2, t3]) rfl
      ⟨false, none, 0, 0, none, 0, 0, false, none, 0, 0, false, none, 0, 0, 0, 1, by rw [decide_eq_false (fun h => h HY0.out)], by omega, by omega, ⟨Z32.nil _, .inl ⟨rfl, rfl⟩⟩, fun h => absurd HY0.out h, hfr2.below⟩
  · have HY0 := Lib.hid hy0
    obtain ⟨t, ht⟩ : ∃ t, t = Y.sign := ⟨_, rfl⟩
    have ht0 : (t == 0) = false := by
      have : Y.sign ≠ 0 := fun h => hy0 (Int.sign_eq_zero_iff_zero.1 h)
      rw [ht]; simp [this]
    have HT := Lib.hid ht
    clear ht hy0
    have qq0 : w1.cell? ⟨b7, 0, none⟩ = some (.bool n5) := BB1.out.cell 0
    have qq1 : w1.cell? ⟨b7, 1, none⟩ = some (.slice o5 l5 c5) := BB1.out.cell 1
    go_wp2_with fail
    refine ((sign16_any _ _ _ _ Y _ HB1.out).mono fun e w h => (⟨h.1.trans (congrArg (fun t => Ending.returned (.int .i64 t)) HT.out.symm), h.2⟩ : e = .returned (.int .i64 t) ∧ _)).mono ?_
    rintro e w2 ⟨rfl, hb⟩
    clear qq0 qq1
    have FP2a := Lib.hid (FP1.out.later hb)
    have BA2a := Lib.hid (BA1.out.below hb BA1.out.lt)
    have BB2a := Lib.hid (BB1.out.below hb BB1.out.lt)
    have HA2a := Lib.hid (HA1.out.keep hb)
    have HB2a := Lib.hid (HB1.out.keep hb)
    clear hb
    have qq0 : w2.cell? ⟨b6, 0, none⟩ = some (.bool n2) := BA2a.out.cell 0
    have qq1 : w2.cell? ⟨b6, 1, none⟩ = some (.slice o2 l2 c2) := BA2a.out.cell 1
    have qq2 : w2.cell? ⟨b7, 0, none⟩ = some (.bool n5) := BB2a.out.cell 0
    have qq3 : w2.cell? ⟨b7, 1, none⟩ = some (.slice o5 l5 c5) := BB2a.out.cell 1
    go_wp2_with fail
    refine ((two_any _ _ _ _ _ _ _ _ X Y _ HA2a.out HB2a.out (by omega) (by omega)).mono fun e w h => h.fits HFX.out HFY.out).mono ?_
    rintro e w3 ⟨nc, oc, lc, cc, nd, od, ld, cd, rfl, hlc, hld, hzc, hzd, hb⟩
    clear qq0 qq1 qq2 qq3
    have FP3a := Lib.hid (FP2a.out.later hb)
    have BA3a := Lib.hid (BA2a.out.below hb BA2a.out.lt)
    have BB3a := Lib.hid (BB2a.out.below hb BB2a.out.lt)
    have HA3a := Lib.hid (HA2a.out.keep hb)
    have HB3a := Lib.hid (HB2a.out.keep hb)
    have hfc : Fr w3 ((w3.alloc (.cells #[.bool nc, .slice oc lc cc] 25)).alloc (.cells #[.bool nd, .slice od ld cd] 25)) [(25, #[.bool nc, .slice oc lc cc]), (25, #[.bool nd, .slice od ld cd])] := ((Fr.nil w3).alloc rfl _ _).alloc (by simp) _ _
    have FP3b := Lib.hid (FP3a.out.later hfc.below)
    have BA3b := Lib.hid (BA3a.out.below hfc.below BA3a.out.lt)
    have BB3b := Lib.hid (BB3a.out.below hfc.below BB3a.out.lt)
    have HA3b := Lib.hid (HA3a.out.keep hfc.below)
    have HB3b := Lib.hid (HB3a.out.keep hfc.below)
    have FC3 := Lib.hid hfc
    have HC3 := Lib.hid (hzc.keep hfc.below)
    have HD3 := Lib.hid (hzd.keep hfc.below)
    clear hb hzc hzd hfc
    have qq0 : ((w3.alloc (.cells #[.bool nc, .slice oc lc cc] 25)).alloc (.cells #[.bool nd, .slice od ld cd] 25)).cell? ⟨w3.heap.size, 0, none⟩ = some (.bool nc) := FC3.out.cell 0 0 rfl rfl
    have qq1 : ((w3.alloc (.cells #[.bool nc, .slice oc lc cc] 25)).alloc (.cells #[.bool nd, .slice od ld cd] 25)).cell? ⟨w3.heap.size, 1, none⟩ = some (.slice oc lc cc) := FC3.out.cell 0 1 rfl rfl
    have qq2 : ((w3.alloc (.cells #[.bool nc, .slice oc lc cc] 25)).alloc (.cells #[.bool nd, .slice od ld cd] 25)).cell? ⟨w3.heap.size + 1, 0, none⟩ = some (.bool nd) := FC3.out.cell 1 0 rfl rfl
    have qq3 : ((w3.alloc (.cells #[.bool nc, .slice oc lc cc] 25)).alloc (.cells #[.bool nd, .slice od ld cd] 25)).cell? ⟨w3.heap.size + 1, 1, none⟩ = some (.slice od ld cd) := FC3.out.cell 1 1 rfl rfl
    go_wp2_with fail
    refine (newRat_L _ _ _ _ _ _ _ _ X Y _ HC3.out HD3.out (by omega) (by omega) HY0.out).mono ?_
    rintro e w4 ⟨nq, oq, lq, cq, bq, mq, dq, rfl, hq, hb⟩
    clear qq0 qq1 qq2 qq3
    have FP4a := Lib.hid (FP3b.out.later hb)
    have FC4a := Lib.hid (FC3.out.later hb)
    have BA4a := Lib.hid (BA3b.out.below hb BA3b.out.lt)
    have BB4a := Lib.hid (BB3b.out.below hb BB3b.out.lt)
    have HA4a := Lib.hid (HA3b.out.keep hb)
    have HB4a := Lib.hid (HB3b.out.keep hb)
    have HC4a := Lib.hid (HC3.out.keep hb)
    have HD4a := Lib.hid (HD3.out.keep hb)
    have hlens := hq.lens ⟨fits_lowP HFX.out, fits_lowQ HFY.out⟩
    have hf4 : Fr w4 (w4.alloc (.cells #[.bool nq, .slice oq lq cq, .slice bq mq dq] 27)) [(27, #[.bool nq, .slice oq lq cq, .slice bq mq dq])] := (Fr.nil w4).alloc rfl _ _
    have FP4b := Lib.hid (FP4a.out.later hf4.below)
    have FC4b := Lib.hid (FC4a.out.later hf4.below)
    have BA4b := Lib.hid (BA4a.out.below hf4.below BA4a.out.lt)
    have BB4b := Lib.hid (BB4a.out.below hf4.below BB4a.out.lt)
    have HA4b := Lib.hid (HA4a.out.keep hf4.below)
    have HB4b := Lib.hid (HB4a.out.keep hf4.below)
    have HC4b := Lib.hid (HC4a.out.keep hf4.below)
    have HD4b := Lib.hid (HD4a.out.keep hf4.below)
    have FQ4 := Lib.hid hf4
    have HQ4 := Lib.hid (hq.keep hf4.below)
    clear hb hq hf4
    have hlq := hlens.1
    have hmq := hlens.2
    clear hlens
    go_upto_region 6 with fail
    obtain ⟨V4, hV⟩ : ∃ V, V = (w4.alloc (.cells #[.bool nq, .slice oq lq cq, .slice bq mq dq] 27)) := ⟨_, rfl⟩
    rw [← hV] at FP4b FQ4 BA4b BB4b HA4b HB4b HQ4 ⊢
    have hw4 : W.heap.size + 4 ≤ w4.heap.size := by have h1 := FP4a.out.size; simpa using h1
    clear hV
    have qq0 : V4.cell? ⟨w4.heap.size, 0, none⟩ = some (.bool nq) := FQ4.out.cell 0 0 rfl rfl
    have qq1 : V4.cell? ⟨w4.heap.size, 1, none⟩ = some (.slice oq lq cq) := FQ4.out.cell 0 1 rfl rfl
    have qq2 : V4.cell? ⟨w4.heap.size, 2, none⟩ = some (.slice bq mq dq) := FQ4.out.cell 0 2 rfl rfl
    have qq3 : V4.cell? ⟨b6, 0, none⟩ = some (.bool n2) := BA4b.out.cell 0
    have qq4 : V4.cell? ⟨b6, 1, none⟩ = some (.slice o2 l2 c2) := BA4b.out.cell 1
    have qq5 : V4.cell? ⟨b7, 0, none⟩ = some (.bool n5) := BB4b.out.cell 0
    have qq6 : V4.cell? ⟨b7, 1, none⟩ = some (.slice o5 l5 c5) := BB4b.out.cell 1
    have hb6v := hb6
    have hb7v := hb7
    have ne0 : w4.heap.size ≠ W.heap.size + 1 + 1 := by omega
    have nf0 : w4.heap.size ≠ W.heap.size + 1 + 1 + 1 := by omega
    have ne1 : b6 ≠ W.heap.size + 1 + 1 := by omega
    have nf1 : b6 ≠ W.heap.size + 1 + 1 + 1 := by omega
    have ne2 : b7 ≠ W.heap.size + 1 + 1 := by omega
    have nf2 : b7 ≠ W.heap.size + 1 + 1 + 1 := by omega
    go_region_held3 (fun w' => w'.cell? ⟨w4.heap.size, 0, none⟩ = some (.bool nq) ∧ w'.cell? ⟨w4.heap.size, 1, none⟩ = some (.slice oq lq cq) ∧ w'.cell? ⟨w4.heap.size, 2, none⟩ = some (.slice bq mq dq) ∧ w'.cell? ⟨b6, 0, none⟩ = some (.bool n2) ∧ w'.cell? ⟨b6, 1, none⟩ = some (.slice o2 l2 c2) ∧ w'.cell? ⟨b7, 0, none⟩ = some (.bool n5) ∧ w'.cell? ⟨b7, 1, none⟩ = some (.slice o5 l5 c5)) (first | with_reducible exact ⟨rc0, rc1, rc2, rc3, rc4, rc5, rc6⟩ | with_reducible exact ⟨(cell_set3 _ _ _ _ _ _ _ ne0).trans rc0, (cell_set3 _ _ _ _ _ _ _ ne0).trans rc1, (cell_set3 _ _ _ _ _ _ _ ne0).trans rc2, (cell_set3 _ _ _ _ _ _ _ ne1).trans rc3, (cell_set3 _ _ _ _ _ _ _ ne1).trans rc4, (cell_set3 _ _ _ _ _ _ _ ne2).trans rc5, (cell_set3 _ _ _ _ _ _ _ ne2).trans rc6⟩ | with_reducible exact ⟨(cell_set4 _ _ _ _ _ _ _ _ nf0).trans ((cell_set3 _ _ _ _ _ _ _ ne0).trans rc0), (cell_set4 _ _ _ _ _ _ _ _ nf0).trans ((cell_set3 _ _ _ _ _ _ _ ne0).trans rc1), (cell_set4 _ _ _ _ _ _ _ _ nf0).trans ((cell_set3 _ _ _ _ _ _ _ ne0).trans rc2), (cell_set4 _ _ _ _ _ _ _ _ nf1).trans ((cell_set3 _ _ _ _ _ _ _ ne1).trans rc3), (cell_set4 _ _ _ _ _ _ _ _ nf1).trans ((cell_set3 _ _ _ _ _ _ _ ne1).trans rc4), (cell_set4 _ _ _ _ _ _ _ _ nf2).trans ((cell_set3 _ _ _ _ _ _ _ ne2).trans rc5), (cell_set4 _ _ _ _ _ _ _ _ nf2).trans ((cell_set3 _ _ _ _ _ _ _ ne2).trans rc6)⟩ | exact ⟨qq0, qq1, qq2, qq3, qq4, qq5, qq6⟩)
      (first | (go_at_call 52; refine (low_B _ _ _ _ _ _ _ _ X Y V4.drew (HA4b.out.keep (Below.refl _ _).drew) (HB4b.out.keep (Below.refl _ _).drew) (by omega) (by omega) hc2 hm2 hc5 hm5 HY0.out).mono ?_; rintro e w5 ⟨s1, u1, k1, d1, s2, u2, k2, d2, rfl, hB1, hB2, hk1, hd1, hk2, hd2, hz1, hz2, hb⟩; have hbb := below_of_drew hb; have FPr := Lib.hid (FP4b.out.later hbb); have FQr := Lib.hid (FQ4.out.later hbb); have BAr := Lib.hid (BA4b.out.below hbb BA4b.out.lt); have BBr := Lib.hid (BB4b.out.below hbb BB4b.out.lt); have HAr := Lib.hid (HA4b.out.keep hbb); have HBr := Lib.hid (HB4b.out.keep hbb); have HQr := Lib.hid (HQ4.out.keep hbb); have HZ1 := Lib.hid hz1; have HZ2 := Lib.hid hz2; clear hb hbb hz1 hz2; have rc0 : w5.cell? ⟨w4.heap.size, 0, none⟩ = some (.bool nq) := FQr.out.cell 0 0 rfl rfl; have rc1 : w5.cell? ⟨w4.heap.size, 1, none⟩ = some (.slice oq lq cq) := FQr.out.cell 0 1 rfl rfl; have rc2 : w5.cell? ⟨w4.heap.size, 2, none⟩ = some (.slice bq mq dq) := FQr.out.cell 0 2 rfl rfl; have rc3 : w5.cell? ⟨b6, 0, none⟩ = some (.bool n2) := BAr.out.cell 0; have rc4 : w5.cell? ⟨b6, 1, none⟩ = some (.slice o2 l2 c2) := BAr.out.cell 1; have rc5 : w5.cell? ⟨b7, 0, none⟩ = some (.bool n5) := BBr.out.cell 0; have rc6 : w5.cell? ⟨b7, 1, none⟩ = some (.slice o5 l5 c5) := BBr.out.cell 1; have g0 : w5.cell? ⟨W.heap.size + 2, 0, none⟩ = some (.bool false) := FPr.out.cell 2 0 rfl rfl; have g1 : w5.cell? ⟨W.heap.size + 2, 1, none⟩ = some (.slice none 0 0) := FPr.out.cell 2 1 rfl rfl; have g2 : w5.cell? ⟨W.heap.size + 2, 2, none⟩ = some (.slice none 0 0) := FPr.out.cell 2 2 rfl rfl; have gf0 : w5.frozen? ⟨W.heap.size + 2, 0, none⟩ = false := FPr.out.frozen 2 0 rfl; have gf1 : w5.frozen? ⟨W.heap.size + 2, 1, none⟩ = false := FPr.out.frozen 2 1 rfl; have gf2 : w5.frozen? ⟨W.heap.size + 2, 2, none⟩ = false := FPr.out.frozen 2 2 rfl; have h0 : w5.cell? ⟨W.heap.size + 3, 0, none⟩ = some (.bool false) := FPr.out.cell 3 0 rfl rfl; have h1 : w5.cell? ⟨W.heap.size + 3, 1, none⟩ = some (.slice none 0 0) := FPr.out.cell 3 1 rfl rfl; have h2 : w5.cell? ⟨W.heap.size + 3, 2, none⟩ = some (.bool false) := FPr.out.cell 3 2 rfl rfl; have h3 : w5.cell? ⟨W.heap.size + 3, 3, none⟩ = some (.slice none 0 0) := FPr.out.cell 3 3 rfl rfl; have hf0 : w5.frozen? ⟨W.heap.size + 3, 0, none⟩ = false := FPr.out.frozen 3 0 rfl; have hf1 : w5.frozen? ⟨W.heap.size + 3, 1, none⟩ = false := FPr.out.frozen 3 1 rfl; have hf2 : w5.frozen? ⟨W.heap.size + 3, 2, none⟩ = false := FPr.out.frozen 3 2 rfl; have hf3 : w5.frozen? ⟨W.heap.size + 3, 3, none⟩ = false := FPr.out.frozen 3 3 rfl))
    go_wp2
    have hfr := (((FPr.out.set 2 0 rfl (.bool nq)).set 2 1 rfl (.slice oq lq cq)).set 2 2 rfl (.slice bq mq dq))
    have hfr2 := ((((hfr.set 3 0 rfl (.bool s1)).set 3 1 rfl (.slice u1 k1 d1)).set 3 2 rfl (.bool s2)).set 3 3 rfl (.slice u2 k2 d2))
    have r0 := hfr2.cell 2 0 (v := .bool nq) rfl rfl
    have r1 := hfr2.cell 2 1 (v := .slice oq lq cq) rfl rfl
    have r2 := hfr2.cell 2 2 (v := .slice bq mq dq) rfl rfl
    have t0 := hfr2.cell 3 0 (v := .bool s1) rfl rfl
    have t1 := hfr2.cell 3 1 (v := .slice u1 k1 d1) rfl rfl
    have t2 := hfr2.cell 3 2 (v := .bool s2) rfl rfl
    have t3 := hfr2.cell 3 3 (v := .slice u2 k2 d2) rfl rfl
    have hqf := ((((((HQr.out.setFr FPr.out 2 0 rfl rfl (.bool nq)).setFr (FPr.out.set 2 0 rfl (.bool nq)) 2 1 rfl rfl (.slice oq lq cq)).setFr ((FPr.out.set 2 0 rfl (.bool nq)).set 2 1 rfl (.slice oq lq cq)) 2 2 rfl rfl (.slice bq mq dq)).setFr hfr 3 0 rfl rfl (.bool s1)).setFr (hfr.set 3 0 rfl (.bool s1)) 3 1 rfl rfl (.slice u1 k1 d1)).setFr ((hfr.set 3 0 rfl (.bool s1)).set 3 1 rfl (.slice u1 k1 d1)) 3 2 rfl rfl (.bool s2)).setFr (((hfr.set 3 0 rfl (.bool s1)).set 3 1 rfl (.slice u1 k1 d1)).set 3 2 rfl (.bool s2)) 3 3 rfl rfl (.slice u2 k2 d2)
    have hz1f := ((((((HZ1.out.setFr FPr.out 2 0 rfl rfl (.bool nq)).setFr (FPr.out.set 2 0 rfl (.bool nq)) 2 1 rfl rfl (.slice oq lq cq)).setFr ((FPr.out.set 2 0 rfl (.bool nq)).set 2 1 rfl (.slice oq lq cq)) 2 2 rfl rfl (.slice bq mq dq)).setFr hfr 3 0 rfl rfl (.bool s1)).setFr (hfr.set 3 0 rfl (.bool s1)) 3 1 rfl rfl (.slice u1 k1 d1)).setFr ((hfr.set 3 0 rfl (.bool s1)).set 3 1 rfl (.slice u1 k1 d1)) 3 2 rfl rfl (.bool s2)).setFr (((hfr.set 3 0 rfl (.bool s1)).set 3 1 rfl (.slice u1 k1 d1)).set 3 2 rfl (.bool s2)) 3 3 rfl rfl (.slice u2 k2 d2)
    have hz2f := ((((((HZ2.out.setFr FPr.out 2 0 rfl rfl (.bool nq)).setFr (FPr.out.set 2 0 rfl (.bool nq)) 2 1 rfl rfl (.slice oq lq cq)).setFr ((FPr.out.set 2 0 rfl (.bool nq)).set 2 1 rfl (.slice oq lq cq)) 2 2 rfl rfl (.slice bq mq dq)).setFr hfr 3 0 rfl rfl (.bool s1)).setFr (hfr.set 3 0 rfl (.bool s1)) 3 1 rfl rfl (.slice u1 k1 d1)).setFr ((hfr.set 3 0 rfl (.bool s1)).set 3 1 rfl (.slice u1 k1 d1)) 3 2 rfl rfl (.bool s2)).setFr (((hfr.set 3 0 rfl (.bool s1)).set 3 1 rfl (.slice u1 k1 d1)).set 3 2 rfl (.bool s2)) 3 3 rfl rfl (.slice u2 k2 d2)
    exact bodyPost_ret (v := .tuple #[.agg #[.bool nq, .slice oq lq cq, .slice bq mq dq], .agg #[.bool s1, .slice u1 k1 d1, .bool s2, .slice u2 k2 d2], .bool true]) (by simp [results, Tryz.results14, go_sem, r0, r1, r2, t0, t1, t2, t3]) rfl
      ⟨nq, oq, lq, cq, bq, mq, dq, s1, u1, k1, d1, s2, u2, k2, d2, _, _, by rw [decide_eq_true HY0.out], hlq, hmq, hqf, fun _ => ⟨rfl, rfl, fits_len16 hz1f (fits_lowP HFX.out), fits_len16 hz2f ((fits_cast _).2 (fits_lowQ HFY.out)), hz1f, hz2f⟩, hfr2.below⟩
end Go.Proofs.YtcgnmihabkgecaaGreat

/- The program's product of fractions. -/
set_option linter.unusedVariables false
namespace Go.Proofs.YtcgnmihabkgecaaGreat
open Go.RowKit

set_option maxRecDepth 4000 in
set_option maxHeartbeats 2000000 in
theorem ratMul_any (na nc : Bool) (ao bo co d_o : Option Addr) (la lb lc ld ca cb cc cd : Nat) (p r : Int) (q s : Nat) (W : World) (hf0 : Q32 W na ao la bo lb p q) (hg0 : Q32 W nc co lc d_o ld r s) (hla : la ≤ 100000) (hlb : lb ≤ 100000) (hlc : lc ≤ 100000) (hld : ld ≤ 100000) :
    Calls Tryz.prog 16 #[.agg #[.bool na, .slice ao la ca, .slice bo lb cb], .agg #[.bool nc, .slice co lc cc, .slice d_o ld cd]] W (OutTQ W (lowP (p * r) ((q : Int) * (s : Int))) (lowQ (p * r) ((q : Int) * (s : Int)))) := by
  have hf : Fr W (((W.alloc (.cells #[.bool na, .slice ao la ca, .slice bo lb cb] 27)).alloc (.cells #[.bool nc, .slice co lc cc, .slice d_o ld cd] 27)).alloc (.cells #[.bool false, .slice none 0 0, .slice none 0 0] 27)) [(27, #[.bool na, .slice ao la ca, .slice bo lb cb]), (27, #[.bool nc, .slice co lc cc, .slice d_o ld cd]), (27, #[.bool false, .slice none 0 0, .slice none 0 0])] := (((Fr.nil W).alloc rfl _ _).alloc (by simp) _ _).alloc (by simp) _ _
  have hy0 : (q : Int) * (s : Int) ≠ 0 := by
    have h1 := hf0.pos
    have h2 := hg0.pos
    have h3 : 0 < (q : Int) * (s : Int) := Int.mul_pos (by omega) (by omega)
    omega
  have HF := Lib.hid hf
  have HF_0 := Lib.hid (hf0.keep hf.below)
  have HG_0 := Lib.hid (hg0.keep hf.below)
  clear hf hf0 hg0
  go_enter Tryz.func16, Tryz.ntmps16
  go_wp2_with fail
  obtain ⟨V, hV⟩ : ∃ V, V = (((W.alloc (.cells #[.bool na, .slice ao la ca, .slice bo lb cb] 27)).alloc (.cells #[.bool nc, .slice co lc cc, .slice d_o ld cd] 27)).alloc (.cells #[.bool false, .slice none 0 0, .slice none 0 0] 27)) := ⟨_, rfl⟩
  rw [← hV] at HF HF_0 HG_0 ⊢
  clear hV
  have qq0 : V.cell? ⟨W.heap.size, 0, none⟩ = some (.bool na) := HF.out.cell 0 0 rfl rfl
  have qq1 : V.cell? ⟨W.heap.size, 1, none⟩ = some (.slice ao la ca) := HF.out.cell 0 1 rfl rfl
  have qq2 : V.cell? ⟨W.heap.size, 2, none⟩ = some (.slice bo lb cb) := HF.out.cell 0 2 rfl rfl
  have qq3 : V.cell? ⟨W.heap.size + 1, 0, none⟩ = some (.bool nc) := HF.out.cell 1 0 rfl rfl
  have qq4 : V.cell? ⟨W.heap.size + 1, 1, none⟩ = some (.slice co lc cc) := HF.out.cell 1 1 rfl rfl
  have qq5 : V.cell? ⟨W.heap.size + 1, 2, none⟩ = some (.slice d_o ld cd) := HF.out.cell 1 2 rfl rfl
  go_region_held3 (fun w' => w'.cell? ⟨W.heap.size, 0, none⟩ = some (.bool na) ∧ w'.cell? ⟨W.heap.size, 1, none⟩ = some (.slice ao la ca) ∧ w'.cell? ⟨W.heap.size, 2, none⟩ = some (.slice bo lb cb) ∧ w'.cell? ⟨W.heap.size + 1, 0, none⟩ = some (.bool nc) ∧ w'.cell? ⟨W.heap.size + 1, 1, none⟩ = some (.slice co lc cc) ∧ w'.cell? ⟨W.heap.size + 1, 2, none⟩ = some (.slice d_o ld cd)) (first | (go_keep; done) | ((try dsimp only); (repeat' apply And.intro) <;> (first | (go_keep; done) | (rw [cell_set3 _ _ _ _ _ _ _ (by omega)]; assumption) | (rw [cell_set2 _ _ _ _ _ _ (by omega)]; assumption))))
    (first | (go_at_call 48; refine ((fittingRat_any _ _ _ _ _ _ _ (lowP (p * r) ((q : Int) * (s : Int))) (lowQ (p * r) ((q : Int) * (s : Int))) _ HQ0.out (by omega) (by omega)).mono fun e w h => h.told).mono ?_; rintro e mw5 ⟨n8, o8, l8, c8, u8, m8, d8, e8, P8, Q8, rfl, hl8, hm8, hz, hb, ht⟩; have hbb := hb; have FPm5 := Lib.hid (FPm4.out.later hbb); have HFm5 := Lib.hid (HFm4.out.keep hbb); have HGm5 := Lib.hid (HGm4.out.keep hbb); have HXm5 := Lib.hid (HXm4.out.keep hbb); have HDm5 := Lib.hid (HDm4.out.keep hbb); have HEm5 := Lib.hid (HEm4.out.keep hbb); have HYm5 := Lib.hid (HYm4.out.keep hbb); have HQm5 := Lib.hid (HQ0.out.keep hbb); have HZ0 := Lib.hid hz; have HT := Lib.hid ht; clear hz ht; clear hb hbb; have m5c0 : mw5.cell? ⟨W.heap.size, 0, none⟩ = some (.bool na) := FPm5.out.cell 0 0 rfl rfl; have m5c1 : mw5.cell? ⟨W.heap.size, 1, none⟩ = some (.slice ao la ca) := FPm5.out.cell 0 1 rfl rfl; have m5c2 : mw5.cell? ⟨W.heap.size, 2, none⟩ = some (.slice bo lb cb) := FPm5.out.cell 0 2 rfl rfl; have m5c3 : mw5.cell? ⟨W.heap.size + 1, 0, none⟩ = some (.bool nc) := FPm5.out.cell 1 0 rfl rfl; have m5c4 : mw5.cell? ⟨W.heap.size + 1, 1, none⟩ = some (.slice co lc cc) := FPm5.out.cell 1 1 rfl rfl; have m5c5 : mw5.cell? ⟨W.heap.size + 1, 2, none⟩ = some (.slice d_o ld cd) := FPm5.out.cell 1 2 rfl rfl; have mz0 : mw5.cell? ⟨W.heap.size + 2, 0, none⟩ = some (.bool false) := FPm5.out.cell 2 0 rfl rfl; have mz1 : mw5.cell? ⟨W.heap.size + 2, 1, none⟩ = some (.slice none 0 0) := FPm5.out.cell 2 1 rfl rfl; have mz2 : mw5.cell? ⟨W.heap.size + 2, 2, none⟩ = some (.slice none 0 0) := FPm5.out.cell 2 2 rfl rfl; have mzf0 : mw5.frozen? ⟨W.heap.size + 2, 0, none⟩ = false := FPm5.out.frozen 2 0 rfl; have mzf1 : mw5.frozen? ⟨W.heap.size + 2, 1, none⟩ = false := FPm5.out.frozen 2 1 rfl; have mzf2 : mw5.frozen? ⟨W.heap.size + 2, 2, none⟩ = false := FPm5.out.frozen 2 2 rfl) | (go_at_call 49; refine (reduced_L _ _ _ _ _ _ _ _ (p * r) ((q : Int) * (s : Int)) _ HXm3.out HY0.out (by omega) (by omega) hy0).mono ?_; rintro e mw4 ⟨n7, o7, l7, c7, u7, m7, d7, rfl, hl7, hm7, hz, hb⟩; have hbb := hb; have FPm4 := Lib.hid (FPm3.out.later hbb); have HFm4 := Lib.hid (HFm3.out.keep hbb); have HGm4 := Lib.hid (HGm3.out.keep hbb); have HXm4 := Lib.hid (HXm3.out.keep hbb); have HDm4 := Lib.hid (HDm3.out.keep hbb); have HEm4 := Lib.hid (HEm3.out.keep hbb); have HYm4 := Lib.hid (HY0.out.keep hbb); have HQ0 := Lib.hid hz; clear hz; clear hb hbb; have m4c0 : mw4.cell? ⟨W.heap.size, 0, none⟩ = some (.bool na) := FPm4.out.cell 0 0 rfl rfl; have m4c1 : mw4.cell? ⟨W.heap.size, 1, none⟩ = some (.slice ao la ca) := FPm4.out.cell 0 1 rfl rfl; have m4c2 : mw4.cell? ⟨W.heap.size, 2, none⟩ = some (.slice bo lb cb) := FPm4.out.cell 0 2 rfl rfl; have m4c3 : mw4.cell? ⟨W.heap.size + 1, 0, none⟩ = some (.bool nc) := FPm4.out.cell 1 0 rfl rfl; have m4c4 : mw4.cell? ⟨W.heap.size + 1, 1, none⟩ = some (.slice co lc cc) := FPm4.out.cell 1 1 rfl rfl; have m4c5 : mw4.cell? ⟨W.heap.size + 1, 2, none⟩ = some (.slice d_o ld cd) := FPm4.out.cell 1 2 rfl rfl) | (go_at_call 59; refine (times_L _ _ _ _ _ _ _ _ ((q : Int)) ((s : Int)) _ HDm2.out HE0.out (by omega) (by omega)).mono ?_; rintro e mw3 ⟨n4, o4, l4, c4, rfl, hl4, hz, hb⟩; have hbb := hb; have FPm3 := Lib.hid (FPm2.out.later hbb); have HFm3 := Lib.hid (HFm2.out.keep hbb); have HGm3 := Lib.hid (HGm2.out.keep hbb); have HXm3 := Lib.hid (HXm2.out.keep hbb); have HDm3 := Lib.hid (HDm2.out.keep hbb); have HEm3 := Lib.hid (HE0.out.keep hbb); have HY0 := Lib.hid hz; clear hz; clear hb hbb; have m3c0 : mw3.cell? ⟨W.heap.size, 0, none⟩ = some (.bool na) := FPm3.out.cell 0 0 rfl rfl; have m3c1 : mw3.cell? ⟨W.heap.size, 1, none⟩ = some (.slice ao la ca) := FPm3.out.cell 0 1 rfl rfl; have m3c2 : mw3.cell? ⟨W.heap.size, 2, none⟩ = some (.slice bo lb cb) := FPm3.out.cell 0 2 rfl rfl; have m3c3 : mw3.cell? ⟨W.heap.size + 1, 0, none⟩ = some (.bool nc) := FPm3.out.cell 1 0 rfl rfl; have m3c4 : mw3.cell? ⟨W.heap.size + 1, 1, none⟩ = some (.slice co lc cc) := FPm3.out.cell 1 1 rfl rfl; have m3c5 : mw3.cell? ⟨W.heap.size + 1, 2, none⟩ = some (.slice d_o ld cd) := FPm3.out.cell 1 2 rfl rfl) | (go_at_call 60; refine (den_L nc _ _ _ _ _ _ r s _ HGm1.out (by omega)).mono ?_; rintro e mw2 ⟨n3, o3, l3, c3, rfl, hl3, hz, hb⟩; have hbb := hb; have FPm2 := Lib.hid (FPm1.out.later hbb); have HFm2 := Lib.hid (HFm1.out.keep hbb); have HGm2 := Lib.hid (HGm1.out.keep hbb); have HXm2 := Lib.hid (HXm1.out.keep hbb); have HDm2 := Lib.hid (HD0.out.keep hbb); have HE0 := Lib.hid hz; clear hz; clear hb hbb; have m2c0 : mw2.cell? ⟨W.heap.size, 0, none⟩ = some (.bool na) := FPm2.out.cell 0 0 rfl rfl; have m2c1 : mw2.cell? ⟨W.heap.size, 1, none⟩ = some (.slice ao la ca) := FPm2.out.cell 0 1 rfl rfl; have m2c2 : mw2.cell? ⟨W.heap.size, 2, none⟩ = some (.slice bo lb cb) := FPm2.out.cell 0 2 rfl rfl; have m2c3 : mw2.cell? ⟨W.heap.size + 1, 0, none⟩ = some (.bool nc) := FPm2.out.cell 1 0 rfl rfl; have m2c4 : mw2.cell? ⟨W.heap.size + 1, 1, none⟩ = some (.slice co lc cc) := FPm2.out.cell 1 1 rfl rfl; have m2c5 : mw2.cell? ⟨W.heap.size + 1, 2, none⟩ = some (.slice d_o ld cd) := FPm2.out.cell 1 2 rfl rfl) | (go_at_call 60; refine (den_L na _ _ _ _ _ _ p q _ HFm0.out (by omega)).mono ?_; rintro e mw1 ⟨n2, o2, l2, c2, rfl, hl2, hz, hb⟩; have hbb := hb; have FPm1 := Lib.hid (FPm0.out.later hbb); have HFm1 := Lib.hid (HFm0.out.keep hbb); have HGm1 := Lib.hid (HGm0.out.keep hbb); have HXm1 := Lib.hid (HX0.out.keep hbb); have HD0 := Lib.hid hz; clear hz; clear hb hbb; have m1c0 : mw1.cell? ⟨W.heap.size, 0, none⟩ = some (.bool na) := FPm1.out.cell 0 0 rfl rfl; have m1c1 : mw1.cell? ⟨W.heap.size, 1, none⟩ = some (.slice ao la ca) := FPm1.out.cell 0 1 rfl rfl; have m1c2 : mw1.cell? ⟨W.heap.size, 2, none⟩ = some (.slice bo lb cb) := FPm1.out.cell 0 2 rfl rfl; have m1c3 : mw1.cell? ⟨W.heap.size + 1, 0, none⟩ = some (.bool nc) := FPm1.out.cell 1 0 rfl rfl; have m1c4 : mw1.cell? ⟨W.heap.size + 1, 1, none⟩ = some (.slice co lc cc) := FPm1.out.cell 1 1 rfl rfl; have m1c5 : mw1.cell? ⟨W.heap.size + 1, 2, none⟩ = some (.slice d_o ld cd) := FPm1.out.cell 1 2 rfl rfl) | (go_at_call 59; refine (times_L _ _ _ _ _ _ _ _ (p) (r) V.drew ((HF_0.out.keep (Below.refl _ _).drew)).1 ((HG_0.out.keep (Below.refl _ _).drew)).1 (by omega) (by omega)).mono ?_; rintro e mw0 ⟨n1, o1, l1, c1, rfl, hl1, hz, hb⟩; have hbb := below_of_drew hb; have FPm0 := Lib.hid (HF.out.later hbb); have HFm0 := Lib.hid (HF_0.out.keep hbb); have HGm0 := Lib.hid (HG_0.out.keep hbb); have HX0 := Lib.hid hz; clear hz; clear hb hbb; have m0c0 : mw0.cell? ⟨W.heap.size, 0, none⟩ = some (.bool na) := FPm0.out.cell 0 0 rfl rfl; have m0c1 : mw0.cell? ⟨W.heap.size, 1, none⟩ = some (.slice ao la ca) := FPm0.out.cell 0 1 rfl rfl; have m0c2 : mw0.cell? ⟨W.heap.size, 2, none⟩ = some (.slice bo lb cb) := FPm0.out.cell 0 2 rfl rfl; have m0c3 : mw0.cell? ⟨W.heap.size + 1, 0, none⟩ = some (.bool nc) := FPm0.out.cell 1 0 rfl rfl; have m0c4 : mw0.cell? ⟨W.heap.size + 1, 1, none⟩ = some (.slice co lc cc) := FPm0.out.cell 1 1 rfl rfl; have m0c5 : mw0.cell? ⟨W.heap.size + 1, 2, none⟩ = some (.slice d_o ld cd) := FPm0.out.cell 1 2 rfl rfl))
  go_wp2
  obtain ⟨e0, e1, e2, hq, hbel⟩ := FPm5.out.finQ (cap := c8) (bc := d8) 2 rfl HZ0.out
  exact bodyPost_ret (v := .tuple #[.agg #[.bool n8, .slice o8 l8 c8, .slice u8 m8 d8], .int .i64 e8]) (by simp [results, Tryz.results16, go_sem, e0, e1, e2]) rfl ⟨n8, o8, l8, c8, u8, m8, d8, e8, P8, Q8, rfl, hl8, hm8, hq, hbel, HT.out⟩
end Go.Proofs.YtcgnmihabkgecaaGreat

/- Add of fractions. -/
set_option linter.unusedVariables false
namespace Go.Proofs.YtcgnmihabkgecaaGreat
open Go.RowKit Go.Proofs

set_option maxRecDepth 4000 in
set_option maxHeartbeats 2000000 in
theorem ratAdd_any (na nc : Bool) (ao bo co d_o : Option Addr) (la lb lc ld ca cb cc cd : Nat) (p r : Int) (q s : Nat) (W : World) (hf0 : Q32 W na ao la bo lb p q) (hg0 : Q32 W nc co lc d_o ld r s) (hla : la ≤ 100000) (hlb : lb ≤ 100000) (hlc : lc ≤ 100000) (hld : ld ≤ 100000) :
    Calls Tryz.prog 15 #[.agg #[.bool na, .slice ao la ca, .slice bo lb cb], .agg #[.bool nc, .slice co lc cc, .slice d_o ld cd]] W (OutTQ W (lowP (p * (s : Int) + r * (q : Int)) ((q : Int) * (s : Int))) (lowQ (p * (s : Int) + r * (q : Int)) ((q : Int) * (s : Int)))) := by
  have hf : Fr W (((W.alloc (.cells #[.bool na, .slice ao la ca, .slice bo lb cb] 27)).alloc (.cells #[.bool nc, .slice co lc cc, .slice d_o ld cd] 27)).alloc (.cells #[.bool false, .slice none 0 0, .slice none 0 0] 27)) [(27, #[.bool na, .slice ao la ca, .slice bo lb cb]), (27, #[.bool nc, .slice co lc cc, .slice d_o ld cd]), (27, #[.bool false, .slice none 0 0, .slice none 0 0])] := (((Fr.nil W).alloc rfl _ _).alloc (by simp) _ _).alloc (by simp) _ _
  have hy0 : (q : Int) * (s : Int) ≠ 0 := by
    have h1 := hf0.pos
    have h2 := hg0.pos
    have h3 : 0 < (q : Int) * (s : Int) := Int.mul_pos (by omega) (by omega)
    omega
  have HF := Lib.hid hf
  have HF_0 := Lib.hid (hf0.keep hf.below)
  have HG_0 := Lib.hid (hg0.keep hf.below)
  clear hf hf0 hg0
  go_enter Tryz.func15, Tryz.ntmps15
  go_wp2_with fail
  obtain ⟨V, hV⟩ : ∃ V, V = (((W.alloc (.cells #[.bool na, .slice ao la ca, .slice bo lb cb] 27)).alloc (.cells #[.bool nc, .slice co lc cc, .slice d_o ld cd] 27)).alloc (.cells #[.bool false, .slice none 0 0, .slice none 0 0] 27)) := ⟨_, rfl⟩
  rw [← hV] at HF HF_0 HG_0 ⊢
  clear hV
  have hv : W.heap.size + 3 ≤ V.heap.size := by have := HF.out.size; simpa using this
  rename_i hK0
  refine addQ_region na nc ao bo co d_o la lb lc ld ca cb cc cd p r q s W.heap.size (W.heap.size + 1) _ _ _ _ _ (by kernel_rfl) rfl rfl rfl rfl rfl rfl rfl rfl rfl rfl rfl rfl rfl rfl (by omega) (HF.out.cell 0 0 rfl rfl) (HF.out.cell 0 1 rfl rfl) (HF.out.cell 0 2 rfl rfl) rfl (by omega) (HF.out.cell 1 0 rfl rfl) (HF.out.cell 1 1 rfl rfl) (HF.out.cell 1 2 rfl rfl) HF_0.out HG_0.out hla hlb hlc hld ?_
  intro w1 b11 n10 o10 l10 c10 d3 d4 d8 d9 hb hb11 hbx hl hz
  refine hK0 _ _ ?_
  have FP1 := Lib.hid (HF.out.later hb)
  have HF1 := Lib.hid (HF_0.out.keep hb)
  have HG1 := Lib.hid (HG_0.out.keep hb)
  have BX1 := Lib.hid hbx
  have HX1 := Lib.hid hz
  clear hb hbx hz hK0
  simp only [puts, Act.put]
  go_wp2_with fail
  have qq0 : w1.cell? ⟨W.heap.size, 0, none⟩ = some (.bool na) := FP1.out.cell 0 0 rfl rfl
  have qq1 : w1.cell? ⟨W.heap.size, 1, none⟩ = some (.slice ao la ca) := FP1.out.cell 0 1 rfl rfl
  have qq2 : w1.cell? ⟨W.heap.size, 2, none⟩ = some (.slice bo lb cb) := FP1.out.cell 0 2 rfl rfl
  have qq3 : w1.cell? ⟨W.heap.size + 1, 0, none⟩ = some (.bool nc) := FP1.out.cell 1 0 rfl rfl
  have qq4 : w1.cell? ⟨W.heap.size + 1, 1, none⟩ = some (.slice co lc cc) := FP1.out.cell 1 1 rfl rfl
  have qq5 : w1.cell? ⟨W.heap.size + 1, 2, none⟩ = some (.slice d_o ld cd) := FP1.out.cell 1 2 rfl rfl
  have qq6 : w1.cell? ⟨b11, 0, none⟩ = some (.bool n10) := BX1.out.cell 0
  have qq7 : w1.cell? ⟨b11, 1, none⟩ = some (.slice o10 l10 c10) := BX1.out.cell 1
  go_region_held3 (fun w' => w'.cell? ⟨W.heap.size, 0, none⟩ = some (.bool na) ∧ w'.cell? ⟨W.heap.size, 1, none⟩ = some (.slice ao la ca) ∧ w'.cell? ⟨W.heap.size, 2, none⟩ = some (.slice bo lb cb) ∧ w'.cell? ⟨W.heap.size + 1, 0, none⟩ = some (.bool nc) ∧ w'.cell? ⟨W.heap.size + 1, 1, none⟩ = some (.slice co lc cc) ∧ w'.cell? ⟨W.heap.size + 1, 2, none⟩ = some (.slice d_o ld cd) ∧ w'.cell? ⟨b11, 0, none⟩ = some (.bool n10) ∧ w'.cell? ⟨b11, 1, none⟩ = some (.slice o10 l10 c10)) (first | (go_keep; done) | ((try dsimp only); (repeat' apply And.intro) <;> (first | (go_keep; done) | (rw [cell_set3 _ _ _ _ _ _ _ (by omega)]; assumption) | (rw [cell_set2 _ _ _ _ _ _ (by omega)]; assumption))))
    (first | (go_at_call 48; refine ((fittingRat_any _ _ _ _ _ _ _ (lowP (p * (s : Int) + r * (q : Int)) ((q : Int) * (s : Int))) (lowQ (p * (s : Int) + r * (q : Int)) ((q : Int) * (s : Int))) _ HQ0.out (by omega) (by omega)).mono fun e w h => h.told).mono ?_; rintro e aw4 ⟨n8, o8, l8, c8, u8, m8, d8, e8, P8, Q8, rfl, hl8, hm8, hz, hb, ht⟩; have hbb := hb; have FPa4 := Lib.hid (FPa3.out.later hbb); have BXa4 := Lib.hid (BXa3.out.below hbb BXa3.out.lt); have HFa4 := Lib.hid (HFa3.out.keep hbb); have HGa4 := Lib.hid (HGa3.out.keep hbb); have HXa4 := Lib.hid (HXa3.out.keep hbb); have HDa4 := Lib.hid (HDa3.out.keep hbb); have HEa4 := Lib.hid (HEa3.out.keep hbb); have HYa4 := Lib.hid (HYa3.out.keep hbb); have HQa4 := Lib.hid (HQ0.out.keep hbb); have HZ0 := Lib.hid hz; have HT := Lib.hid ht; clear hz ht; clear hb hbb; have a4c0 : aw4.cell? ⟨W.heap.size, 0, none⟩ = some (.bool na) := FPa4.out.cell 0 0 rfl rfl; have a4c1 : aw4.cell? ⟨W.heap.size, 1, none⟩ = some (.slice ao la ca) := FPa4.out.cell 0 1 rfl rfl; have a4c2 : aw4.cell? ⟨W.heap.size, 2, none⟩ = some (.slice bo lb cb) := FPa4.out.cell 0 2 rfl rfl; have a4c3 : aw4.cell? ⟨W.heap.size + 1, 0, none⟩ = some (.bool nc) := FPa4.out.cell 1 0 rfl rfl; have a4c4 : aw4.cell? ⟨W.heap.size + 1, 1, none⟩ = some (.slice co lc cc) := FPa4.out.cell 1 1 rfl rfl; have a4c5 : aw4.cell? ⟨W.heap.size + 1, 2, none⟩ = some (.slice d_o ld cd) := FPa4.out.cell 1 2 rfl rfl; have a4c6 : aw4.cell? ⟨b11, 0, none⟩ = some (.bool n10) := BXa4.out.cell 0; have a4c7 : aw4.cell? ⟨b11, 1, none⟩ = some (.slice o10 l10 c10) := BXa4.out.cell 1; have az0 : aw4.cell? ⟨W.heap.size + 2, 0, none⟩ = some (.bool false) := FPa4.out.cell 2 0 rfl rfl; have az1 : aw4.cell? ⟨W.heap.size + 2, 1, none⟩ = some (.slice none 0 0) := FPa4.out.cell 2 1 rfl rfl; have az2 : aw4.cell? ⟨W.heap.size + 2, 2, none⟩ = some (.slice none 0 0) := FPa4.out.cell 2 2 rfl rfl; have azf0 : aw4.frozen? ⟨W.heap.size + 2, 0, none⟩ = false := FPa4.out.frozen 2 0 rfl; have azf1 : aw4.frozen? ⟨W.heap.size + 2, 1, none⟩ = false := FPa4.out.frozen 2 1 rfl; have azf2 : aw4.frozen? ⟨W.heap.size + 2, 2, none⟩ = false := FPa4.out.frozen 2 2 rfl) | (go_at_call 49; refine (reduced_L _ _ _ _ _ _ _ _ (p * (s : Int) + r * (q : Int)) ((q : Int) * (s : Int)) _ HXa2.out HY0.out (by omega) (by omega) hy0).mono ?_; rintro e aw3 ⟨n7, o7, l7, c7, u7, m7, d7, rfl, hl7, hm7, hz, hb⟩; have hbb := hb; have FPa3 := Lib.hid (FPa2.out.later hbb); have BXa3 := Lib.hid (BXa2.out.below hbb BXa2.out.lt); have HFa3 := Lib.hid (HFa2.out.keep hbb); have HGa3 := Lib.hid (HGa2.out.keep hbb); have HXa3 := Lib.hid (HXa2.out.keep hbb); have HDa3 := Lib.hid (HDa2.out.keep hbb); have HEa3 := Lib.hid (HEa2.out.keep hbb); have HYa3 := Lib.hid (HY0.out.keep hbb); have HQ0 := Lib.hid hz; clear hz; clear hb hbb; have a3c0 : aw3.cell? ⟨W.heap.size, 0, none⟩ = some (.bool na) := FPa3.out.cell 0 0 rfl rfl; have a3c1 : aw3.cell? ⟨W.heap.size, 1, none⟩ = some (.slice ao la ca) := FPa3.out.cell 0 1 rfl rfl; have a3c2 : aw3.cell? ⟨W.heap.size, 2, none⟩ = some (.slice bo lb cb) := FPa3.out.cell 0 2 rfl rfl; have a3c3 : aw3.cell? ⟨W.heap.size + 1, 0, none⟩ = some (.bool nc) := FPa3.out.cell 1 0 rfl rfl; have a3c4 : aw3.cell? ⟨W.heap.size + 1, 1, none⟩ = some (.slice co lc cc) := FPa3.out.cell 1 1 rfl rfl; have a3c5 : aw3.cell? ⟨W.heap.size + 1, 2, none⟩ = some (.slice d_o ld cd) := FPa3.out.cell 1 2 rfl rfl; have a3c6 : aw3.cell? ⟨b11, 0, none⟩ = some (.bool n10) := BXa3.out.cell 0; have a3c7 : aw3.cell? ⟨b11, 1, none⟩ = some (.slice o10 l10 c10) := BXa3.out.cell 1) | (go_at_call 59; refine (times_L _ _ _ _ _ _ _ _ ((q : Int)) ((s : Int)) _ HDa1.out HE0.out (by omega) (by omega)).mono ?_; rintro e aw2 ⟨n4, o4, l4, c4, rfl, hl4, hz, hb⟩; have hbb := hb; have FPa2 := Lib.hid (FPa1.out.later hbb); have BXa2 := Lib.hid (BXa1.out.below hbb BXa1.out.lt); have HFa2 := Lib.hid (HFa1.out.keep hbb); have HGa2 := Lib.hid (HGa1.out.keep hbb); have HXa2 := Lib.hid (HXa1.out.keep hbb); have HDa2 := Lib.hid (HDa1.out.keep hbb); have HEa2 := Lib.hid (HE0.out.keep hbb); have HY0 := Lib.hid hz; clear hz; clear hb hbb; have a2c0 : aw2.cell? ⟨W.heap.size, 0, none⟩ = some (.bool na) := FPa2.out.cell 0 0 rfl rfl; have a2c1 : aw2.cell? ⟨W.heap.size, 1, none⟩ = some (.slice ao la ca) := FPa2.out.cell 0 1 rfl rfl; have a2c2 : aw2.cell? ⟨W.heap.size, 2, none⟩ = some (.slice bo lb cb) := FPa2.out.cell 0 2 rfl rfl; have a2c3 : aw2.cell? ⟨W.heap.size + 1, 0, none⟩ = some (.bool nc) := FPa2.out.cell 1 0 rfl rfl; have a2c4 : aw2.cell? ⟨W.heap.size + 1, 1, none⟩ = some (.slice co lc cc) := FPa2.out.cell 1 1 rfl rfl; have a2c5 : aw2.cell? ⟨W.heap.size + 1, 2, none⟩ = some (.slice d_o ld cd) := FPa2.out.cell 1 2 rfl rfl; have a2c6 : aw2.cell? ⟨b11, 0, none⟩ = some (.bool n10) := BXa2.out.cell 0; have a2c7 : aw2.cell? ⟨b11, 1, none⟩ = some (.slice o10 l10 c10) := BXa2.out.cell 1) | (go_at_call 60; refine (den_L nc _ _ _ _ _ _ r s _ HGa0.out (by omega)).mono ?_; rintro e aw1 ⟨n3, o3, l3, c3, rfl, hl3, hz, hb⟩; have hbb := hb; have FPa1 := Lib.hid (FPa0.out.later hbb); have BXa1 := Lib.hid (BXa0.out.below hbb BXa0.out.lt); have HFa1 := Lib.hid (HFa0.out.keep hbb); have HGa1 := Lib.hid (HGa0.out.keep hbb); have HXa1 := Lib.hid (HXa0.out.keep hbb); have HDa1 := Lib.hid (HD0.out.keep hbb); have HE0 := Lib.hid hz; clear hz; clear hb hbb; have a1c0 : aw1.cell? ⟨W.heap.size, 0, none⟩ = some (.bool na) := FPa1.out.cell 0 0 rfl rfl; have a1c1 : aw1.cell? ⟨W.heap.size, 1, none⟩ = some (.slice ao la ca) := FPa1.out.cell 0 1 rfl rfl; have a1c2 : aw1.cell? ⟨W.heap.size, 2, none⟩ = some (.slice bo lb cb) := FPa1.out.cell 0 2 rfl rfl; have a1c3 : aw1.cell? ⟨W.heap.size + 1, 0, none⟩ = some (.bool nc) := FPa1.out.cell 1 0 rfl rfl; have a1c4 : aw1.cell? ⟨W.heap.size + 1, 1, none⟩ = some (.slice co lc cc) := FPa1.out.cell 1 1 rfl rfl; have a1c5 : aw1.cell? ⟨W.heap.size + 1, 2, none⟩ = some (.slice d_o ld cd) := FPa1.out.cell 1 2 rfl rfl; have a1c6 : aw1.cell? ⟨b11, 0, none⟩ = some (.bool n10) := BXa1.out.cell 0; have a1c7 : aw1.cell? ⟨b11, 1, none⟩ = some (.slice o10 l10 c10) := BXa1.out.cell 1) | (go_at_call 60; refine (den_L na _ _ _ _ _ _ p q w1.drew (HF1.out.keep (Below.refl _ _).drew) (by omega)).mono ?_; rintro e aw0 ⟨n2, o2, l2, c2, rfl, hl2, hz, hb⟩; have hbb := below_of_drew hb; have FPa0 := Lib.hid (FP1.out.later hbb); have BXa0 := Lib.hid (BX1.out.below hbb BX1.out.lt); have HFa0 := Lib.hid (HF1.out.keep hbb); have HGa0 := Lib.hid (HG1.out.keep hbb); have HXa0 := Lib.hid (HX1.out.keep hbb); have HD0 := Lib.hid hz; clear hz; clear hb hbb; have a0c0 : aw0.cell? ⟨W.heap.size, 0, none⟩ = some (.bool na) := FPa0.out.cell 0 0 rfl rfl; have a0c1 : aw0.cell? ⟨W.heap.size, 1, none⟩ = some (.slice ao la ca) := FPa0.out.cell 0 1 rfl rfl; have a0c2 : aw0.cell? ⟨W.heap.size, 2, none⟩ = some (.slice bo lb cb) := FPa0.out.cell 0 2 rfl rfl; have a0c3 : aw0.cell? ⟨W.heap.size + 1, 0, none⟩ = some (.bool nc) := FPa0.out.cell 1 0 rfl rfl; have a0c4 : aw0.cell? ⟨W.heap.size + 1, 1, none⟩ = some (.slice co lc cc) := FPa0.out.cell 1 1 rfl rfl; have a0c5 : aw0.cell? ⟨W.heap.size + 1, 2, none⟩ = some (.slice d_o ld cd) := FPa0.out.cell 1 2 rfl rfl; have a0c6 : aw0.cell? ⟨b11, 0, none⟩ = some (.bool n10) := BXa0.out.cell 0; have a0c7 : aw0.cell? ⟨b11, 1, none⟩ = some (.slice o10 l10 c10) := BXa0.out.cell 1))
  go_wp2
  obtain ⟨e0, e1, e2, hq, hbel⟩ := FPa4.out.finQ (cap := c8) (bc := d8) 2 rfl HZ0.out
  exact bodyPost_ret (v := .tuple #[.agg #[.bool n8, .slice o8 l8 c8, .slice u8 m8 d8], .int .i64 e8]) (by simp [results, Tryz.results15, go_sem, e0, e1, e2]) rfl ⟨n8, o8, l8, c8, u8, m8, d8, e8, P8, Q8, rfl, hl8, hm8, hq, hbel, HT.out⟩
end Go.Proofs.YtcgnmihabkgecaaGreat

/- Quo of fractions. -/
set_option linter.unusedVariables false
namespace Go.Proofs.YtcgnmihabkgecaaGreat
open Go.RowKit Go.Proofs

set_option maxRecDepth 4000 in
set_option maxHeartbeats 2000000 in
theorem ratQuo_any (na nc : Bool) (ao bo co d_o : Option Addr) (la lb lc ld ca cb cc cd : Nat) (p r : Int) (q s : Nat) (W : World) (hf0 : Q32 W na ao la bo lb p q) (hg0 : Q32 W nc co lc d_o ld r s) (hla : la ≤ 100000) (hlb : lb ≤ 100000) (hlc : lc ≤ 100000) (hld : ld ≤ 100000) (hr : r ≠ 0) :
    Calls Tryz.prog 20 #[.agg #[.bool na, .slice ao la ca, .slice bo lb cb], .agg #[.bool nc, .slice co lc cc, .slice d_o ld cd]] W (OutTQ W (lowP (p * (s : Int)) ((q : Int) * r)) (lowQ (p * (s : Int)) ((q : Int) * r))) := by
  have hf : Fr W (((W.alloc (.cells #[.bool na, .slice ao la ca, .slice bo lb cb] 27)).alloc (.cells #[.bool nc, .slice co lc cc, .slice d_o ld cd] 27)).alloc (.cells #[.bool false, .slice none 0 0, .slice none 0 0] 27)) [(27, #[.bool na, .slice ao la ca, .slice bo lb cb]), (27, #[.bool nc, .slice co lc cc, .slice d_o ld cd]), (27, #[.bool false, .slice none 0 0, .slice none 0 0])] := (((Fr.nil W).alloc rfl _ _).alloc (by simp) _ _).alloc (by simp) _ _
  have hy0 : (q : Int) * r ≠ 0 := by
    have h1 := hf0.pos
    exact Int.mul_ne_zero (by omega) hr
  have HF := Lib.hid hf
  have HF_0 := Lib.hid (hf0.keep hf.below)
  have HG_0 := Lib.hid (hg0.keep hf.below)
  clear hf hf0 hg0
  go_enter Tryz.func20, Tryz.ntmps20
  go_wp2_with fail
  obtain ⟨V, hV⟩ : ∃ V, V = (((W.alloc (.cells #[.bool na, .slice ao la ca, .slice bo lb cb] 27)).alloc (.cells #[.bool nc, .slice co lc cc, .slice d_o ld cd] 27)).alloc (.cells #[.bool false, .slice none 0 0, .slice none 0 0] 27)) := ⟨_, rfl⟩
  rw [← hV] at HF HF_0 HG_0 ⊢
  clear hV
  obtain ⟨t, ht⟩ : ∃ t, t = r.sign := ⟨_, rfl⟩
  have ht0 : (t == 0) = false := by
    have : r.sign ≠ 0 := fun h => hr (Int.sign_eq_zero_iff_zero.1 h)
    rw [ht]; simp [this]
  refine (ratSign_any nc co d_o lc ld cc cd r s V HG_0.out).mono ?_
  rw [← ht]
  rintro e w1 ⟨rfl, hb⟩
  clear ht
  have FP1 := Lib.hid (HF.out.later hb)
  have HF1 := Lib.hid (HF_0.out.keep hb)
  have HG1 := Lib.hid (HG_0.out.keep hb)
  clear hb
  go_wp2_with fail
  have qq0 : w1.cell? ⟨W.heap.size, 0, none⟩ = some (.bool na) := FP1.out.cell 0 0 rfl rfl
  have qq1 : w1.cell? ⟨W.heap.size, 1, none⟩ = some (.slice ao la ca) := FP1.out.cell 0 1 rfl rfl
  have qq2 : w1.cell? ⟨W.heap.size, 2, none⟩ = some (.slice bo lb cb) := FP1.out.cell 0 2 rfl rfl
  have qq3 : w1.cell? ⟨W.heap.size + 1, 0, none⟩ = some (.bool nc) := FP1.out.cell 1 0 rfl rfl
  have qq4 : w1.cell? ⟨W.heap.size + 1, 1, none⟩ = some (.slice co lc cc) := FP1.out.cell 1 1 rfl rfl
  have qq5 : w1.cell? ⟨W.heap.size + 1, 2, none⟩ = some (.slice d_o ld cd) := FP1.out.cell 1 2 rfl rfl
  go_region_held3 (fun w' => w'.cell? ⟨W.heap.size, 0, none⟩ = some (.bool na) ∧ w'.cell? ⟨W.heap.size, 1, none⟩ = some (.slice ao la ca) ∧ w'.cell? ⟨W.heap.size, 2, none⟩ = some (.slice bo lb cb) ∧ w'.cell? ⟨W.heap.size + 1, 0, none⟩ = some (.bool nc) ∧ w'.cell? ⟨W.heap.size + 1, 1, none⟩ = some (.slice co lc cc) ∧ w'.cell? ⟨W.heap.size + 1, 2, none⟩ = some (.slice d_o ld cd)) (first | (go_keep; done) | ((try dsimp only); (repeat' apply And.intro) <;> (first | (go_keep; done) | (rw [cell_set3 _ _ _ _ _ _ _ (by omega)]; assumption) | (rw [cell_set2 _ _ _ _ _ _ (by omega)]; assumption))))
    (first | (go_at_call 48; refine ((fittingRat_any _ _ _ _ _ _ _ (lowP (p * (s : Int)) ((q : Int) * r)) (lowQ (p * (s : Int)) ((q : Int) * r)) _ HQ0.out (by omega) (by omega)).mono fun e w h => h.told).mono ?_; rintro e qw5 ⟨n8, o8, l8, c8, u8, m8, d8, e8, P8, Q8, rfl, hl8, hm8, hz, hb, ht⟩; have hbb := hb; have FPq5 := Lib.hid (FPq4.out.later hbb); have HFq5 := Lib.hid (HFq4.out.keep hbb); have HGq5 := Lib.hid (HGq4.out.keep hbb); have HDq5 := Lib.hid (HDq4.out.keep hbb); have HXq5 := Lib.hid (HXq4.out.keep hbb); have HEq5 := Lib.hid (HEq4.out.keep hbb); have HYq5 := Lib.hid (HYq4.out.keep hbb); have HQq5 := Lib.hid (HQ0.out.keep hbb); have HZ0 := Lib.hid hz; have HT := Lib.hid ht; clear hz ht; clear hb hbb; have q5c0 : qw5.cell? ⟨W.heap.size, 0, none⟩ = some (.bool na) := FPq5.out.cell 0 0 rfl rfl; have q5c1 : qw5.cell? ⟨W.heap.size, 1, none⟩ = some (.slice ao la ca) := FPq5.out.cell 0 1 rfl rfl; have q5c2 : qw5.cell? ⟨W.heap.size, 2, none⟩ = some (.slice bo lb cb) := FPq5.out.cell 0 2 rfl rfl; have q5c3 : qw5.cell? ⟨W.heap.size + 1, 0, none⟩ = some (.bool nc) := FPq5.out.cell 1 0 rfl rfl; have q5c4 : qw5.cell? ⟨W.heap.size + 1, 1, none⟩ = some (.slice co lc cc) := FPq5.out.cell 1 1 rfl rfl; have q5c5 : qw5.cell? ⟨W.heap.size + 1, 2, none⟩ = some (.slice d_o ld cd) := FPq5.out.cell 1 2 rfl rfl; have qz0 : qw5.cell? ⟨W.heap.size + 2, 0, none⟩ = some (.bool false) := FPq5.out.cell 2 0 rfl rfl; have qz1 : qw5.cell? ⟨W.heap.size + 2, 1, none⟩ = some (.slice none 0 0) := FPq5.out.cell 2 1 rfl rfl; have qz2 : qw5.cell? ⟨W.heap.size + 2, 2, none⟩ = some (.slice none 0 0) := FPq5.out.cell 2 2 rfl rfl; have qzf0 : qw5.frozen? ⟨W.heap.size + 2, 0, none⟩ = false := FPq5.out.frozen 2 0 rfl; have qzf1 : qw5.frozen? ⟨W.heap.size + 2, 1, none⟩ = false := FPq5.out.frozen 2 1 rfl; have qzf2 : qw5.frozen? ⟨W.heap.size + 2, 2, none⟩ = false := FPq5.out.frozen 2 2 rfl) | (go_at_call 49; refine (reduced_L _ _ _ _ _ _ _ _ (p * (s : Int)) ((q : Int) * r) _ HXq3.out HY0.out (by omega) (by omega) hy0).mono ?_; rintro e qw4 ⟨n7, o7, l7, c7, u7, m7, d7, rfl, hl7, hm7, hz, hb⟩; have hbb := hb; have FPq4 := Lib.hid (FPq3.out.later hbb); have HFq4 := Lib.hid (HFq3.out.keep hbb); have HGq4 := Lib.hid (HGq3.out.keep hbb); have HDq4 := Lib.hid (HDq3.out.keep hbb); have HXq4 := Lib.hid (HXq3.out.keep hbb); have HEq4 := Lib.hid (HEq3.out.keep hbb); have HYq4 := Lib.hid (HY0.out.keep hbb); have HQ0 := Lib.hid hz; clear hz; clear hb hbb; have q4c0 : qw4.cell? ⟨W.heap.size, 0, none⟩ = some (.bool na) := FPq4.out.cell 0 0 rfl rfl; have q4c1 : qw4.cell? ⟨W.heap.size, 1, none⟩ = some (.slice ao la ca) := FPq4.out.cell 0 1 rfl rfl; have q4c2 : qw4.cell? ⟨W.heap.size, 2, none⟩ = some (.slice bo lb cb) := FPq4.out.cell 0 2 rfl rfl; have q4c3 : qw4.cell? ⟨W.heap.size + 1, 0, none⟩ = some (.bool nc) := FPq4.out.cell 1 0 rfl rfl; have q4c4 : qw4.cell? ⟨W.heap.size + 1, 1, none⟩ = some (.slice co lc cc) := FPq4.out.cell 1 1 rfl rfl; have q4c5 : qw4.cell? ⟨W.heap.size + 1, 2, none⟩ = some (.slice d_o ld cd) := FPq4.out.cell 1 2 rfl rfl) | (go_at_call 59; refine (times_L _ _ _ _ _ _ _ _ ((q : Int)) (r) _ HE0.out (HGq2.out).1 (by omega) (by omega)).mono ?_; rintro e qw3 ⟨n5, o5, l5, c5, rfl, hl5, hz, hb⟩; have hbb := hb; have FPq3 := Lib.hid (FPq2.out.later hbb); have HFq3 := Lib.hid (HFq2.out.keep hbb); have HGq3 := Lib.hid (HGq2.out.keep hbb); have HDq3 := Lib.hid (HDq2.out.keep hbb); have HXq3 := Lib.hid (HXq2.out.keep hbb); have HEq3 := Lib.hid (HE0.out.keep hbb); have HY0 := Lib.hid hz; clear hz; clear hb hbb; have q3c0 : qw3.cell? ⟨W.heap.size, 0, none⟩ = some (.bool na) := FPq3.out.cell 0 0 rfl rfl; have q3c1 : qw3.cell? ⟨W.heap.size, 1, none⟩ = some (.slice ao la ca) := FPq3.out.cell 0 1 rfl rfl; have q3c2 : qw3.cell? ⟨W.heap.size, 2, none⟩ = some (.slice bo lb cb) := FPq3.out.cell 0 2 rfl rfl; have q3c3 : qw3.cell? ⟨W.heap.size + 1, 0, none⟩ = some (.bool nc) := FPq3.out.cell 1 0 rfl rfl; have q3c4 : qw3.cell? ⟨W.heap.size + 1, 1, none⟩ = some (.slice co lc cc) := FPq3.out.cell 1 1 rfl rfl; have q3c5 : qw3.cell? ⟨W.heap.size + 1, 2, none⟩ = some (.slice d_o ld cd) := FPq3.out.cell 1 2 rfl rfl) | (go_at_call 60; refine (den_L na _ _ _ _ _ _ p q _ HFq1.out (by omega)).mono ?_; rintro e qw2 ⟨n4, o4, l4, c4, rfl, hl4, hz, hb⟩; have hbb := hb; have FPq2 := Lib.hid (FPq1.out.later hbb); have HFq2 := Lib.hid (HFq1.out.keep hbb); have HGq2 := Lib.hid (HGq1.out.keep hbb); have HDq2 := Lib.hid (HDq1.out.keep hbb); have HXq2 := Lib.hid (HX0.out.keep hbb); have HE0 := Lib.hid hz; clear hz; clear hb hbb; have q2c0 : qw2.cell? ⟨W.heap.size, 0, none⟩ = some (.bool na) := FPq2.out.cell 0 0 rfl rfl; have q2c1 : qw2.cell? ⟨W.heap.size, 1, none⟩ = some (.slice ao la ca) := FPq2.out.cell 0 1 rfl rfl; have q2c2 : qw2.cell? ⟨W.heap.size, 2, none⟩ = some (.slice bo lb cb) := FPq2.out.cell 0 2 rfl rfl; have q2c3 : qw2.cell? ⟨W.heap.size + 1, 0, none⟩ = some (.bool nc) := FPq2.out.cell 1 0 rfl rfl; have q2c4 : qw2.cell? ⟨W.heap.size + 1, 1, none⟩ = some (.slice co lc cc) := FPq2.out.cell 1 1 rfl rfl; have q2c5 : qw2.cell? ⟨W.heap.size + 1, 2, none⟩ = some (.slice d_o ld cd) := FPq2.out.cell 1 2 rfl rfl) | (go_at_call 59; refine (times_L _ _ _ _ _ _ _ _ (p) ((s : Int)) _ (HFq0.out).1 HD0.out (by omega) (by omega)).mono ?_; rintro e qw1 ⟨n3, o3, l3, c3, rfl, hl3, hz, hb⟩; have hbb := hb; have FPq1 := Lib.hid (FPq0.out.later hbb); have HFq1 := Lib.hid (HFq0.out.keep hbb); have HGq1 := Lib.hid (HGq0.out.keep hbb); have HDq1 := Lib.hid (HD0.out.keep hbb); have HX0 := Lib.hid hz; clear hz; clear hb hbb; have q1c0 : qw1.cell? ⟨W.heap.size, 0, none⟩ = some (.bool na) := FPq1.out.cell 0 0 rfl rfl; have q1c1 : qw1.cell? ⟨W.heap.size, 1, none⟩ = some (.slice ao la ca) := FPq1.out.cell 0 1 rfl rfl; have q1c2 : qw1.cell? ⟨W.heap.size, 2, none⟩ = some (.slice bo lb cb) := FPq1.out.cell 0 2 rfl rfl; have q1c3 : qw1.cell? ⟨W.heap.size + 1, 0, none⟩ = some (.bool nc) := FPq1.out.cell 1 0 rfl rfl; have q1c4 : qw1.cell? ⟨W.heap.size + 1, 1, none⟩ = some (.slice co lc cc) := FPq1.out.cell 1 1 rfl rfl; have q1c5 : qw1.cell? ⟨W.heap.size + 1, 2, none⟩ = some (.slice d_o ld cd) := FPq1.out.cell 1 2 rfl rfl) | (go_at_call 60; refine (den_L nc _ _ _ _ _ _ r s w1.drew (HG1.out.keep (Below.refl _ _).drew) (by omega)).mono ?_; rintro e qw0 ⟨n2, o2, l2, c2, rfl, hl2, hz, hb⟩; have hbb := below_of_drew hb; have FPq0 := Lib.hid (FP1.out.later hbb); have HFq0 := Lib.hid (HF1.out.keep hbb); have HGq0 := Lib.hid (HG1.out.keep hbb); have HD0 := Lib.hid hz; clear hz; clear hb hbb; have q0c0 : qw0.cell? ⟨W.heap.size, 0, none⟩ = some (.bool na) := FPq0.out.cell 0 0 rfl rfl; have q0c1 : qw0.cell? ⟨W.heap.size, 1, none⟩ = some (.slice ao la ca) := FPq0.out.cell 0 1 rfl rfl; have q0c2 : qw0.cell? ⟨W.heap.size, 2, none⟩ = some (.slice bo lb cb) := FPq0.out.cell 0 2 rfl rfl; have q0c3 : qw0.cell? ⟨W.heap.size + 1, 0, none⟩ = some (.bool nc) := FPq0.out.cell 1 0 rfl rfl; have q0c4 : qw0.cell? ⟨W.heap.size + 1, 1, none⟩ = some (.slice co lc cc) := FPq0.out.cell 1 1 rfl rfl; have q0c5 : qw0.cell? ⟨W.heap.size + 1, 2, none⟩ = some (.slice d_o ld cd) := FPq0.out.cell 1 2 rfl rfl))
  go_wp2
  obtain ⟨e0, e1, e2, hq, hbel⟩ := FPq5.out.finQ (cap := c8) (bc := d8) 2 rfl HZ0.out
  exact bodyPost_ret (v := .tuple #[.agg #[.bool n8, .slice o8 l8 c8, .slice u8 m8 d8], .int .i64 e8]) (by simp [results, Tryz.results20, go_sem, e0, e1, e2]) rfl ⟨n8, o8, l8, c8, u8, m8, d8, e8, P8, Q8, rfl, hl8, hm8, hq, hbel, HT.out⟩

set_option maxHeartbeats 1000000 in
theorem ratQuo_zero (na nc : Bool) (ao bo co d_o : Option Addr) (la lb lc ld ca cb cc cd : Nat) (s : Nat) (W : World) (hg0 : Q32 W nc co lc d_o ld 0 s) :
    Calls Tryz.prog 20 #[.agg #[.bool na, .slice ao la ca, .slice bo lb cb], .agg #[.bool nc, .slice co lc cc, .slice d_o ld cd]] W (fun e w' => e = .returned (.tuple #[.agg #[.bool false, .slice none 0 0, .slice none 0 0], .int .i64 10]) ∧ Below W.heap.size W w') := by
  have hf : Fr W (((W.alloc (.cells #[.bool na, .slice ao la ca, .slice bo lb cb] 27)).alloc (.cells #[.bool nc, .slice co lc cc, .slice d_o ld cd] 27)).alloc (.cells #[.bool false, .slice none 0 0, .slice none 0 0] 27)) [(27, #[.bool na, .slice ao la ca, .slice bo lb cb]), (27, #[.bool nc, .slice co lc cc, .slice d_o ld cd]), (27, #[.bool false, .slice none 0 0, .slice none 0 0])] := (((Fr.nil W).alloc rfl _ _).alloc (by simp) _ _).alloc (by simp) _ _
  have HF := Lib.hid hf
  have HG_0 := Lib.hid (hg0.keep hf.below)
  clear hf hg0
  go_enter Tryz.func20, Tryz.ntmps20
  go_wp2_with fail
  obtain ⟨V, hV⟩ : ∃ V, V = (((W.alloc (.cells #[.bool na, .slice ao la ca, .slice bo lb cb] 27)).alloc (.cells #[.bool nc, .slice co lc cc, .slice d_o ld cd] 27)).alloc (.cells #[.bool false, .slice none 0 0, .slice none 0 0] 27)) := ⟨_, rfl⟩
  rw [← hV] at HF HG_0 ⊢
  clear hV
  refine (ratSign_any nc co d_o lc ld cc cd 0 s V HG_0.out).mono ?_
  rintro e w1 ⟨rfl, hb⟩
  have HF1 := Lib.hid (HF.out.later hb)
  clear hb
  have g0 : w1.cell? ⟨W.heap.size + 2, 0, none⟩ = some (.bool false) := HF1.out.cell 2 0 rfl rfl
  have g1 : w1.cell? ⟨W.heap.size + 2, 1, none⟩ = some (.slice none 0 0) := HF1.out.cell 2 1 rfl rfl
  have g2 : w1.cell? ⟨W.heap.size + 2, 2, none⟩ = some (.slice none 0 0) := HF1.out.cell 2 2 rfl rfl
  have gf0 : w1.frozen? ⟨W.heap.size + 2, 0, none⟩ = false := HF1.out.frozen 2 0 rfl
  have gf1 : w1.frozen? ⟨W.heap.size + 2, 1, none⟩ = false := HF1.out.frozen 2 1 rfl
  have gf2 : w1.frozen? ⟨W.heap.size + 2, 2, none⟩ = false := HF1.out.frozen 2 2 rfl
  go_wp2
  obtain ⟨e0, e1, e2, hq, hbel⟩ := HF1.out.finQ (cap := 0) (bc := 0) (neg := false) (ao := none) (len := 0) (bo := none) (bl := 0) (p := 0) (q := 1) 2 rfl ⟨Z32.nil _, .inl ⟨rfl, rfl⟩⟩
  exact bodyPost_ret (v := .tuple #[.agg #[.bool false, .slice none 0 0, .slice none 0 0], .int .i64 10]) (by simp [results, Tryz.results20, go_sem, e0, e1, e2]) rfl ⟨rfl, hbel⟩
end Go.Proofs.YtcgnmihabkgecaaGreat

/- Neg and Cmp of fractions. -/
set_option linter.unusedVariables false
namespace Go.Proofs.YtcgnmihabkgecaaGreat
open Go.RowKit Go.Proofs

theorem Q32.den2 {W : World} {na : Bool} {ao bo : Option Addr} {la lb : Nat} {p : Int} {q : Nat} (h : Q32 W na ao la bo lb p q) : ∃ d, N32 W bo lb d ∧ ((lb = 0 ∧ q = 1) ∨ (d = q ∧ 1 < q)) := by
  rcases h.2 with ⟨h1, h2⟩ | ⟨h1, h2⟩
  · exact ⟨0, by rw [h1]; exact N32.nil _ _, .inl ⟨h1, h2⟩⟩
  · exact ⟨q, h1, .inr ⟨rfl, h2⟩⟩

set_option maxRecDepth 4000 in
set_option maxHeartbeats 2000000 in
theorem ratNeg_any (na : Bool) (ao bo : Option Addr) (la lb ca cb : Nat) (p : Int) (q : Nat) (W : World) (hf0 : Q32 W na ao la bo lb p q) (hla : la ≤ 1000000000) (hlb : lb ≤ 1000000000) :
    Calls Tryz.prog 24 #[.agg #[.bool na, .slice ao la ca, .slice bo lb cb]] W (OutQL W (-p) q la lb) := by
  have hf : Fr W ((W.alloc (.cells #[.bool na, .slice ao la ca, .slice bo lb cb] 27)).alloc (.cells #[.bool false, .slice none 0 0, .slice none 0 0] 27)) [(27, #[.bool na, .slice ao la ca, .slice bo lb cb]), (27, #[.bool false, .slice none 0 0, .slice none 0 0])] := ((Fr.nil W).alloc rfl _ _).alloc (by simp) _ _
  obtain ⟨d, hd, hdq⟩ := hf0.den2
  have hplt : (-p).natAbs < B32 ^ la := by rw [Int.natAbs_neg]; exact hf0.1.n32.lt
  have HPLT := Lib.hid hplt
  clear hplt
  have HF := Lib.hid hf
  have HF_0 := Lib.hid (hf0.keep hf.below)
  have HE_0 := Lib.hid (hd.keep hf.below)
  clear hf hf0 hd
  go_enter Tryz.func24, Tryz.ntmps24
  go_wp2_with fail
  obtain ⟨V, hV⟩ : ∃ V, V = ((W.alloc (.cells #[.bool na, .slice ao la ca, .slice bo lb cb] 27)).alloc (.cells #[.bool false, .slice none 0 0, .slice none 0 0] 27)) := ⟨_, rfl⟩
  rw [← hV] at HF HF_0 HE_0 ⊢
  clear hV
  have qq0 : V.cell? ⟨W.heap.size, 0, none⟩ = some (.bool na) := HF.out.cell 0 0 rfl rfl
  have qq1 : V.cell? ⟨W.heap.size, 1, none⟩ = some (.slice ao la ca) := HF.out.cell 0 1 rfl rfl
  have qq2 : V.cell? ⟨W.heap.size, 2, none⟩ = some (.slice bo lb cb) := HF.out.cell 0 2 rfl rfl
  go_region_held3 (fun w' => w'.cell? ⟨W.heap.size, 0, none⟩ = some (.bool na) ∧ w'.cell? ⟨W.heap.size, 1, none⟩ = some (.slice ao la ca) ∧ w'.cell? ⟨W.heap.size, 2, none⟩ = some (.slice bo lb cb)) (first | (go_keep; done) | ((try dsimp only); (repeat' apply And.intro) <;> (first | (go_keep; done) | (rw [cell_set3 _ _ _ _ _ _ _ (by omega)]; assumption) | (rw [cell_set2 _ _ _ _ _ _ (by omega)]; assumption))))
    (first | (go_at_call 70; refine (duplicate_n _ _ _ d _ HEn0.out hlb).mono ?_; rintro e nw1 ⟨o2, c2, rfl, hz, hb⟩; have hbb := hb; have FPn1 := Lib.hid (FPn0.out.later hbb); have HFn1 := Lib.hid (HFn0.out.keep hbb); have HEn1 := Lib.hid (HEn0.out.keep hbb); have HXn1 := Lib.hid (HX0.out.keep hbb); have HY0 := Lib.hid hz; clear hz; clear hb hbb; have n1c0 : nw1.cell? ⟨W.heap.size, 0, none⟩ = some (.bool na) := FPn1.out.cell 0 0 rfl rfl; have n1c1 : nw1.cell? ⟨W.heap.size, 1, none⟩ = some (.slice ao la ca) := FPn1.out.cell 0 1 rfl rfl; have n1c2 : nw1.cell? ⟨W.heap.size, 2, none⟩ = some (.slice bo lb cb) := FPn1.out.cell 0 2 rfl rfl; have nz0 : nw1.cell? ⟨W.heap.size + 1, 0, none⟩ = some (.bool false) := FPn1.out.cell 1 0 rfl rfl; have nz1 : nw1.cell? ⟨W.heap.size + 1, 1, none⟩ = some (.slice none 0 0) := FPn1.out.cell 1 1 rfl rfl; have nz2 : nw1.cell? ⟨W.heap.size + 1, 2, none⟩ = some (.slice none 0 0) := FPn1.out.cell 1 2 rfl rfl; have nzf0 : nw1.frozen? ⟨W.heap.size + 1, 0, none⟩ = false := FPn1.out.frozen 1 0 rfl; have nzf1 : nw1.frozen? ⟨W.heap.size + 1, 1, none⟩ = false := FPn1.out.frozen 1 1 rfl; have nzf2 : nw1.frozen? ⟨W.heap.size + 1, 2, none⟩ = false := FPn1.out.frozen 1 2 rfl) | (go_at_call 69; refine ((neg_any _ _ _ _ p V.drew ((HF_0.out.keep (Below.refl _ _).drew)).1 hla).mono fun e w h => OutI.len h HPLT.out).mono ?_; rintro e nw0 ⟨n1, o1, l1, c1, rfl, hl1, hz, hb⟩; have hbb := below_of_drew hb; have FPn0 := Lib.hid (HF.out.later hbb); have HFn0 := Lib.hid (HF_0.out.keep hbb); have HEn0 := Lib.hid (HE_0.out.keep hbb); have HX0 := Lib.hid hz; clear hz; clear hb hbb; have n0c0 : nw0.cell? ⟨W.heap.size, 0, none⟩ = some (.bool na) := FPn0.out.cell 0 0 rfl rfl; have n0c1 : nw0.cell? ⟨W.heap.size, 1, none⟩ = some (.slice ao la ca) := FPn0.out.cell 0 1 rfl rfl; have n0c2 : nw0.cell? ⟨W.heap.size, 2, none⟩ = some (.slice bo lb cb) := FPn0.out.cell 0 2 rfl rfl))
  go_wp2
  have HQ : Q32 nw1 n1 o1 l1 o2 lb (-p) q := ⟨HXn1.out, hdq.elim .inl fun h => .inr ⟨h.1 ▸ HY0.out, h.2⟩⟩
  obtain ⟨e0, e1, e2, hq, hbel⟩ := FPn1.out.finQ (cap := c1) (bc := c2) 1 rfl HQ
  exact bodyPost_ret (v := .agg #[.bool n1, .slice o1 l1 c1, .slice o2 lb c2]) (by simp [results, Tryz.results24, go_sem, e0, e1, e2]) rfl ⟨n1, o1, l1, c1, o2, lb, c2, rfl, hl1, Nat.le_refl _, hq, hbel⟩

set_option maxRecDepth 4000 in
set_option maxHeartbeats 2000000 in
theorem ratCmp_any (na nc : Bool) (ao bo co d_o : Option Addr) (la lb lc ld ca cb cc cd : Nat) (p r : Int) (q s : Nat) (W : World) (hf0 : Q32 W na ao la bo lb p q) (hg0 : Q32 W nc co lc d_o ld r s) (hla : la ≤ 100000) (hlb : lb ≤ 100000) (hlc : lc ≤ 100000) (hld : ld ≤ 100000) :
    Calls Tryz.prog 19 #[.agg #[.bool na, .slice ao la ca, .slice bo lb cb], .agg #[.bool nc, .slice co lc cc, .slice d_o ld cd]] W (fun e w' => e = .returned (.int .i64 (p * (s : Int) - r * (q : Int)).sign) ∧ Below W.heap.size W w') := by
  have hf : Fr W ((W.alloc (.cells #[.bool na, .slice ao la ca, .slice bo lb cb] 27)).alloc (.cells #[.bool nc, .slice co lc cc, .slice d_o ld cd] 27)) [(27, #[.bool na, .slice ao la ca, .slice bo lb cb]), (27, #[.bool nc, .slice co lc cc, .slice d_o ld cd])] := ((Fr.nil W).alloc rfl _ _).alloc (by simp) _ _
  have HF := Lib.hid hf
  have HF_0 := Lib.hid (hf0.keep hf.below)
  have HG_0 := Lib.hid (hg0.keep hf.below)
  clear hf hf0 hg0
  go_enter Tryz.func19, Tryz.ntmps19
  go_wp2_with fail
  obtain ⟨V, hV⟩ : ∃ V, V = ((W.alloc (.cells #[.bool na, .slice ao la ca, .slice bo lb cb] 27)).alloc (.cells #[.bool nc, .slice co lc cc, .slice d_o ld cd] 27)) := ⟨_, rfl⟩
  rw [← hV] at HF HF_0 HG_0 ⊢
  clear hV
  have qq0 : V.cell? ⟨W.heap.size, 0, none⟩ = some (.bool na) := HF.out.cell 0 0 rfl rfl
  have qq1 : V.cell? ⟨W.heap.size, 1, none⟩ = some (.slice ao la ca) := HF.out.cell 0 1 rfl rfl
  have qq2 : V.cell? ⟨W.heap.size, 2, none⟩ = some (.slice bo lb cb) := HF.out.cell 0 2 rfl rfl
  have qq3 : V.cell? ⟨W.heap.size + 1, 0, none⟩ = some (.bool nc) := HF.out.cell 1 0 rfl rfl
  have qq4 : V.cell? ⟨W.heap.size + 1, 1, none⟩ = some (.slice co lc cc) := HF.out.cell 1 1 rfl rfl
  have qq5 : V.cell? ⟨W.heap.size + 1, 2, none⟩ = some (.slice d_o ld cd) := HF.out.cell 1 2 rfl rfl
  go_region_held3 (fun w' => w'.cell? ⟨W.heap.size, 0, none⟩ = some (.bool na) ∧ w'.cell? ⟨W.heap.size, 1, none⟩ = some (.slice ao la ca) ∧ w'.cell? ⟨W.heap.size, 2, none⟩ = some (.slice bo lb cb) ∧ w'.cell? ⟨W.heap.size + 1, 0, none⟩ = some (.bool nc) ∧ w'.cell? ⟨W.heap.size + 1, 1, none⟩ = some (.slice co lc cc) ∧ w'.cell? ⟨W.heap.size + 1, 2, none⟩ = some (.slice d_o ld cd)) (first | (go_keep; done) | ((try dsimp only); (repeat' apply And.intro) <;> (first | (go_keep; done) | (rw [cell_set3 _ _ _ _ _ _ _ (by omega)]; assumption) | (rw [cell_set2 _ _ _ _ _ _ (by omega)]; assumption))))
    (first | (go_at_call 61; refine (cmpI_any _ _ _ _ _ _ _ _ (p * (s : Int)) (r * (q : Int)) _ HXk3.out HY0.out (by omega) (by omega)).mono ?_; rintro e kw4 ⟨rfl, hb⟩; have hbb := hb; have FPk4 := Lib.hid (FPk3.out.later hbb); have HFk4 := Lib.hid (HFk3.out.keep hbb); have HGk4 := Lib.hid (HGk3.out.keep hbb); have HDk4 := Lib.hid (HDk3.out.keep hbb); have HXk4 := Lib.hid (HXk3.out.keep hbb); have HEk4 := Lib.hid (HEk3.out.keep hbb); have HYk4 := Lib.hid (HY0.out.keep hbb); clear hb hbb; have k4c0 : kw4.cell? ⟨W.heap.size, 0, none⟩ = some (.bool na) := FPk4.out.cell 0 0 rfl rfl; have k4c1 : kw4.cell? ⟨W.heap.size, 1, none⟩ = some (.slice ao la ca) := FPk4.out.cell 0 1 rfl rfl; have k4c2 : kw4.cell? ⟨W.heap.size, 2, none⟩ = some (.slice bo lb cb) := FPk4.out.cell 0 2 rfl rfl; have k4c3 : kw4.cell? ⟨W.heap.size + 1, 0, none⟩ = some (.bool nc) := FPk4.out.cell 1 0 rfl rfl; have k4c4 : kw4.cell? ⟨W.heap.size + 1, 1, none⟩ = some (.slice co lc cc) := FPk4.out.cell 1 1 rfl rfl; have k4c5 : kw4.cell? ⟨W.heap.size + 1, 2, none⟩ = some (.slice d_o ld cd) := FPk4.out.cell 1 2 rfl rfl) | (go_at_call 59; refine (times_L _ _ _ _ _ _ _ _ (r) ((q : Int)) _ (HGk2.out).1 HE0.out (by omega) (by omega)).mono ?_; rintro e kw3 ⟨n5, o5, l5, c5, rfl, hl5, hz, hb⟩; have hbb := hb; have FPk3 := Lib.hid (FPk2.out.later hbb); have HFk3 := Lib.hid (HFk2.out.keep hbb); have HGk3 := Lib.hid (HGk2.out.keep hbb); have HDk3 := Lib.hid (HDk2.out.keep hbb); have HXk3 := Lib.hid (HXk2.out.keep hbb); have HEk3 := Lib.hid (HE0.out.keep hbb); have HY0 := Lib.hid hz; clear hz; clear hb hbb; have k3c0 : kw3.cell? ⟨W.heap.size, 0, none⟩ = some (.bool na) := FPk3.out.cell 0 0 rfl rfl; have k3c1 : kw3.cell? ⟨W.heap.size, 1, none⟩ = some (.slice ao la ca) := FPk3.out.cell 0 1 rfl rfl; have k3c2 : kw3.cell? ⟨W.heap.size, 2, none⟩ = some (.slice bo lb cb) := FPk3.out.cell 0 2 rfl rfl; have k3c3 : kw3.cell? ⟨W.heap.size + 1, 0, none⟩ = some (.bool nc) := FPk3.out.cell 1 0 rfl rfl; have k3c4 : kw3.cell? ⟨W.heap.size + 1, 1, none⟩ = some (.slice co lc cc) := FPk3.out.cell 1 1 rfl rfl; have k3c5 : kw3.cell? ⟨W.heap.size + 1, 2, none⟩ = some (.slice d_o ld cd) := FPk3.out.cell 1 2 rfl rfl) | (go_at_call 60; refine (den_L na _ _ _ _ _ _ p q _ HFk1.out (by omega)).mono ?_; rintro e kw2 ⟨n4, o4, l4, c4, rfl, hl4, hz, hb⟩; have hbb := hb; have FPk2 := Lib.hid (FPk1.out.later hbb); have HFk2 := Lib.hid (HFk1.out.keep hbb); have HGk2 := Lib.hid (HGk1.out.keep hbb); have HDk2 := Lib.hid (HDk1.out.keep hbb); have HXk2 := Lib.hid (HX0.out.keep hbb); have HE0 := Lib.hid hz; clear hz; clear hb hbb; have k2c0 : kw2.cell? ⟨W.heap.size, 0, none⟩ = some (.bool na) := FPk2.out.cell 0 0 rfl rfl; have k2c1 : kw2.cell? ⟨W.heap.size, 1, none⟩ = some (.slice ao la ca) := FPk2.out.cell 0 1 rfl rfl; have k2c2 : kw2.cell? ⟨W.heap.size, 2, none⟩ = some (.slice bo lb cb) := FPk2.out.cell 0 2 rfl rfl; have k2c3 : kw2.cell? ⟨W.heap.size + 1, 0, none⟩ = some (.bool nc) := FPk2.out.cell 1 0 rfl rfl; have k2c4 : kw2.cell? ⟨W.heap.size + 1, 1, none⟩ = some (.slice co lc cc) := FPk2.out.cell 1 1 rfl rfl; have k2c5 : kw2.cell? ⟨W.heap.size + 1, 2, none⟩ = some (.slice d_o ld cd) := FPk2.out.cell 1 2 rfl rfl) | (go_at_call 59; refine (times_L _ _ _ _ _ _ _ _ (p) ((s : Int)) _ (HFk0.out).1 HD0.out (by omega) (by omega)).mono ?_; rintro e kw1 ⟨n3, o3, l3, c3, rfl, hl3, hz, hb⟩; have hbb := hb; have FPk1 := Lib.hid (FPk0.out.later hbb); have HFk1 := Lib.hid (HFk0.out.keep hbb); have HGk1 := Lib.hid (HGk0.out.keep hbb); have HDk1 := Lib.hid (HD0.out.keep hbb); have HX0 := Lib.hid hz; clear hz; clear hb hbb; have k1c0 : kw1.cell? ⟨W.heap.size, 0, none⟩ = some (.bool na) := FPk1.out.cell 0 0 rfl rfl; have k1c1 : kw1.cell? ⟨W.heap.size, 1, none⟩ = some (.slice ao la ca) := FPk1.out.cell 0 1 rfl rfl; have k1c2 : kw1.cell? ⟨W.heap.size, 2, none⟩ = some (.slice bo lb cb) := FPk1.out.cell 0 2 rfl rfl; have k1c3 : kw1.cell? ⟨W.heap.size + 1, 0, none⟩ = some (.bool nc) := FPk1.out.cell 1 0 rfl rfl; have k1c4 : kw1.cell? ⟨W.heap.size + 1, 1, none⟩ = some (.slice co lc cc) := FPk1.out.cell 1 1 rfl rfl; have k1c5 : kw1.cell? ⟨W.heap.size + 1, 2, none⟩ = some (.slice d_o ld cd) := FPk1.out.cell 1 2 rfl rfl) | (go_at_call 60; refine (den_L nc _ _ _ _ _ _ r s V.drew (HG_0.out.keep (Below.refl _ _).drew) (by omega)).mono ?_; rintro e kw0 ⟨n2, o2, l2, c2, rfl, hl2, hz, hb⟩; have hbb := below_of_drew hb; have FPk0 := Lib.hid (HF.out.later hbb); have HFk0 := Lib.hid (HF_0.out.keep hbb); have HGk0 := Lib.hid (HG_0.out.keep hbb); have HD0 := Lib.hid hz; clear hz; clear hb hbb; have k0c0 : kw0.cell? ⟨W.heap.size, 0, none⟩ = some (.bool na) := FPk0.out.cell 0 0 rfl rfl; have k0c1 : kw0.cell? ⟨W.heap.size, 1, none⟩ = some (.slice ao la ca) := FPk0.out.cell 0 1 rfl rfl; have k0c2 : kw0.cell? ⟨W.heap.size, 2, none⟩ = some (.slice bo lb cb) := FPk0.out.cell 0 2 rfl rfl; have k0c3 : kw0.cell? ⟨W.heap.size + 1, 0, none⟩ = some (.bool nc) := FPk0.out.cell 1 0 rfl rfl; have k0c4 : kw0.cell? ⟨W.heap.size + 1, 1, none⟩ = some (.slice co lc cc) := FPk0.out.cell 1 1 rfl rfl; have k0c5 : kw0.cell? ⟨W.heap.size + 1, 2, none⟩ = some (.slice d_o ld cd) := FPk0.out.cell 1 2 rfl rfl))
  go_wp2
  go_ret
  exact ⟨rfl, FPk4.out.below⟩
end Go.Proofs.YtcgnmihabkgecaaGreat
