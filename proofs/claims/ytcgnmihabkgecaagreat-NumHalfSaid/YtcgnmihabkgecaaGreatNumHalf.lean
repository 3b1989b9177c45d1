/- For all integers a and b and every number of places, NumHalf(a, b, places) returns true, ends, and turns nothing that was there. For every input; no condition. -/
import Derived.Test.YtcgnmihabkgecaaGreatRows
import Derived.WalkKit
import Derived.ProofKit
import Derived.OpenShut
import Derived.Test.YtcgnmihabkgecaaGreatPart18
namespace Go.Proofs.YtcgnmihabkgecaaGreat.numHalf
open Go.ChangeShapes Go.WideShapes Go.ChangeAt Go.RowKit Go.Proofs.YtcgnmihabkgecaaGreat
set_option linter.unusedVariables false

theorem own : ownKnob Tryz.prog.godebug = none := by kernel_rfl

/-- the loop over the places: the unit is 1 / 10^i -/
def UnitRel (n gu gt gd : Nat) (nt : Bool) (ot : Option Addr) (lt ct : Nat) (bt : Option Addr) (mt dt : Nat) (nd : Bool) (od : Option Addr) (ld cd : Nat) (bd : Option Addr) (md dd : Nat) (pd : Int) (qd : Nat) (W : World) (iv : Value) (wr : World) : Prop :=
  ∃ (i : Nat) (nu : Bool) (ou : Option Addr) (lu cu : Nat) (bu : Option Addr) (mu du : Nat), iv = .int .i64 (i : Int) ∧ i ≤ n ∧ lu ≤ 512 ∧ mu ≤ 512 ∧ Box wr gu 27 #[.bool nu, .slice ou lu cu, .slice bu mu du] ∧ Q32 wr nu ou lu bu mu 1 (10 ^ i) ∧
    Box wr gt 27 #[.bool nt, .slice ot lt ct, .slice bt mt dt] ∧ Q32 wr nt ot lt bt mt 10 1 ∧ Box wr gd 27 #[.bool nd, .slice od ld cd, .slice bd md dd] ∧ Q32 wr nd od ld bd md pd qd ∧ Below W.heap.size W wr

theorem bl_of {k : Nat} {z : Int} (h : z.natAbs < 2 ^ k) : Bl k z := blen_le.2 h
theorem fits_unit : Fits (1 * ((1 : Nat) : Int)) := (bl_of (k := 1) (by decide)).fits (by decide)
theorem fits_tens {i : Nat} (hi : i + 1 ≤ 64) : Fits (((10 ^ i : Nat) : Int) * 10) := by
  have e : ((10 ^ i : Nat) : Int) * 10 = tenI (i + 1) := by unfold tenI; rw [Nat.pow_succ, Int.natCast_mul]; rfl
  rw [e]; exact (tenI_bl hi).fits (by decide)

set_option maxHeartbeats 64000000 in
set_option maxRecDepth 8000 in
theorem walk (s1 s2 : Bool) (a1 a2 : Option Addr) (l1 l2 c1 c2 : Nat) (xs1 xs2 : List Nat) (N : Int) (W : World) (hs1 : Sl .u16 W a1 l1 xs1) (hd1 : Dig B16 xs1) (hl1 : l1 ≤ 9223372036854775807) (hs2 : Sl .u16 W a2 l2 xs2) (hd2 : Dig B16 xs2) (hl2 : l2 ≤ 9223372036854775807) :
    Calls Tryz.prog 6 #[.agg #[.bool s1, .slice a1 l1 c1], .agg #[.bool s2, .slice a2 l2 c2], .int .i64 N] W fun e w' => e = .returned (.bool true) ∧ Below W.heap.size W w' := by
  have hf : Fr W ((W.alloc (.cells #[.bool s1, .slice a1 l1 c1] 43)).alloc (.cells #[.bool s2, .slice a2 l2 c2] 43)) [(43, #[.bool s1, .slice a1 l1 c1]), (43, #[.bool s2, .slice a2 l2 c2])] := ((Fr.nil W).alloc rfl _ _).alloc (by simp) _ _
  obtain ⟨V, hV⟩ : ∃ V, V = ((W.alloc (.cells #[.bool s1, .slice a1 l1 c1] 43)).alloc (.cells #[.bool s2, .slice a2 l2 c2] 43)) := ⟨_, rfl⟩
  have FP0 : Hid (Fr W V [(43, #[.bool s1, .slice a1 l1 c1]), (43, #[.bool s2, .slice a2 l2 c2])]) := by rw [hV]; exact hf
  have HS10 : Hid (Sl .u16 V a1 l1 xs1) := by rw [hV]; exact hs1.keep hf.below
  have HS20 : Hid (Sl .u16 V a2 l2 xs2) := by rw [hV]; exact hs2.keep hf.below
  clear hf hs1 hs2
  go_enter Tryz.func6, Tryz.ntmps6
  go_upto_region 1 with fail
  rw [← hV]
  clear hV
  have qq0 : V.cell? ⟨W.heap.size, 0, none⟩ = some (.bool s1) := FP0.out.cell 0 0 rfl rfl
  have qq1 : V.cell? ⟨W.heap.size, 1, none⟩ = some (.slice a1 l1 c1) := FP0.out.cell 0 1 rfl rfl
  have qq2 : V.cell? ⟨W.heap.size + 1, 0, none⟩ = some (.bool s2) := FP0.out.cell 1 0 rfl rfl
  have qq3 : V.cell? ⟨W.heap.size + 1, 1, none⟩ = some (.slice a2 l2 c2) := FP0.out.cell 1 1 rfl rfl
  go_wp2_with fail
  refine ((half_any s1 s2 a1 a2 l1 l2 c1 c2 12 xs1 xs2 _ _ _ HS10.out hd1 HS20.out hd2 rfl rfl (by omega) hl1 hl2).mono fun e w h => h.small (rawZ_bl s1 xs1 hd1 12) (rawZ_bl s2 xs2 hd2 12)).mono ?_
  rintro e w1 ⟨nf, of, lf, cf, bf, mf, df, spf, opf, lpf, cpf, sqf, oqf, lqf, cqf, pf, qf, okf, rfl, hlf, hmf, hq, hz, hb⟩
  clear qq0 qq1 qq2 qq3
  have FP1a := Lib.hid (FP0.out.later hb)
  have HS11a := Lib.hid (HS10.out.keep hb)
  have HS21a := Lib.hid (HS20.out.keep hb)
  have hf : Fr w1 ((w1.alloc (.cells #[.bool nf, .slice of lf cf, .slice bf mf df] 27)).alloc (.cells #[.bool spf, .slice opf lpf cpf, .bool sqf, .slice oqf lqf cqf] 35)) [(27, #[.bool nf, .slice of lf cf, .slice bf mf df]), (35, #[.bool spf, .slice opf lpf cpf, .bool sqf, .slice oqf lqf cqf])] := ((Fr.nil w1).alloc rfl _ _).alloc (by simp) _ _
  have FP1b := Lib.hid (FP1a.out.later hf.below)
  have HS11b := Lib.hid (HS11a.out.keep hf.below)
  have HS21b := Lib.hid (HS21a.out.keep hf.below)
  have FFf1 := Lib.hid hf
  have HF1 := Lib.hid (hq.keep hf.below)
  have hqpf : 0 < qf := hq.pos
  have HZF := Lib.hid hz
  clear hb hq hz hf
  cases okf with
  | false =>
    go_wp2_with fail
    refine (awake_any _).mono ?_
    rintro e w2 ⟨rfl, hb⟩
    have FP2a := Lib.hid (FP1b.out.later hb)
    have FFf2a := Lib.hid (FFf1.out.later hb)
    have HF2a := Lib.hid (HF1.out.keep hb)
    clear hb
    go_wp2
    go_ret
    exact ⟨rfl, FP2a.out.below⟩
  | true =>
    have hzz := HZF.out rfl
    have KPF := Lib.hid hzz.1
    have KQF := Lib.hid hzz.2.1
    clear hzz HZF
    by_cases hN : N < 0 ∨ 64 < N
    · rcases hN with hN | hN
      · skip
        go_wp2_with fail
        refine (awake_any _).mono ?_
        rintro e w3 ⟨rfl, hb⟩
        have FP3a := Lib.hid (FP1b.out.later hb)
        have FFf3a := Lib.hid (FFf1.out.later hb)
        have HF3a := Lib.hid (HF1.out.keep hb)
        clear hb
        go_wp2
        go_ret
        exact ⟨rfl, FP3a.out.below⟩
      · have hN2 : ¬ N < 0 := by omega
        go_wp2_with fail
        refine (awake_any _).mono ?_
        rintro e w3 ⟨rfl, hb⟩
        have FP3a := Lib.hid (FP1b.out.later hb)
        have FFf3a := Lib.hid (FFf1.out.later hb)
        have HF3a := Lib.hid (HF1.out.keep hb)
        clear hb
        go_wp2
        go_ret
        exact ⟨rfl, FP3a.out.below⟩
    · obtain ⟨k, rfl⟩ : ∃ k : Nat, N = (k : Int) := ⟨N.toNat, by omega⟩
      have hk : k ≤ 64 := by omega
      have k1 : ¬ (k : Int) < 0 := by omega
      have k2 : ¬ (64 : Int) < (k : Int) := by omega
      clear hN
      obtain ⟨s, hs⟩ : ∃ s, s = decTextZ pf qf k := ⟨_, rfl⟩
      have HS := Lib.hid hs
      obtain ⟨pg, hpg⟩ : ∃ p, p = lowP (near pf qf k) (tenI k) := ⟨_, rfl⟩
      obtain ⟨qg, hqg⟩ : ∃ q, q = lowQ (near pf qf k) (tenI k) := ⟨_, rfl⟩
      have KPG : Hid (Bl 406 pg) := by show Bl _ _; rw [hpg]; exact Bl.low _ (near_bl KPF.out hk)
      have KQG : Hid (Bl 406 (qg : Int)) := by show Bl _ _; rw [hqg]; exact (Bl.lowq _ (tenI_bl hk)).mono (by decide)
      have EVG : Hid (Eqf pg qg (near pf qf k) (tenI k)) := by show Eqf _ _ _ _; rw [hpg, hqg]; exact eqf_low (tenI_pos k)
      have HAG : Hid (decTextZ pg qg k = s) := by show _ = _; rw [hpg, hqg, hs]; exact dec_again pf qf k
      have HBK : Hid (∀ v, Calls Tryz.prog 12 #[.string ⟨s.toArray⟩] v (OutQS v pg qg)) := by
        intro v
        have h := decimal_back pf qf k v hk (decTextZ_len KPF.out (by decide) hk) (by rw [← hpg, ← hqg]; exact fitsQ_of KPG.out KQG.out (by decide))
        rw [← hpg, ← hqg, ← hs] at h
        exact h
      clear hs hpg hqg
      have qq0 : ((w1.alloc (.cells #[.bool nf, .slice of lf cf, .slice bf mf df] 27)).alloc (.cells #[.bool spf, .slice opf lpf cpf, .bool sqf, .slice oqf lqf cqf] 35)).cell? ⟨w1.heap.size, 0, none⟩ = some (.bool nf) := FFf1.out.cell 0 0 rfl rfl
      have qq1 : ((w1.alloc (.cells #[.bool nf, .slice of lf cf, .slice bf mf df] 27)).alloc (.cells #[.bool spf, .slice opf lpf cpf, .bool sqf, .slice oqf lqf cqf] 35)).cell? ⟨w1.heap.size, 1, none⟩ = some (.slice of lf cf) := FFf1.out.cell 0 1 rfl rfl
      have qq2 : ((w1.alloc (.cells #[.bool nf, .slice of lf cf, .slice bf mf df] 27)).alloc (.cells #[.bool spf, .slice opf lpf cpf, .bool sqf, .slice oqf lqf cqf] 35)).cell? ⟨w1.heap.size, 2, none⟩ = some (.slice bf mf df) := FFf1.out.cell 0 2 rfl rfl
      go_wp2_with fail
      refine (decimal_all nf of bf lf mf cf df pf qf _ k _ HF1.out (by omega) (by omega) (by omega) rfl hk (divide_ok _ _ hqpf)).mono ?_
      rintro e w2 ⟨rfl, hb⟩
      clear qq0 qq1 qq2
      have FP2a := Lib.hid (FP1b.out.later hb)
      have FFf2a := Lib.hid (FFf1.out.later hb)
      have HF2a := Lib.hid (HF1.out.keep hb)
      clear hb
      rw [← HS.out]
      go_wp2_with fail
      refine (HBK.out _).mono ?_
      rintro e w3 ⟨ng, og, lg, cg, bg, mg, dg, rfl, hlg, hmg, hz, hb⟩
      have FP3a := Lib.hid (FP2a.out.later hb)
      have FFf3a := Lib.hid (FFf2a.out.later hb)
      have HF3a := Lib.hid (HF2a.out.keep hb)
      have hf : Fr w3 (w3.alloc (.cells #[.bool ng, .slice og lg cg, .slice bg mg dg] 27)) [(27, #[.bool ng, .slice og lg cg, .slice bg mg dg])] := (Fr.nil w3).alloc rfl _ _
      have FP3b := Lib.hid (FP3a.out.later hf.below)
      have FFf3b := Lib.hid (FFf3a.out.later hf.below)
      have HF3b := Lib.hid (HF3a.out.keep hf.below)
      have hqpg := hz.pos
      have FUg3 := Lib.hid hf
      have HG3 := Lib.hid (hz.keep hf.below)
      clear hb hz hf
      have qq0 : (w3.alloc (.cells #[.bool ng, .slice og lg cg, .slice bg mg dg] 27)).cell? ⟨w3.heap.size, 0, none⟩ = some (.bool ng) := FUg3.out.cell 0 0 rfl rfl
      have qq1 : (w3.alloc (.cells #[.bool ng, .slice og lg cg, .slice bg mg dg] 27)).cell? ⟨w3.heap.size, 1, none⟩ = some (.slice og lg cg) := FUg3.out.cell 0 1 rfl rfl
      have qq2 : (w3.alloc (.cells #[.bool ng, .slice og lg cg, .slice bg mg dg] 27)).cell? ⟨w3.heap.size, 2, none⟩ = some (.slice bg mg dg) := FUg3.out.cell 0 2 rfl rfl
      go_wp2_with fail
      refine (decimal_all ng og bg lg mg cg dg pg qg _ k _ HG3.out (by omega) (by omega) (by omega) rfl hk (divide_ok _ _ hqpg)).mono ?_
      rintro e w4 ⟨rfl, hb⟩
      clear qq0 qq1 qq2
      have FP4a := Lib.hid (FP3b.out.later hb)
      have FFf4a := Lib.hid (FFf3b.out.later hb)
      have FUg4a := Lib.hid (FUg3.out.later hb)
      have HF4a := Lib.hid (HF3b.out.keep hb)
      have HG4a := Lib.hid (HG3.out.keep hb)
      clear hb
      rw [HAG.out]
      have KX : Hid (Bl 813 (pf * (qg : Int) - pg * (qf : Int))) := by
        have h1 := (KPF.out.mul KQG.out).mono (j := 812) (by decide)
        have h2 := (KPG.out.mul KQF.out).mono (j := 812) (by decide)
        exact h1.sub h2
      have KY : Hid (Bl 813 ((qf : Int) * (qg : Int))) := (KQF.out.mul KQG.out).mono (by decide)
      have qq0 : w4.cell? ⟨w1.heap.size, 0, none⟩ = some (.bool nf) := FFf4a.out.cell 0 0 rfl rfl
      have qq1 : w4.cell? ⟨w1.heap.size, 1, none⟩ = some (.slice of lf cf) := FFf4a.out.cell 0 1 rfl rfl
      have qq2 : w4.cell? ⟨w1.heap.size, 2, none⟩ = some (.slice bf mf df) := FFf4a.out.cell 0 2 rfl rfl
      have qq3 : w4.cell? ⟨w3.heap.size, 0, none⟩ = some (.bool ng) := FUg4a.out.cell 0 0 rfl rfl
      have qq4 : w4.cell? ⟨w3.heap.size, 1, none⟩ = some (.slice og lg cg) := FUg4a.out.cell 0 1 rfl rfl
      have qq5 : w4.cell? ⟨w3.heap.size, 2, none⟩ = some (.slice bg mg dg) := FUg4a.out.cell 0 2 rfl rfl
      go_wp2_with fail
      refine ((ratSub_any nf ng of bf og bg lf mf lg mg cf df cg dg pf pg qf qg _ HF4a.out HG4a.out (by omega) (by omega) (by omega) (by omega)).mono fun e w h => h.fine (KX.out.fits (by decide)) (KY.out.fits (by decide))).mono ?_
      rintro e w5 ⟨nd, od, ld, cd, bd, md, dd, rfl, hld, hmd, hz, hb⟩
      clear qq0 qq1 qq2 qq3 qq4 qq5
      have FP5a := Lib.hid (FP4a.out.later hb)
      have FFf5a := Lib.hid (FFf4a.out.later hb)
      have FUg5a := Lib.hid (FUg4a.out.later hb)
      have HF5a := Lib.hid (HF4a.out.keep hb)
      have HG5a := Lib.hid (HG4a.out.keep hb)
      obtain ⟨pd, hpd⟩ : ∃ p, p = lowP (pf * (qg : Int) - pg * (qf : Int)) ((qf : Int) * (qg : Int)) := ⟨_, rfl⟩
      obtain ⟨qd, hqd⟩ : ∃ q, q = lowQ (pf * (qg : Int) - pg * (qf : Int)) ((qf : Int) * (qg : Int)) := ⟨_, rfl⟩
      rw [← hpd, ← hqd] at hz
      have KPD : Hid (Bl 813 pd) := by show Bl _ _; rw [hpd]; exact Bl.low _ KX.out
      have KQD : Hid (Bl 813 (qd : Int)) := by show Bl _ _; rw [hqd]; exact Bl.lowq _ KY.out
      have EVD : Hid (Eqf pd qd (pf * (qg : Int) - pg * (qf : Int)) ((qf : Int) * (qg : Int))) := by show Eqf _ _ _ _; rw [hpd, hqd]; exact eqf_low (Int.mul_pos (by omega) (by omega))
      clear hpd hqd
      have hf : Fr w5 (w5.alloc (.cells #[.bool nd, .slice od ld cd, .slice bd md dd] 27)) [(27, #[.bool nd, .slice od ld cd, .slice bd md dd])] := (Fr.nil w5).alloc rfl _ _
      have FP5b := Lib.hid (FP5a.out.later hf.below)
      have FFf5b := Lib.hid (FFf5a.out.later hf.below)
      have FUg5b := Lib.hid (FUg5a.out.later hf.below)
      have HF5b := Lib.hid (HF5a.out.keep hf.below)
      have HG5b := Lib.hid (HG5a.out.keep hf.below)
      have hqpd := hz.pos
      have FUd5 := Lib.hid hf
      have HD5 := Lib.hid (hz.keep hf.below)
      clear hb hz hf
      go_wp2_with fail
      refine (ratOf_any 1 _ (by omega) (by omega)).mono ?_
      rintro e w6 ⟨nu, ou, lu, cu, bu, mu, du, rfl, hz, hb⟩
      have FP6a := Lib.hid (FP5b.out.later hb)
      have FUd6a := Lib.hid (FUd5.out.later hb)
      have HD6a := Lib.hid (HD5.out.keep hb)
      have hlu := hz.lens (fitsQ_of (k := 1) (bl_of (by decide)) (bl_of (by decide)) (by decide))
      have hf : Fr w6 (w6.alloc (.cells #[.bool nu, .slice ou lu cu, .slice bu mu du] 27)) [(27, #[.bool nu, .slice ou lu cu, .slice bu mu du])] := (Fr.nil w6).alloc rfl _ _
      have FP6b := Lib.hid (FP6a.out.later hf.below)
      have FUd6b := Lib.hid (FUd6a.out.later hf.below)
      have HD6b := Lib.hid (HD6a.out.keep hf.below)
      have hqpu := hz.pos
      have FUu6 := Lib.hid hf
      have HU6 := Lib.hid (hz.keep hf.below)
      clear hb hz hf
      go_wp2_with fail
      refine (ratOf_any 10 _ (by omega) (by omega)).mono ?_
      rintro e w7 ⟨nt, ot, lt, ct, bt, mt, dt, rfl, hz, hb⟩
      have FP7a := Lib.hid (FP6b.out.later hb)
      have FUd7a := Lib.hid (FUd6b.out.later hb)
      have FUu7a := Lib.hid (FUu6.out.later hb)
      have HD7a := Lib.hid (HD6b.out.keep hb)
      have HU7a := Lib.hid (HU6.out.keep hb)
      have hlt := hz.lens (fitsQ_of (k := 4) (bl_of (by decide)) (bl_of (by decide)) (by decide))
      have hf : Fr w7 (w7.alloc (.cells #[.bool nt, .slice ot lt ct, .slice bt mt dt] 27)) [(27, #[.bool nt, .slice ot lt ct, .slice bt mt dt])] := (Fr.nil w7).alloc rfl _ _
      have FP7b := Lib.hid (FP7a.out.later hf.below)
      have FUd7b := Lib.hid (FUd7a.out.later hf.below)
      have FUu7b := Lib.hid (FUu7a.out.later hf.below)
      have HD7b := Lib.hid (HD7a.out.keep hf.below)
      have HU7b := Lib.hid (HU7a.out.keep hf.below)
      have hqpt := hz.pos
      have FUt7 := Lib.hid hf
      have HT7 := Lib.hid (hz.keep hf.below)
      clear hb hz hf
      have hszu : W.heap.size ≤ w6.heap.size := FP6a.out.below.size
      have hdu : w5.heap.size < w6.heap.size := by have := FUd6a.out.size; simp at this; omega
      have hut : w6.heap.size < w7.heap.size := by have := FUu7a.out.size; simp at this; omega
      have HST : Hid (UnitRel k w6.heap.size w7.heap.size w5.heap.size nt ot lt ct bt mt dt nd od ld cd bd md dd pd qd W (.int .i64 0) (w7.alloc (.cells #[.bool nt, .slice ot lt ct, .slice bt mt dt] 27))) := ⟨0, nu, ou, lu, cu, bu, mu, du, rfl, Nat.zero_le _, hlu.1, hlu.2, FUu7b.out.box 0 _ _ rfl, HU7b.out, FUt7.out.box 0 _ _ rfl, HT7.out, FUd7b.out.box 0 _ _ rfl, HD7b.out, FP7b.out.below⟩
      go_wp2_with fail
      go_loopw [20] (fun iv wr => UnitRel k w6.heap.size w7.heap.size w5.heap.size nt ot lt ct bt mt dt nd od ld cd bd md dd pd qd W iv wr) (fun iv _ => k - (intOf iv).toNat)
      case atStart => exact HST.out
      case round =>
        clear HST FP7b FUd7b FUu7b FUt7 HD7b HU7b HT7 hlu
        obtain ⟨i, nu, ou, lu, cu, bu, mu, du, rfl, hi, hlu, hmu, hbu, hqu, hbt, hqt, hbd, hqd, hbel⟩ := hrel
        have BU := Lib.hid hbu
        have BT := Lib.hid hbt
        have BD := Lib.hid hbd
        have HU := Lib.hid hqu
        have HT := Lib.hid hqt
        have HDD := Lib.hid hqd
        have HBE := Lib.hid hbel
        clear hbu hqu hbt hqt hbd hqd hbel
        have hltt := hlt.1
        have hlmt := hlt.2
        by_cases hik : i < k
        · have t1 : (i : Int) < (k : Int) := by omega
          clear hlt
          have x0 : wr.cell? ⟨w6.heap.size, 0, none⟩ = some (.bool nu) := BU.out.cell 0
          have x1 : wr.cell? ⟨w6.heap.size, 1, none⟩ = some (.slice ou lu cu) := BU.out.cell 1
          have x2 : wr.cell? ⟨w6.heap.size, 2, none⟩ = some (.slice bu mu du) := BU.out.cell 2
          have y0 : wr.cell? ⟨w7.heap.size, 0, none⟩ = some (.bool nt) := BT.out.cell 0
          have y1 : wr.cell? ⟨w7.heap.size, 1, none⟩ = some (.slice ot lt ct) := BT.out.cell 1
          have y2 : wr.cell? ⟨w7.heap.size, 2, none⟩ = some (.slice bt mt dt) := BT.out.cell 2
          go_wp2_with fail
          refine ((ratQuo_any nu nt ou bu ot bt lu mu lt mt cu du ct dt 1 10 (10 ^ i) 1 _ HU.out HT.out (by omega) (by omega) (by omega) (by omega) (by decide)).mono fun e w h => h.fine fits_unit (fits_tens (by omega))).mono ?_
          rw [(unit_step i).1, (unit_step i).2]
          rintro e v1 ⟨n9, o9, l9, c9, b9, m9, d9, rfl, hl9, hm9, hz, hb⟩
          clear x0 x1 x2 y0 y1 y2
          have BU1 := Lib.hid (BU.out.below hb BU.out.lt)
          have BT1 := Lib.hid (BT.out.below hb BT.out.lt)
          have BD1 := Lib.hid (BD.out.below hb BD.out.lt)
          have HT1 := Lib.hid (HT.out.keep hb)
          have HD1 := Lib.hid (HDD.out.keep hb)
          have HZ1 := Lib.hid hz
          have HB1 := Lib.hid (below_then HBE.out hb)
          clear hb hz
          have x0 : v1.cell? ⟨w6.heap.size, 0, none⟩ = some (.bool nu) := BU1.out.cell 0
          have x1 : v1.cell? ⟨w6.heap.size, 1, none⟩ = some (.slice ou lu cu) := BU1.out.cell 1
          have x2 : v1.cell? ⟨w6.heap.size, 2, none⟩ = some (.slice bu mu du) := BU1.out.cell 2
          have xf0 : v1.frozen? ⟨w6.heap.size, 0, none⟩ = false := BU1.out.frozen 0
          have xf1 : v1.frozen? ⟨w6.heap.size, 1, none⟩ = false := BU1.out.frozen 1
          have xf2 : v1.frozen? ⟨w6.heap.size, 2, none⟩ = false := BU1.out.frozen 2
          go_wp2_with fail
          obtain ⟨V, hV⟩ : ∃ V, V = setFrom v1 w6.heap.size 0 [.bool n9, .slice o9 l9 c9, .slice b9 m9 d9] := ⟨_, rfl⟩
          have hui : ∀ u ∈ [Value.bool n9, Value.slice o9 l9 c9, Value.slice b9 m9 d9], isInt u = false := by simp [isInt]
          have v_1 : Box V w6.heap.size 27 #[.bool n9, .slice o9 l9 c9, .slice b9 m9 d9] := by rw [hV]; exact setFrom_box0 _ BU1.out rfl
          have v_2 : Q32 V n9 o9 l9 b9 m9 1 (10 ^ (i + 1)) := by rw [hV]; exact HZ1.out.setFrom _ hui BU1.out rfl
          have v_3 : Box V w7.heap.size 27 #[.bool nt, .slice ot lt ct, .slice bt mt dt] := by rw [hV]; exact (setFrom_other (by omega) _ _ _).trans BT1.out
          have v_4 : Q32 V nt ot lt bt mt 10 1 := by rw [hV]; exact HT1.out.setFrom _ hui BU1.out rfl
          have v_5 : Box V w5.heap.size 27 #[.bool nd, .slice od ld cd, .slice bd md dd] := by rw [hV]; exact (setFrom_other (by omega) _ _ _).trans BD1.out
          have v_6 : Q32 V nd od ld bd md pd qd := by rw [hV]; exact HD1.out.setFrom _ hui BU1.out rfl
          have v_7 : Below W.heap.size W V := by rw [hV]; exact setFrom_below hszu _ _ _ _ HB1.out
          simp only [setFrom] at hV
          try rw [← hV]
          go_roundw
          case rel => exact ⟨i + 1, n9, o9, l9, c9, b9, m9, d9, by go_num, by omega, hl9, hm9, v_1, v_2, v_3, v_4, v_5, v_6, v_7⟩
          case measure => simp only [intOf]; omega
        · have t1 : ¬ (i : Int) < (k : Int) := by omega
          have hik2 : i = k := by omega
          rw [hik2] at HU
          clear hik hik2 hi hlt BT HT
          have FPx : Hid (Fr W wr []) := ⟨HBE.out, by simpa using HBE.out.size, fun i T c h => by simp at h⟩
          have KX2 : Hid (Bl 1627 (pd * (qd : Int) + pd * (qd : Int))) := by
            have h1 := KPD.out.mul KQD.out
            exact h1.add h1
          have KY2 : Hid (Bl 1627 ((qd : Int) * (qd : Int))) := (KQD.out.mul KQD.out).mono (by decide)
          have qq0 : wr.cell? ⟨w5.heap.size, 0, none⟩ = some (.bool nd) := BD.out.cell 0
          have qq1 : wr.cell? ⟨w5.heap.size, 1, none⟩ = some (.slice od ld cd) := BD.out.cell 1
          have qq2 : wr.cell? ⟨w5.heap.size, 2, none⟩ = some (.slice bd md dd) := BD.out.cell 2
          go_wp2_with fail
          refine ((ratAdd_any nd nd od bd od bd ld md ld md cd dd cd dd pd pd qd qd _ HDD.out HDD.out (by omega) (by omega) (by omega) (by omega)).mono fun e w h => h.fine (KX2.out.fits (by decide)) (KY2.out.fits (by decide))).mono ?_
          rintro e w8 ⟨nw, ow, lw, cw, bw, mw, dw, rfl, hlw, hmw, hz, hb⟩
          clear qq0 qq1 qq2
          have FP8a := Lib.hid (FPx.out.later hb)
          have BU8a := Lib.hid (BU.out.below hb BU.out.lt)
          have BD8a := Lib.hid (BD.out.below hb BD.out.lt)
          have HU8a := Lib.hid (HU.out.keep hb)
          have HD8a := Lib.hid (HDD.out.keep hb)
          obtain ⟨pw, hpw⟩ : ∃ p, p = lowP (pd * (qd : Int) + pd * (qd : Int)) ((qd : Int) * (qd : Int)) := ⟨_, rfl⟩
          obtain ⟨qw, hqw⟩ : ∃ q, q = lowQ (pd * (qd : Int) + pd * (qd : Int)) ((qd : Int) * (qd : Int)) := ⟨_, rfl⟩
          rw [← hpw, ← hqw] at hz
          have EVW : Hid (Eqf pw qw (pd * (qd : Int) + pd * (qd : Int)) ((qd : Int) * (qd : Int))) := by show Eqf _ _ _ _; rw [hpw, hqw]; exact eqf_low (Int.mul_pos (by omega) (by omega))
          clear hpw hqw
          have hf : Fr w8 (w8.alloc (.cells #[.bool nw, .slice ow lw cw, .slice bw mw dw] 27)) [(27, #[.bool nw, .slice ow lw cw, .slice bw mw dw])] := (Fr.nil w8).alloc rfl _ _
          have FP8b := Lib.hid (FP8a.out.later hf.below)
          have BU8b := Lib.hid (BU8a.out.below hf.below BU8a.out.lt)
          have BD8b := Lib.hid (BD8a.out.below hf.below BD8a.out.lt)
          have HU8b := Lib.hid (HU8a.out.keep hf.below)
          have HD8b := Lib.hid (HD8a.out.keep hf.below)
          have hqpw := hz.pos
          have FUw8 := Lib.hid hf
          have HW8 := Lib.hid (hz.keep hf.below)
          clear hb hz hf
          have HLE : Hid (pw.natAbs * 10 ^ k ≤ qw) := half_le hqpf hqpg hqpd hqpw EVG.out EVD.out EVW.out
          have hsu : w6.heap.size < w8.heap.size := BU8a.out.lt
          obtain ⟨v, hv⟩ : ∃ v, v = pw.sign := ⟨_, rfl⟩
          have HV := Lib.hid hv
          clear hv
          have qq0 : (w8.alloc (.cells #[.bool nw, .slice ow lw cw, .slice bw mw dw] 27)).cell? ⟨w8.heap.size, 0, none⟩ = some (.bool nw) := FUw8.out.cell 0 0 rfl rfl
          have qq1 : (w8.alloc (.cells #[.bool nw, .slice ow lw cw, .slice bw mw dw] 27)).cell? ⟨w8.heap.size, 1, none⟩ = some (.slice ow lw cw) := FUw8.out.cell 0 1 rfl rfl
          have qq2 : (w8.alloc (.cells #[.bool nw, .slice ow lw cw, .slice bw mw dw] 27)).cell? ⟨w8.heap.size, 2, none⟩ = some (.slice bw mw dw) := FUw8.out.cell 0 2 rfl rfl
          go_wp2_with fail
          refine ((ratSign_any _ _ _ _ _ _ _ pw qw _ HW8.out).mono fun e w h => (⟨h.1.trans (congrArg (fun t => Ending.returned (.int .i64 t)) HV.out.symm), h.2⟩ : e = .returned (.int .i64 v) ∧ _)).mono ?_
          rintro e w9 ⟨rfl, hb⟩
          clear qq0 qq1 qq2
          have FP9a := Lib.hid (FP8b.out.later hb)
          have FUw9a := Lib.hid (FUw8.out.later hb)
          have BU9a := Lib.hid (BU8b.out.below hb BU8b.out.lt)
          have BD9a := Lib.hid (BD8b.out.below hb BD8b.out.lt)
          have HU9a := Lib.hid (HU8b.out.keep hb)
          have HD9a := Lib.hid (HD8b.out.keep hb)
          have HW9a := Lib.hid (HW8.out.keep hb)
          clear hb
          by_cases hneg : pw < 0
          · have t2 : v < 0 := by rw [HV.out, Int.sign_eq_neg_one_of_neg hneg]; decide
            have qq0 : w9.cell? ⟨w8.heap.size, 0, none⟩ = some (.bool nw) := FUw9a.out.cell 0 0 rfl rfl
            have qq1 : w9.cell? ⟨w8.heap.size, 1, none⟩ = some (.slice ow lw cw) := FUw9a.out.cell 0 1 rfl rfl
            have qq2 : w9.cell? ⟨w8.heap.size, 2, none⟩ = some (.slice bw mw dw) := FUw9a.out.cell 0 2 rfl rfl
            go_wp2_with fail
            refine (ratNeg_any _ _ _ _ _ _ _ pw qw _ HW9a.out (by omega) (by omega)).mono ?_
            rintro e w10 ⟨na, oa, la, ca, ba, ma, da, rfl, hla, hma, hz, hb⟩
            clear qq0 qq1 qq2
            have FP10a := Lib.hid (FP9a.out.later hb)
            have FUw10a := Lib.hid (FUw9a.out.later hb)
            have BU10a := Lib.hid (BU9a.out.below hb BU9a.out.lt)
            have HU10a := Lib.hid (HU9a.out.keep hb)
            have HW10a := Lib.hid (HW9a.out.keep hb)
            have HA10 := Lib.hid hz
            clear hb hz
            have BW := Lib.hid (FUw10a.out.box 0 _ _ rfl : Box w10 w8.heap.size 27 #[.bool nw, .slice ow lw cw, .slice bw mw dw])
            have x0 : w10.cell? ⟨w8.heap.size, 0, none⟩ = some (.bool nw) := BW.out.cell 0
            have x1 : w10.cell? ⟨w8.heap.size, 1, none⟩ = some (.slice ow lw cw) := BW.out.cell 1
            have x2 : w10.cell? ⟨w8.heap.size, 2, none⟩ = some (.slice bw mw dw) := BW.out.cell 2
            have xf0 : w10.frozen? ⟨w8.heap.size, 0, none⟩ = false := BW.out.frozen 0
            have xf1 : w10.frozen? ⟨w8.heap.size, 1, none⟩ = false := BW.out.frozen 1
            have xf2 : w10.frozen? ⟨w8.heap.size, 2, none⟩ = false := BW.out.frozen 2
            go_upto_region 17 with fail
            obtain ⟨VA, hV⟩ : ∃ V, V = setFrom w10 w8.heap.size 0 [.bool na, .slice oa la ca, .slice ba ma da] := ⟨_, rfl⟩
            have hui : ∀ u ∈ [Value.bool na, Value.slice oa la ca, Value.slice ba ma da], isInt u = false := by simp [isInt]
            have BA : Hid (Box VA w8.heap.size 27 #[.bool na, .slice oa la ca, .slice ba ma da]) := by rw [hV]; exact setFrom_box0 _ BW.out rfl
            have HA : Hid (Q32 VA na oa la ba ma (-pw) qw) := by rw [hV]; exact HA10.out.setFrom _ hui BW.out rfl
            have BUV : Hid (Box VA w6.heap.size 27 #[.bool nu, .slice ou lu cu, .slice bu mu du]) := by rw [hV]; exact (setFrom_other (by omega) _ _ _).trans BU10a.out
            have HUV : Hid (Q32 VA nu ou lu bu mu 1 (10 ^ k)) := by rw [hV]; exact HU10a.out.setFrom _ hui BW.out rfl
            have FPV : Hid (Fr W VA []) := by rw [hV]; exact ⟨setFrom_below (by omega) _ _ _ _ FP10a.out.below, by rw [setFrom_size]; exact FP10a.out.size, fun i T c h => by simp at h⟩
            simp only [setFrom] at hV
            try rw [← hV]
            clear hV hui x0 x1 x2 xf0 xf1 xf2
            have HSG : Hid ((-pw * ((10 ^ k : Nat) : Int) - 1 * (qw : Int)).sign ≤ 0) := by
              rw [show -pw = (pw.natAbs : Int) by omega]
              exact half_sign HLE.out
            obtain ⟨z, hz⟩ : ∃ z, z = (-pw * ((10 ^ k : Nat) : Int) - 1 * (qw : Int)).sign := ⟨_, rfl⟩
            have HZZ := Lib.hid hz
            have hz0 : z ≤ 0 := by rw [hz]; exact HSG.out
            clear hz hneg
            go_wp2_with fail
            refine ((fine_any _ 5 _ _ (zeros_sl VA 28 5 _ rfl) (by decide)).mono fun e w h => (⟨h.1, h.2 ▸ (Below.refl _ _).alloc (Nat.le_refl _) _⟩ : e = .returned (.bool true) ∧ Below VA.heap.size VA w)).mono ?_
            rintro e w16 ⟨rfl, hb⟩
            have FP16 := Lib.hid (FPV.out.later hb)
            have BU16 := Lib.hid (BUV.out.below hb BUV.out.lt)
            have BA16 := Lib.hid (BA.out.below hb BA.out.lt)
            have HU16 := Lib.hid (HUV.out.keep hb)
            have HW16 := Lib.hid (HA.out.keep hb)
            clear hb
            have qq0 : w16.cell? ⟨w6.heap.size, 0, none⟩ = some (.bool nu) := BU16.out.cell 0
            have qq1 : w16.cell? ⟨w6.heap.size, 1, none⟩ = some (.slice ou lu cu) := BU16.out.cell 1
            have qq2 : w16.cell? ⟨w6.heap.size, 2, none⟩ = some (.slice bu mu du) := BU16.out.cell 2
            have qq3 : w16.cell? ⟨w8.heap.size, 0, none⟩ = some (.bool na) := BA16.out.cell 0
            have qq4 : w16.cell? ⟨w8.heap.size, 1, none⟩ = some (.slice oa la ca) := BA16.out.cell 1
            have qq5 : w16.cell? ⟨w8.heap.size, 2, none⟩ = some (.slice ba ma da) := BA16.out.cell 2
            go_wp2_with fail
            refine ((ratCmp_any na nu oa ba ou bu la ma lu mu ca da cu du (-pw) 1 qw (10 ^ k) _ HW16.out HU16.out (by omega) (by omega) (by omega) (by omega)).mono fun e w h => (⟨h.1.trans (congrArg (fun t => Ending.returned (.int .i64 t)) HZZ.out.symm), h.2⟩ : e = .returned (.int .i64 z) ∧ _)).mono ?_
            rintro e w17 ⟨rfl, hb⟩
            clear qq0 qq1 qq2 qq3 qq4 qq5
            have FP17a := Lib.hid (FP16.out.later hb)
            have BU17a := Lib.hid (BU16.out.below hb BU16.out.lt)
            have BA17a := Lib.hid (BA16.out.below hb BA16.out.lt)
            have HU17a := Lib.hid (HU16.out.keep hb)
            have HW17a := Lib.hid (HW16.out.keep hb)
            clear hb
            go_wp2_with fail
            refine (awake_any _).mono ?_
            rintro e w18 ⟨rfl, hb⟩
            have FP18a := Lib.hid (FP17a.out.later hb)
            have BU18a := Lib.hid (BU17a.out.below hb BU17a.out.lt)
            have BA18a := Lib.hid (BA17a.out.below hb BA17a.out.lt)
            have HU18a := Lib.hid (HU17a.out.keep hb)
            have HW18a := Lib.hid (HW17a.out.keep hb)
            clear hb
            go_wp2
            go_ret
            exact ⟨rfl, FP18a.out.below⟩
          · have t2 : ¬ v < 0 := by
              intro h
              rw [HV.out] at h
              rcases Int.lt_trichotomy pw 0 with h2 | h2 | h2
              · exact hneg h2
              · rw [h2] at h; exact absurd h (by decide)
              · rw [Int.sign_eq_one_of_pos h2] at h; exact absurd h (by decide)
            have HSG : Hid ((pw * ((10 ^ k : Nat) : Int) - 1 * (qw : Int)).sign ≤ 0) := by
              rw [show pw = (pw.natAbs : Int) by omega]
              exact half_sign HLE.out
            obtain ⟨z, hz⟩ : ∃ z, z = (pw * ((10 ^ k : Nat) : Int) - 1 * (qw : Int)).sign := ⟨_, rfl⟩
            have HZZ := Lib.hid hz
            have hz0 : z ≤ 0 := by rw [hz]; exact HSG.out
            clear hz hneg
            go_upto_region 17 with fail
            obtain ⟨V15, hV⟩ : ∃ V, V = w9 := ⟨_, rfl⟩
            rw [← hV] at FP9a FUw9a BU9a HU9a HW9a ⊢
            clear hV
            go_wp2_with fail
            refine ((fine_any _ 5 _ _ (zeros_sl V15 28 5 _ rfl) (by decide)).mono fun e w h => (⟨h.1, h.2 ▸ (Below.refl _ _).alloc (Nat.le_refl _) _⟩ : e = .returned (.bool true) ∧ Below V15.heap.size V15 w)).mono ?_
            rintro e w16 ⟨rfl, hb⟩
            have FP16 := Lib.hid (FP9a.out.later hb)
            have FUw16 := Lib.hid (FUw9a.out.later hb)
            have BU16 := Lib.hid (BU9a.out.below hb BU9a.out.lt)
            have HU16 := Lib.hid (HU9a.out.keep hb)
            have HW16 := Lib.hid (HW9a.out.keep hb)
            clear hb
            have qq0 : w16.cell? ⟨w8.heap.size, 0, none⟩ = some (.bool nw) := FUw16.out.cell 0 0 rfl rfl
            have qq1 : w16.cell? ⟨w8.heap.size, 1, none⟩ = some (.slice ow lw cw) := FUw16.out.cell 0 1 rfl rfl
            have qq2 : w16.cell? ⟨w8.heap.size, 2, none⟩ = some (.slice bw mw dw) := FUw16.out.cell 0 2 rfl rfl
            have qq3 : w16.cell? ⟨w6.heap.size, 0, none⟩ = some (.bool nu) := BU16.out.cell 0
            have qq4 : w16.cell? ⟨w6.heap.size, 1, none⟩ = some (.slice ou lu cu) := BU16.out.cell 1
            have qq5 : w16.cell? ⟨w6.heap.size, 2, none⟩ = some (.slice bu mu du) := BU16.out.cell 2
            go_wp2_with fail
            refine ((ratCmp_any nw nu ow bw ou bu lw mw lu mu cw dw cu du (pw) 1 qw (10 ^ k) _ HW16.out HU16.out (by omega) (by omega) (by omega) (by omega)).mono fun e w h => (⟨h.1.trans (congrArg (fun t => Ending.returned (.int .i64 t)) HZZ.out.symm), h.2⟩ : e = .returned (.int .i64 z) ∧ _)).mono ?_
            rintro e w17 ⟨rfl, hb⟩
            clear qq0 qq1 qq2 qq3 qq4 qq5
            have FP17a := Lib.hid (FP16.out.later hb)
            have FUw17a := Lib.hid (FUw16.out.later hb)
            have BU17a := Lib.hid (BU16.out.below hb BU16.out.lt)
            have HU17a := Lib.hid (HU16.out.keep hb)
            have HW17a := Lib.hid (HW16.out.keep hb)
            clear hb
            go_wp2_with fail
            refine (awake_any _).mono ?_
            rintro e w18 ⟨rfl, hb⟩
            have FP18a := Lib.hid (FP17a.out.later hb)
            have FUw18a := Lib.hid (FUw17a.out.later hb)
            have BU18a := Lib.hid (BU17a.out.below hb BU17a.out.lt)
            have HU18a := Lib.hid (HU17a.out.keep hb)
            have HW18a := Lib.hid (HW17a.out.keep hb)
            clear hb
            go_wp2
            go_ret
            exact ⟨rfl, FP18a.out.below⟩

set_option maxRecDepth 100000 in
theorem lifted (os : Os) (started : os.Started) (H : Type) (enc : TypeId × Value → H) :
    ReturnsInHanded {} Tryz.checked os 6 .any (Rows.numHalfSpec.pre6 enc Tryz.prog Tryz.f6 Rows.numHalfRow.domain false) (Rows.numHalfSpec.post enc Tryz.prog Tryz.f6 false true false false) := by
  refine returnsInHanded_of_change (C := Tryz.checked) own started (by kernel_rfl) Tryz.func6
    (ChangeSpec.witness6 (enc := enc) (C := Tryz.checked) false ⟨#[], #[.agg #[.bool false, .slice none 0 0], .agg #[.bool false, .slice none 0 0], .int .i64 0], []⟩ 8 (by kernel_rfl) (by kernel_rfl) (by kernel_rfl) (by kernel_rfl)) ?_
  intro W base args ds gs before hval0 hW hcnd _
  have hval : ∀ (j : Nat) t v, Tryz.f6.params[j]? = some t → args[j]? = some v → Value.okWide Tryz.prog W .any base t v := hval0
  have hW' := hW
  obtain ⟨p, q, hA0, hV, rfl, hfz, hnd⟩ := hW
  have hA : DataW.TrodAll enc Tryz.prog W 0 (fun _ => true) true Tryz.f6.params.toList args.toList ds p := hA0
  have hAk := hA
  rw [Tryz.params6] at hA hval
  obtain ⟨v0, vs0, d0, ds0, p0, q0, hargs, rfl, rfl, h0, r0⟩ := trodAll_cons hA
  obtain ⟨v1, vs1, d1, ds1, p1, q1, rfl, rfl, rfl, h1, r1⟩ := trodAll_cons r0
  obtain ⟨v2, vs2, d2, ds2, p2, q2, rfl, rfl, rfl, h2, r2⟩ := trodAll_cons r1
  obtain ⟨rfl, rfl, rfl⟩ := trodAll_nil r2
  obtain rfl : args = #[v0, v1, v2] := by cases args; simp_all
  obtain ⟨rfl, rfl⟩ := trodVars_none hV
  obtain ⟨s0, a0, l0, c0, xs0, rfl, hs0, hd0, hl0⟩ := open_raw (hval 0 43 v0 rfl rfl) h0
  obtain ⟨s1, a1, l1, c1, xs1, rfl, hs1, hd1, hl1⟩ := open_raw (hval 1 43 v1 rfl rfl) h1
  obtain ⟨a3, rfl, _, _, w3⟩ := open_int Tryz.underlying3 (hval 2 3 v2 rfl rfl) h2
  clear hA0 hval0
  rw [List.append_nil] at hW'
  refine (walk s0 s1 a0 a1 l0 l1 c0 c1 xs0 xs1 a3 W hs0 hd0 hl0 hs1 hd1 hl1).mono fun e W' ⟨he, hg⟩ => ?_
  subst he
  exact ⟨_, rfl, post_law (by kernel_rfl) (by rw [Tryz.params6]; intro t ht; simp at ht; rcases ht with rfl | rfl <;> exact ⟨by kernel_rfl, of_decide_eq_true (by kernel_rfl)⟩) hW' rfl rfl Tryz.underlying4 hAk rfl rfl rfl hg⟩

theorem over : Rows.numHalfRow.holds Tryz.pinned (OpenSpec.ofChange Rows.numHalfSpec) :=
  OpenClaim.holds_of_wide 6 Tryz.f6 rfl rfl rfl rfl rfl rfl rfl ⟨rfl, rfl, rfl, rfl, rfl⟩ rfl rfl rfl rfl rfl (by kernel_rfl) Tryz.func6 (by kernel_rfl)
    (of_decide_eq_true (by kernel_rfl)) (by unfold Func.isWrapper; first | (rw [if_pos (by decide +kernel)]; kernel_rfl) | (rw [if_neg (by decide +kernel)]; exact ⟨rfl, rfl⟩))
    (fun os started H enc _ => lifted os started H enc)

/-- the statement -/
theorem proved : Rows.NumHalfSaid :=
  over
end Go.Proofs.YtcgnmihabkgecaaGreat.numHalf
