/- For all integers a, b, c, d, m and n, NumField(a, b, c, d, m, n) returns true, ends, and turns nothing that was there. For every input; no condition. -/
import Derived.Test.YtcgnmihabkgecaaGreatRows
import Derived.WalkKit
import Derived.ProofKit
import Derived.OpenShut
import Derived.Test.YtcgnmihabkgecaaGreatPart16
namespace Go.Proofs.YtcgnmihabkgecaaGreat.numField
open Go.ChangeShapes Go.WideShapes Go.ChangeAt Go.RowKit Go.Proofs.YtcgnmihabkgecaaGreat
set_option linter.unusedVariables false

theorem own : ownKnob Tryz.prog.godebug = none := by kernel_rfl

set_option maxHeartbeats 64000000 in
set_option maxRecDepth 8000 in
theorem walk (s1 s2 s3 s4 s5 s6 : Bool) (a1 a2 a3 a4 a5 a6 : Option Addr) (l1 l2 l3 l4 l5 l6 c1 c2 c3 c4 c5 c6 : Nat) (xs1 xs2 xs3 xs4 xs5 xs6 : List Nat) (W : World) (hs1 : Sl .u16 W a1 l1 xs1) (hd1 : Dig B16 xs1) (hl1 : l1 ≤ 9223372036854775807) (hs2 : Sl .u16 W a2 l2 xs2) (hd2 : Dig B16 xs2) (hl2 : l2 ≤ 9223372036854775807) (hs3 : Sl .u16 W a3 l3 xs3) (hd3 : Dig B16 xs3) (hl3 : l3 ≤ 9223372036854775807) (hs4 : Sl .u16 W a4 l4 xs4) (hd4 : Dig B16 xs4) (hl4 : l4 ≤ 9223372036854775807) (hs5 : Sl .u16 W a5 l5 xs5) (hd5 : Dig B16 xs5) (hl5 : l5 ≤ 9223372036854775807) (hs6 : Sl .u16 W a6 l6 xs6) (hd6 : Dig B16 xs6) (hl6 : l6 ≤ 9223372036854775807) :
    Calls Tryz.prog 5 #[.agg #[.bool s1, .slice a1 l1 c1], .agg #[.bool s2, .slice a2 l2 c2], .agg #[.bool s3, .slice a3 l3 c3], .agg #[.bool s4, .slice a4 l4 c4], .agg #[.bool s5, .slice a5 l5 c5], .agg #[.bool s6, .slice a6 l6 c6]] W fun e w' => e = .returned (.bool true) ∧ Below W.heap.size W w' := by
  have hf : Fr W ((((((W.alloc (.cells #[.bool s1, .slice a1 l1 c1] 43)).alloc (.cells #[.bool s2, .slice a2 l2 c2] 43)).alloc (.cells #[.bool s3, .slice a3 l3 c3] 43)).alloc (.cells #[.bool s4, .slice a4 l4 c4] 43)).alloc (.cells #[.bool s5, .slice a5 l5 c5] 43)).alloc (.cells #[.bool s6, .slice a6 l6 c6] 43)) [(43, #[.bool s1, .slice a1 l1 c1]), (43, #[.bool s2, .slice a2 l2 c2]), (43, #[.bool s3, .slice a3 l3 c3]), (43, #[.bool s4, .slice a4 l4 c4]), (43, #[.bool s5, .slice a5 l5 c5]), (43, #[.bool s6, .slice a6 l6 c6])] := ((((((Fr.nil W).alloc rfl _ _).alloc (by simp) _ _).alloc (by simp) _ _).alloc (by simp) _ _).alloc (by simp) _ _).alloc (by simp) _ _
  obtain ⟨V, hV⟩ : ∃ V, V = ((((((W.alloc (.cells #[.bool s1, .slice a1 l1 c1] 43)).alloc (.cells #[.bool s2, .slice a2 l2 c2] 43)).alloc (.cells #[.bool s3, .slice a3 l3 c3] 43)).alloc (.cells #[.bool s4, .slice a4 l4 c4] 43)).alloc (.cells #[.bool s5, .slice a5 l5 c5] 43)).alloc (.cells #[.bool s6, .slice a6 l6 c6] 43)) := ⟨_, rfl⟩
  have FP0 : Hid (Fr W V [(43, #[.bool s1, .slice a1 l1 c1]), (43, #[.bool s2, .slice a2 l2 c2]), (43, #[.bool s3, .slice a3 l3 c3]), (43, #[.bool s4, .slice a4 l4 c4]), (43, #[.bool s5, .slice a5 l5 c5]), (43, #[.bool s6, .slice a6 l6 c6])]) := by rw [hV]; exact hf
  have HS10 : Hid (Sl .u16 V a1 l1 xs1) := by rw [hV]; exact hs1.keep hf.below
  have HS20 : Hid (Sl .u16 V a2 l2 xs2) := by rw [hV]; exact hs2.keep hf.below
  have HS30 : Hid (Sl .u16 V a3 l3 xs3) := by rw [hV]; exact hs3.keep hf.below
  have HS40 : Hid (Sl .u16 V a4 l4 xs4) := by rw [hV]; exact hs4.keep hf.below
  have HS50 : Hid (Sl .u16 V a5 l5 xs5) := by rw [hV]; exact hs5.keep hf.below
  have HS60 : Hid (Sl .u16 V a6 l6 xs6) := by rw [hV]; exact hs6.keep hf.below
  clear hf hs1 hs2 hs3 hs4 hs5 hs6
  go_enter Tryz.func5, Tryz.ntmps5
  go_upto_region 1 with fail
  rw [← hV]
  clear hV
  have qq0 : V.cell? ⟨W.heap.size, 0, none⟩ = some (.bool s1) := FP0.out.cell 0 0 rfl rfl
  have qq1 : V.cell? ⟨W.heap.size, 1, none⟩ = some (.slice a1 l1 c1) := FP0.out.cell 0 1 rfl rfl
  have qq2 : V.cell? ⟨W.heap.size + 1, 0, none⟩ = some (.bool s2) := FP0.out.cell 1 0 rfl rfl
  have qq3 : V.cell? ⟨W.heap.size + 1, 1, none⟩ = some (.slice a2 l2 c2) := FP0.out.cell 1 1 rfl rfl
  have qq4 : V.cell? ⟨W.heap.size + 2, 0, none⟩ = some (.bool s3) := FP0.out.cell 2 0 rfl rfl
  have qq5 : V.cell? ⟨W.heap.size + 2, 1, none⟩ = some (.slice a3 l3 c3) := FP0.out.cell 2 1 rfl rfl
  have qq6 : V.cell? ⟨W.heap.size + 3, 0, none⟩ = some (.bool s4) := FP0.out.cell 3 0 rfl rfl
  have qq7 : V.cell? ⟨W.heap.size + 3, 1, none⟩ = some (.slice a4 l4 c4) := FP0.out.cell 3 1 rfl rfl
  have qq8 : V.cell? ⟨W.heap.size + 4, 0, none⟩ = some (.bool s5) := FP0.out.cell 4 0 rfl rfl
  have qq9 : V.cell? ⟨W.heap.size + 4, 1, none⟩ = some (.slice a5 l5 c5) := FP0.out.cell 4 1 rfl rfl
  have qq10 : V.cell? ⟨W.heap.size + 5, 0, none⟩ = some (.bool s6) := FP0.out.cell 5 0 rfl rfl
  have qq11 : V.cell? ⟨W.heap.size + 5, 1, none⟩ = some (.slice a6 l6 c6) := FP0.out.cell 5 1 rfl rfl
  go_wp2_with fail
  refine ((half_any s1 s2 a1 a2 l1 l2 c1 c2 8 xs1 xs2 _ _ _ HS10.out hd1 HS20.out hd2 rfl rfl (by omega) hl1 hl2).mono fun e w h => h.small (rawZ_bl s1 xs1 hd1 8) (rawZ_bl s2 xs2 hd2 8)).mono ?_
  rintro e w1 ⟨nf, of, lf, cf, bf, mf, df, spf, opf, lpf, cpf, sqf, oqf, lqf, cqf, pf, qf, okf, rfl, hlf, hmf, hq, hz, hb⟩
  clear qq0 qq1 qq2 qq3 qq4 qq5 qq6 qq7 qq8 qq9 qq10 qq11
  have FP1a := Lib.hid (FP0.out.later hb)
  have HS11a := Lib.hid (HS10.out.keep hb)
  have HS21a := Lib.hid (HS20.out.keep hb)
  have HS31a := Lib.hid (HS30.out.keep hb)
  have HS41a := Lib.hid (HS40.out.keep hb)
  have HS51a := Lib.hid (HS50.out.keep hb)
  have HS61a := Lib.hid (HS60.out.keep hb)
  have hf : Fr w1 ((w1.alloc (.cells #[.bool nf, .slice of lf cf, .slice bf mf df] 27)).alloc (.cells #[.bool spf, .slice opf lpf cpf, .bool sqf, .slice oqf lqf cqf] 35)) [(27, #[.bool nf, .slice of lf cf, .slice bf mf df]), (35, #[.bool spf, .slice opf lpf cpf, .bool sqf, .slice oqf lqf cqf])] := ((Fr.nil w1).alloc rfl _ _).alloc (by simp) _ _
  have FP1b := Lib.hid (FP1a.out.later hf.below)
  have HS11b := Lib.hid (HS11a.out.keep hf.below)
  have HS21b := Lib.hid (HS21a.out.keep hf.below)
  have HS31b := Lib.hid (HS31a.out.keep hf.below)
  have HS41b := Lib.hid (HS41a.out.keep hf.below)
  have HS51b := Lib.hid (HS51a.out.keep hf.below)
  have HS61b := Lib.hid (HS61a.out.keep hf.below)
  have FFf1 := Lib.hid hf
  have HF1 := Lib.hid (hq.keep hf.below)
  have hqpf : 0 < qf := hq.pos
  have HZF := Lib.hid hz
  clear hb hq hz hf
  have qq0 : ((w1.alloc (.cells #[.bool nf, .slice of lf cf, .slice bf mf df] 27)).alloc (.cells #[.bool spf, .slice opf lpf cpf, .bool sqf, .slice oqf lqf cqf] 35)).cell? ⟨W.heap.size, 0, none⟩ = some (.bool s1) := FP1b.out.cell 0 0 rfl rfl
  have qq1 : ((w1.alloc (.cells #[.bool nf, .slice of lf cf, .slice bf mf df] 27)).alloc (.cells #[.bool spf, .slice opf lpf cpf, .bool sqf, .slice oqf lqf cqf] 35)).cell? ⟨W.heap.size, 1, none⟩ = some (.slice a1 l1 c1) := FP1b.out.cell 0 1 rfl rfl
  have qq2 : ((w1.alloc (.cells #[.bool nf, .slice of lf cf, .slice bf mf df] 27)).alloc (.cells #[.bool spf, .slice opf lpf cpf, .bool sqf, .slice oqf lqf cqf] 35)).cell? ⟨W.heap.size + 1, 0, none⟩ = some (.bool s2) := FP1b.out.cell 1 0 rfl rfl
  have qq3 : ((w1.alloc (.cells #[.bool nf, .slice of lf cf, .slice bf mf df] 27)).alloc (.cells #[.bool spf, .slice opf lpf cpf, .bool sqf, .slice oqf lqf cqf] 35)).cell? ⟨W.heap.size + 1, 1, none⟩ = some (.slice a2 l2 c2) := FP1b.out.cell 1 1 rfl rfl
  have qq4 : ((w1.alloc (.cells #[.bool nf, .slice of lf cf, .slice bf mf df] 27)).alloc (.cells #[.bool spf, .slice opf lpf cpf, .bool sqf, .slice oqf lqf cqf] 35)).cell? ⟨W.heap.size + 2, 0, none⟩ = some (.bool s3) := FP1b.out.cell 2 0 rfl rfl
  have qq5 : ((w1.alloc (.cells #[.bool nf, .slice of lf cf, .slice bf mf df] 27)).alloc (.cells #[.bool spf, .slice opf lpf cpf, .bool sqf, .slice oqf lqf cqf] 35)).cell? ⟨W.heap.size + 2, 1, none⟩ = some (.slice a3 l3 c3) := FP1b.out.cell 2 1 rfl rfl
  have qq6 : ((w1.alloc (.cells #[.bool nf, .slice of lf cf, .slice bf mf df] 27)).alloc (.cells #[.bool spf, .slice opf lpf cpf, .bool sqf, .slice oqf lqf cqf] 35)).cell? ⟨W.heap.size + 3, 0, none⟩ = some (.bool s4) := FP1b.out.cell 3 0 rfl rfl
  have qq7 : ((w1.alloc (.cells #[.bool nf, .slice of lf cf, .slice bf mf df] 27)).alloc (.cells #[.bool spf, .slice opf lpf cpf, .bool sqf, .slice oqf lqf cqf] 35)).cell? ⟨W.heap.size + 3, 1, none⟩ = some (.slice a4 l4 c4) := FP1b.out.cell 3 1 rfl rfl
  have qq8 : ((w1.alloc (.cells #[.bool nf, .slice of lf cf, .slice bf mf df] 27)).alloc (.cells #[.bool spf, .slice opf lpf cpf, .bool sqf, .slice oqf lqf cqf] 35)).cell? ⟨W.heap.size + 4, 0, none⟩ = some (.bool s5) := FP1b.out.cell 4 0 rfl rfl
  have qq9 : ((w1.alloc (.cells #[.bool nf, .slice of lf cf, .slice bf mf df] 27)).alloc (.cells #[.bool spf, .slice opf lpf cpf, .bool sqf, .slice oqf lqf cqf] 35)).cell? ⟨W.heap.size + 4, 1, none⟩ = some (.slice a5 l5 c5) := FP1b.out.cell 4 1 rfl rfl
  have qq10 : ((w1.alloc (.cells #[.bool nf, .slice of lf cf, .slice bf mf df] 27)).alloc (.cells #[.bool spf, .slice opf lpf cpf, .bool sqf, .slice oqf lqf cqf] 35)).cell? ⟨W.heap.size + 5, 0, none⟩ = some (.bool s6) := FP1b.out.cell 5 0 rfl rfl
  have qq11 : ((w1.alloc (.cells #[.bool nf, .slice of lf cf, .slice bf mf df] 27)).alloc (.cells #[.bool spf, .slice opf lpf cpf, .bool sqf, .slice oqf lqf cqf] 35)).cell? ⟨W.heap.size + 5, 1, none⟩ = some (.slice a6 l6 c6) := FP1b.out.cell 5 1 rfl rfl
  go_wp2_with fail
  refine ((half_any s3 s4 a3 a4 l3 l4 c3 c4 8 xs3 xs4 _ _ _ HS31b.out hd3 HS41b.out hd4 rfl rfl (by omega) hl3 hl4).mono fun e w h => h.small (rawZ_bl s3 xs3 hd3 8) (rawZ_bl s4 xs4 hd4 8)).mono ?_
  rintro e w2 ⟨ng, og, lg, cg, bg, mg, dg, spg, opg, lpg, cpg, sqg, oqg, lqg, cqg, pg, qg, okg, rfl, hlg, hmg, hq, hz, hb⟩
  clear qq0 qq1 qq2 qq3 qq4 qq5 qq6 qq7 qq8 qq9 qq10 qq11
  have FP2a := Lib.hid (FP1b.out.later hb)
  have FFf2a := Lib.hid (FFf1.out.later hb)
  have HS12a := Lib.hid (HS11b.out.keep hb)
  have HS22a := Lib.hid (HS21b.out.keep hb)
  have HS32a := Lib.hid (HS31b.out.keep hb)
  have HS42a := Lib.hid (HS41b.out.keep hb)
  have HS52a := Lib.hid (HS51b.out.keep hb)
  have HS62a := Lib.hid (HS61b.out.keep hb)
  have HF2a := Lib.hid (HF1.out.keep hb)
  have hf : Fr w2 ((w2.alloc (.cells #[.bool ng, .slice og lg cg, .slice bg mg dg] 27)).alloc (.cells #[.bool spg, .slice opg lpg cpg, .bool sqg, .slice oqg lqg cqg] 35)) [(27, #[.bool ng, .slice og lg cg, .slice bg mg dg]), (35, #[.bool spg, .slice opg lpg cpg, .bool sqg, .slice oqg lqg cqg])] := ((Fr.nil w2).alloc rfl _ _).alloc (by simp) _ _
  have FP2b := Lib.hid (FP2a.out.later hf.below)
  have FFf2b := Lib.hid (FFf2a.out.later hf.below)
  have HS12b := Lib.hid (HS12a.out.keep hf.below)
  have HS22b := Lib.hid (HS22a.out.keep hf.below)
  have HS32b := Lib.hid (HS32a.out.keep hf.below)
  have HS42b := Lib.hid (HS42a.out.keep hf.below)
  have HS52b := Lib.hid (HS52a.out.keep hf.below)
  have HS62b := Lib.hid (HS62a.out.keep hf.below)
  have HF2b := Lib.hid (HF2a.out.keep hf.below)
  have FFg2 := Lib.hid hf
  have HG2 := Lib.hid (hq.keep hf.below)
  have hqpg : 0 < qg := hq.pos
  have HZG := Lib.hid hz
  clear hb hq hz hf
  have qq0 : ((w2.alloc (.cells #[.bool ng, .slice og lg cg, .slice bg mg dg] 27)).alloc (.cells #[.bool spg, .slice opg lpg cpg, .bool sqg, .slice oqg lqg cqg] 35)).cell? ⟨W.heap.size, 0, none⟩ = some (.bool s1) := FP2b.out.cell 0 0 rfl rfl
  have qq1 : ((w2.alloc (.cells #[.bool ng, .slice og lg cg, .slice bg mg dg] 27)).alloc (.cells #[.bool spg, .slice opg lpg cpg, .bool sqg, .slice oqg lqg cqg] 35)).cell? ⟨W.heap.size, 1, none⟩ = some (.slice a1 l1 c1) := FP2b.out.cell 0 1 rfl rfl
  have qq2 : ((w2.alloc (.cells #[.bool ng, .slice og lg cg, .slice bg mg dg] 27)).alloc (.cells #[.bool spg, .slice opg lpg cpg, .bool sqg, .slice oqg lqg cqg] 35)).cell? ⟨W.heap.size + 1, 0, none⟩ = some (.bool s2) := FP2b.out.cell 1 0 rfl rfl
  have qq3 : ((w2.alloc (.cells #[.bool ng, .slice og lg cg, .slice bg mg dg] 27)).alloc (.cells #[.bool spg, .slice opg lpg cpg, .bool sqg, .slice oqg lqg cqg] 35)).cell? ⟨W.heap.size + 1, 1, none⟩ = some (.slice a2 l2 c2) := FP2b.out.cell 1 1 rfl rfl
  have qq4 : ((w2.alloc (.cells #[.bool ng, .slice og lg cg, .slice bg mg dg] 27)).alloc (.cells #[.bool spg, .slice opg lpg cpg, .bool sqg, .slice oqg lqg cqg] 35)).cell? ⟨W.heap.size + 2, 0, none⟩ = some (.bool s3) := FP2b.out.cell 2 0 rfl rfl
  have qq5 : ((w2.alloc (.cells #[.bool ng, .slice og lg cg, .slice bg mg dg] 27)).alloc (.cells #[.bool spg, .slice opg lpg cpg, .bool sqg, .slice oqg lqg cqg] 35)).cell? ⟨W.heap.size + 2, 1, none⟩ = some (.slice a3 l3 c3) := FP2b.out.cell 2 1 rfl rfl
  have qq6 : ((w2.alloc (.cells #[.bool ng, .slice og lg cg, .slice bg mg dg] 27)).alloc (.cells #[.bool spg, .slice opg lpg cpg, .bool sqg, .slice oqg lqg cqg] 35)).cell? ⟨W.heap.size + 3, 0, none⟩ = some (.bool s4) := FP2b.out.cell 3 0 rfl rfl
  have qq7 : ((w2.alloc (.cells #[.bool ng, .slice og lg cg, .slice bg mg dg] 27)).alloc (.cells #[.bool spg, .slice opg lpg cpg, .bool sqg, .slice oqg lqg cqg] 35)).cell? ⟨W.heap.size + 3, 1, none⟩ = some (.slice a4 l4 c4) := FP2b.out.cell 3 1 rfl rfl
  have qq8 : ((w2.alloc (.cells #[.bool ng, .slice og lg cg, .slice bg mg dg] 27)).alloc (.cells #[.bool spg, .slice opg lpg cpg, .bool sqg, .slice oqg lqg cqg] 35)).cell? ⟨W.heap.size + 4, 0, none⟩ = some (.bool s5) := FP2b.out.cell 4 0 rfl rfl
  have qq9 : ((w2.alloc (.cells #[.bool ng, .slice og lg cg, .slice bg mg dg] 27)).alloc (.cells #[.bool spg, .slice opg lpg cpg, .bool sqg, .slice oqg lqg cqg] 35)).cell? ⟨W.heap.size + 4, 1, none⟩ = some (.slice a5 l5 c5) := FP2b.out.cell 4 1 rfl rfl
  have qq10 : ((w2.alloc (.cells #[.bool ng, .slice og lg cg, .slice bg mg dg] 27)).alloc (.cells #[.bool spg, .slice opg lpg cpg, .bool sqg, .slice oqg lqg cqg] 35)).cell? ⟨W.heap.size + 5, 0, none⟩ = some (.bool s6) := FP2b.out.cell 5 0 rfl rfl
  have qq11 : ((w2.alloc (.cells #[.bool ng, .slice og lg cg, .slice bg mg dg] 27)).alloc (.cells #[.bool spg, .slice opg lpg cpg, .bool sqg, .slice oqg lqg cqg] 35)).cell? ⟨W.heap.size + 5, 1, none⟩ = some (.slice a6 l6 c6) := FP2b.out.cell 5 1 rfl rfl
  go_wp2_with fail
  refine ((half_any s5 s6 a5 a6 l5 l6 c5 c6 8 xs5 xs6 _ _ _ HS52b.out hd5 HS62b.out hd6 rfl rfl (by omega) hl5 hl6).mono fun e w h => h.small (rawZ_bl s5 xs5 hd5 8) (rawZ_bl s6 xs6 hd6 8)).mono ?_
  rintro e w3 ⟨nh, oh, lh, ch, bh, mh, dh, sph, oph, lph, cph, sqh, oqh, lqh, cqh, ph, qh, okh, rfl, hlh, hmh, hq, hz, hb⟩
  clear qq0 qq1 qq2 qq3 qq4 qq5 qq6 qq7 qq8 qq9 qq10 qq11
  have FP3a := Lib.hid (FP2b.out.later hb)
  have FFf3a := Lib.hid (FFf2b.out.later hb)
  have FFg3a := Lib.hid (FFg2.out.later hb)
  have HS13a := Lib.hid (HS12b.out.keep hb)
  have HS23a := Lib.hid (HS22b.out.keep hb)
  have HS33a := Lib.hid (HS32b.out.keep hb)
  have HS43a := Lib.hid (HS42b.out.keep hb)
  have HS53a := Lib.hid (HS52b.out.keep hb)
  have HS63a := Lib.hid (HS62b.out.keep hb)
  have HF3a := Lib.hid (HF2b.out.keep hb)
  have HG3a := Lib.hid (HG2.out.keep hb)
  have hf : Fr w3 ((w3.alloc (.cells #[.bool nh, .slice oh lh ch, .slice bh mh dh] 27)).alloc (.cells #[.bool sph, .slice oph lph cph, .bool sqh, .slice oqh lqh cqh] 35)) [(27, #[.bool nh, .slice oh lh ch, .slice bh mh dh]), (35, #[.bool sph, .slice oph lph cph, .bool sqh, .slice oqh lqh cqh])] := ((Fr.nil w3).alloc rfl _ _).alloc (by simp) _ _
  have FP3b := Lib.hid (FP3a.out.later hf.below)
  have FFf3b := Lib.hid (FFf3a.out.later hf.below)
  have FFg3b := Lib.hid (FFg3a.out.later hf.below)
  have HS13b := Lib.hid (HS13a.out.keep hf.below)
  have HS23b := Lib.hid (HS23a.out.keep hf.below)
  have HS33b := Lib.hid (HS33a.out.keep hf.below)
  have HS43b := Lib.hid (HS43a.out.keep hf.below)
  have HS53b := Lib.hid (HS53a.out.keep hf.below)
  have HS63b := Lib.hid (HS63a.out.keep hf.below)
  have HF3b := Lib.hid (HF3a.out.keep hf.below)
  have HG3b := Lib.hid (HG3a.out.keep hf.below)
  have FFh3 := Lib.hid hf
  have HH3 := Lib.hid (hq.keep hf.below)
  have hqph : 0 < qh := hq.pos
  have HZH := Lib.hid hz
  clear hb hq hz hf
  cases okf with
  | false =>
    go_wp2_with fail
    refine (awake_any _).mono ?_
    rintro e w4 ⟨rfl, hb⟩
    have FP4a := Lib.hid (FP3b.out.later hb)
    have FFf4a := Lib.hid (FFf3b.out.later hb)
    have FFg4a := Lib.hid (FFg3b.out.later hb)
    have FFh4a := Lib.hid (FFh3.out.later hb)
    have HF4a := Lib.hid (HF3b.out.keep hb)
    have HG4a := Lib.hid (HG3b.out.keep hb)
    have HH4a := Lib.hid (HH3.out.keep hb)
    clear hb
    go_wp2
    go_ret
    exact ⟨rfl, FP4a.out.below⟩
  | true =>
    cases okg with
    | false =>
      go_wp2_with fail
      refine (awake_any _).mono ?_
      rintro e w4 ⟨rfl, hb⟩
      have FP4a := Lib.hid (FP3b.out.later hb)
      have FFf4a := Lib.hid (FFf3b.out.later hb)
      have FFg4a := Lib.hid (FFg3b.out.later hb)
      have FFh4a := Lib.hid (FFh3.out.later hb)
      have HF4a := Lib.hid (HF3b.out.keep hb)
      have HG4a := Lib.hid (HG3b.out.keep hb)
      have HH4a := Lib.hid (HH3.out.keep hb)
      clear hb
      go_wp2
      go_ret
      exact ⟨rfl, FP4a.out.below⟩
    | true =>
      cases okh with
      | false =>
        go_wp2_with fail
        refine (awake_any _).mono ?_
        rintro e w4 ⟨rfl, hb⟩
        have FP4a := Lib.hid (FP3b.out.later hb)
        have FFf4a := Lib.hid (FFf3b.out.later hb)
        have FFg4a := Lib.hid (FFg3b.out.later hb)
        have FFh4a := Lib.hid (FFh3.out.later hb)
        have HF4a := Lib.hid (HF3b.out.keep hb)
        have HG4a := Lib.hid (HG3b.out.keep hb)
        have HH4a := Lib.hid (HH3.out.keep hb)
        clear hb
        go_wp2
        go_ret
        exact ⟨rfl, FP4a.out.below⟩
      | true =>
        have hzz := HZF.out rfl
        have KPF := Lib.hid hzz.1
        have KQF := Lib.hid hzz.2.1
        have KCF := Lib.hid hzz.2.2
        clear hzz HZF
        have hzz := HZG.out rfl
        have KPG := Lib.hid hzz.1
        have KQG := Lib.hid hzz.2.1
        have KCG := Lib.hid hzz.2.2
        clear hzz HZG
        have hzz := HZH.out rfl
        have KPH := Lib.hid hzz.1
        have KQH := Lib.hid hzz.2.1
        have KCH := Lib.hid hzz.2.2
        clear hzz HZH
        have hqif : (0 : Int) < (qf : Int) := by omega
        have hqig : (0 : Int) < (qg : Int) := by omega
        have hqih : (0 : Int) < (qh : Int) := by omega
        have qq0 : ((w3.alloc (.cells #[.bool nh, .slice oh lh ch, .slice bh mh dh] 27)).alloc (.cells #[.bool sph, .slice oph lph cph, .bool sqh, .slice oqh lqh cqh] 35)).cell? ⟨w1.heap.size, 0, none⟩ = some (.bool nf) := FFf3b.out.cell 0 0 rfl rfl
        have qq1 : ((w3.alloc (.cells #[.bool nh, .slice oh lh ch, .slice bh mh dh] 27)).alloc (.cells #[.bool sph, .slice oph lph cph, .bool sqh, .slice oqh lqh cqh] 35)).cell? ⟨w1.heap.size, 1, none⟩ = some (.slice of lf cf) := FFf3b.out.cell 0 1 rfl rfl
        have qq2 : ((w3.alloc (.cells #[.bool nh, .slice oh lh ch, .slice bh mh dh] 27)).alloc (.cells #[.bool sph, .slice oph lph cph, .bool sqh, .slice oqh lqh cqh] 35)).cell? ⟨w1.heap.size, 2, none⟩ = some (.slice bf mf df) := FFf3b.out.cell 0 2 rfl rfl
        have qq3 : ((w3.alloc (.cells #[.bool nh, .slice oh lh ch, .slice bh mh dh] 27)).alloc (.cells #[.bool sph, .slice oph lph cph, .bool sqh, .slice oqh lqh cqh] 35)).cell? ⟨w2.heap.size, 0, none⟩ = some (.bool ng) := FFg3b.out.cell 0 0 rfl rfl
        have qq4 : ((w3.alloc (.cells #[.bool nh, .slice oh lh ch, .slice bh mh dh] 27)).alloc (.cells #[.bool sph, .slice oph lph cph, .bool sqh, .slice oqh lqh cqh] 35)).cell? ⟨w2.heap.size, 1, none⟩ = some (.slice og lg cg) := FFg3b.out.cell 0 1 rfl rfl
        have qq5 : ((w3.alloc (.cells #[.bool nh, .slice oh lh ch, .slice bh mh dh] 27)).alloc (.cells #[.bool sph, .slice oph lph cph, .bool sqh, .slice oqh lqh cqh] 35)).cell? ⟨w2.heap.size, 2, none⟩ = some (.slice bg mg dg) := FFg3b.out.cell 0 2 rfl rfl
        go_wp2_with fail
        refine ((ratAdd_any nf ng of bf og bg lf mf lg mg cf df cg dg pf pg qf qg _ HF3b.out HG3b.out (by omega) (by omega) (by omega) (by omega)).mono fun e w h => h.fine ((((KPF.out.mul KQG.out).mono (j := 256) (by decide)).add ((KPG.out.mul KQF.out).mono (j := 256) (by decide))).fits (by decide)) ((((KQF.out.mul KQG.out).mono (j := 256) (by decide)).mono (j := 257) (by decide)).fits (by decide))).mono ?_
        rintro e w5 ⟨ns, os, ls, cs, bs, ms, ds, rfl, hls, hms, hz, hb⟩
        clear qq0 qq1 qq2 qq3 qq4 qq5
        have FP5a := Lib.hid (FP3b.out.later hb)
        have FFf5a := Lib.hid (FFf3b.out.later hb)
        have FFg5a := Lib.hid (FFg3b.out.later hb)
        have FFh5a := Lib.hid (FFh3.out.later hb)
        have HF5a := Lib.hid (HF3b.out.keep hb)
        have HG5a := Lib.hid (HG3b.out.keep hb)
        have HH5a := Lib.hid (HH3.out.keep hb)
        have hf : Fr w5 (w5.alloc (.cells #[.bool ns, .slice os ls cs, .slice bs ms ds] 27)) [(27, #[.bool ns, .slice os ls cs, .slice bs ms ds])] := (Fr.nil w5).alloc rfl _ _
        have FP5b := Lib.hid (FP5a.out.later hf.below)
        have FFf5b := Lib.hid (FFf5a.out.later hf.below)
        have FFg5b := Lib.hid (FFg5a.out.later hf.below)
        have FFh5b := Lib.hid (FFh5a.out.later hf.below)
        have HF5b := Lib.hid (HF5a.out.keep hf.below)
        have HG5b := Lib.hid (HG5a.out.keep hf.below)
        have HH5b := Lib.hid (HH5a.out.keep hf.below)
        obtain ⟨ps, hp⟩ : ∃ p, p = lowP (pf * (qg : Int) + pg * (qf : Int)) ((qf : Int) * (qg : Int)) := ⟨_, rfl⟩
        obtain ⟨qs, hq⟩ : ∃ q, q = lowQ (pf * (qg : Int) + pg * (qf : Int)) ((qf : Int) * (qg : Int)) := ⟨_, rfl⟩
        rw [← hp, ← hq] at hz
        have hqps : 0 < qs := hz.pos
        have hqis : (0 : Int) < (qs : Int) := by omega
        have KPS : Hid (Bl 257 ps) := by show Bl _ _; rw [hp]; exact Bl.low _ (((KPF.out.mul KQG.out).mono (j := 256) (by decide)).add ((KPG.out.mul KQF.out).mono (j := 256) (by decide)))
        have KQS : Hid (Bl 257 (qs : Int)) := by show Bl _ _; rw [hq]; exact Bl.lowq _ (((KQF.out.mul KQG.out).mono (j := 256) (by decide)).mono (j := 257) (by decide))
        have EVS : Hid (Eqf ps qs (pf * (qg : Int) + pg * (qf : Int)) ((qf : Int) * (qg : Int))) := by show Eqf _ _ _ _; rw [hp, hq]; exact eqf_trans (Int.ne_of_gt (Int.mul_pos hqif hqig)) (eqf_low (Int.mul_pos hqif hqig)) (eqf_add (eqf_refl pf qf) (eqf_refl pg qg))
        have FUs5 := Lib.hid hf
        have HS5 := Lib.hid (hz.keep hf.below)
        clear hb hz hf hp hq
        have qq0 : (w5.alloc (.cells #[.bool ns, .slice os ls cs, .slice bs ms ds] 27)).cell? ⟨w3.heap.size, 0, none⟩ = some (.bool nh) := FFh5b.out.cell 0 0 rfl rfl
        have qq1 : (w5.alloc (.cells #[.bool ns, .slice os ls cs, .slice bs ms ds] 27)).cell? ⟨w3.heap.size, 1, none⟩ = some (.slice oh lh ch) := FFh5b.out.cell 0 1 rfl rfl
        have qq2 : (w5.alloc (.cells #[.bool ns, .slice os ls cs, .slice bs ms ds] 27)).cell? ⟨w3.heap.size, 2, none⟩ = some (.slice bh mh dh) := FFh5b.out.cell 0 2 rfl rfl
        have qq3 : (w5.alloc (.cells #[.bool ns, .slice os ls cs, .slice bs ms ds] 27)).cell? ⟨w5.heap.size, 0, none⟩ = some (.bool ns) := FUs5.out.cell 0 0 rfl rfl
        have qq4 : (w5.alloc (.cells #[.bool ns, .slice os ls cs, .slice bs ms ds] 27)).cell? ⟨w5.heap.size, 1, none⟩ = some (.slice os ls cs) := FUs5.out.cell 0 1 rfl rfl
        have qq5 : (w5.alloc (.cells #[.bool ns, .slice os ls cs, .slice bs ms ds] 27)).cell? ⟨w5.heap.size, 2, none⟩ = some (.slice bs ms ds) := FUs5.out.cell 0 2 rfl rfl
        go_wp2_with fail
        refine ((ratAdd_any ns nh os bs oh bh ls ms lh mh cs ds ch dh ps ph qs qh _ HS5.out HH5b.out (by omega) (by omega) (by omega) (by omega)).mono fun e w h => h.fine ((((KPS.out.mul KQH.out).mono (j := 385) (by decide)).add ((KPH.out.mul KQS.out).mono (j := 385) (by decide))).fits (by decide)) ((((KQS.out.mul KQH.out).mono (j := 385) (by decide)).mono (j := 386) (by decide)).fits (by decide))).mono ?_
        rintro e w6 ⟨nt, ot, lt, ct, bt, mt, dt, rfl, hlt, hmt, hz, hb⟩
        clear qq0 qq1 qq2 qq3 qq4 qq5
        have FP6a := Lib.hid (FP5b.out.later hb)
        have FFf6a := Lib.hid (FFf5b.out.later hb)
        have FFg6a := Lib.hid (FFg5b.out.later hb)
        have FFh6a := Lib.hid (FFh5b.out.later hb)
        have FUs6a := Lib.hid (FUs5.out.later hb)
        have HF6a := Lib.hid (HF5b.out.keep hb)
        have HG6a := Lib.hid (HG5b.out.keep hb)
        have HH6a := Lib.hid (HH5b.out.keep hb)
        have HS6a := Lib.hid (HS5.out.keep hb)
        have hf : Fr w6 (w6.alloc (.cells #[.bool nt, .slice ot lt ct, .slice bt mt dt] 27)) [(27, #[.bool nt, .slice ot lt ct, .slice bt mt dt])] := (Fr.nil w6).alloc rfl _ _
        have FP6b := Lib.hid (FP6a.out.later hf.below)
        have FFf6b := Lib.hid (FFf6a.out.later hf.below)
        have FFg6b := Lib.hid (FFg6a.out.later hf.below)
        have FFh6b := Lib.hid (FFh6a.out.later hf.below)
        have FUs6b := Lib.hid (FUs6a.out.later hf.below)
        have HF6b := Lib.hid (HF6a.out.keep hf.below)
        have HG6b := Lib.hid (HG6a.out.keep hf.below)
        have HH6b := Lib.hid (HH6a.out.keep hf.below)
        have HS6b := Lib.hid (HS6a.out.keep hf.below)
        obtain ⟨pt, hp⟩ : ∃ p, p = lowP (ps * (qh : Int) + ph * (qs : Int)) ((qs : Int) * (qh : Int)) := ⟨_, rfl⟩
        obtain ⟨qt, hq⟩ : ∃ q, q = lowQ (ps * (qh : Int) + ph * (qs : Int)) ((qs : Int) * (qh : Int)) := ⟨_, rfl⟩
        rw [← hp, ← hq] at hz
        have hqpt : 0 < qt := hz.pos
        have hqit : (0 : Int) < (qt : Int) := by omega
        have KPT : Hid (Bl 386 pt) := by show Bl _ _; rw [hp]; exact Bl.low _ (((KPS.out.mul KQH.out).mono (j := 385) (by decide)).add ((KPH.out.mul KQS.out).mono (j := 385) (by decide)))
        have KQT : Hid (Bl 386 (qt : Int)) := by show Bl _ _; rw [hq]; exact Bl.lowq _ (((KQS.out.mul KQH.out).mono (j := 385) (by decide)).mono (j := 386) (by decide))
        have EVT : Hid (Eqf pt qt ((pf * (qg : Int) + pg * (qf : Int)) * (qh : Int) + ph * ((qf : Int) * (qg : Int))) (((qf : Int) * (qg : Int)) * (qh : Int))) := by show Eqf _ _ _ _; rw [hp, hq]; exact eqf_trans (Int.ne_of_gt (Int.mul_pos hqis hqih)) (eqf_low (Int.mul_pos hqis hqih)) (eqf_add EVS.out (eqf_refl ph qh))
        have GCT : Hid (Nat.gcd pt.natAbs qt = 1) := by show Nat.gcd _ _ = 1; rw [hp, hq]; exact low_coprime (Int.ne_of_gt (Int.mul_pos hqis hqih))
        have FUt6 := Lib.hid hf
        have HT6 := Lib.hid (hz.keep hf.below)
        clear hb hz hf hp hq
        have qq0 : (w6.alloc (.cells #[.bool nt, .slice ot lt ct, .slice bt mt dt] 27)).cell? ⟨w2.heap.size, 0, none⟩ = some (.bool ng) := FFg6b.out.cell 0 0 rfl rfl
        have qq1 : (w6.alloc (.cells #[.bool nt, .slice ot lt ct, .slice bt mt dt] 27)).cell? ⟨w2.heap.size, 1, none⟩ = some (.slice og lg cg) := FFg6b.out.cell 0 1 rfl rfl
        have qq2 : (w6.alloc (.cells #[.bool nt, .slice ot lt ct, .slice bt mt dt] 27)).cell? ⟨w2.heap.size, 2, none⟩ = some (.slice bg mg dg) := FFg6b.out.cell 0 2 rfl rfl
        have qq3 : (w6.alloc (.cells #[.bool nt, .slice ot lt ct, .slice bt mt dt] 27)).cell? ⟨w3.heap.size, 0, none⟩ = some (.bool nh) := FFh6b.out.cell 0 0 rfl rfl
        have qq4 : (w6.alloc (.cells #[.bool nt, .slice ot lt ct, .slice bt mt dt] 27)).cell? ⟨w3.heap.size, 1, none⟩ = some (.slice oh lh ch) := FFh6b.out.cell 0 1 rfl rfl
        have qq5 : (w6.alloc (.cells #[.bool nt, .slice ot lt ct, .slice bt mt dt] 27)).cell? ⟨w3.heap.size, 2, none⟩ = some (.slice bh mh dh) := FFh6b.out.cell 0 2 rfl rfl
        go_wp2_with fail
        refine ((ratAdd_any ng nh og bg oh bh lg mg lh mh cg dg ch dh pg ph qg qh _ HG6b.out HH6b.out (by omega) (by omega) (by omega) (by omega)).mono fun e w h => h.fine ((((KPG.out.mul KQH.out).mono (j := 256) (by decide)).add ((KPH.out.mul KQG.out).mono (j := 256) (by decide))).fits (by decide)) ((((KQG.out.mul KQH.out).mono (j := 256) (by decide)).mono (j := 257) (by decide)).fits (by decide))).mono ?_
        rintro e w7 ⟨nu, ou, lu, cu, bu, mu, du, rfl, hlu, hmu, hz, hb⟩
        clear qq0 qq1 qq2 qq3 qq4 qq5
        have FP7a := Lib.hid (FP6b.out.later hb)
        have FFf7a := Lib.hid (FFf6b.out.later hb)
        have FFg7a := Lib.hid (FFg6b.out.later hb)
        have FFh7a := Lib.hid (FFh6b.out.later hb)
        have FUs7a := Lib.hid (FUs6b.out.later hb)
        have FUt7a := Lib.hid (FUt6.out.later hb)
        have HF7a := Lib.hid (HF6b.out.keep hb)
        have HG7a := Lib.hid (HG6b.out.keep hb)
        have HH7a := Lib.hid (HH6b.out.keep hb)
        have HS7a := Lib.hid (HS6b.out.keep hb)
        have HT7a := Lib.hid (HT6.out.keep hb)
        have hf : Fr w7 (w7.alloc (.cells #[.bool nu, .slice ou lu cu, .slice bu mu du] 27)) [(27, #[.bool nu, .slice ou lu cu, .slice bu mu du])] := (Fr.nil w7).alloc rfl _ _
        have FP7b := Lib.hid (FP7a.out.later hf.below)
        have FFf7b := Lib.hid (FFf7a.out.later hf.below)
        have FFg7b := Lib.hid (FFg7a.out.later hf.below)
        have FFh7b := Lib.hid (FFh7a.out.later hf.below)
        have FUs7b := Lib.hid (FUs7a.out.later hf.below)
        have FUt7b := Lib.hid (FUt7a.out.later hf.below)
        have HF7b := Lib.hid (HF7a.out.keep hf.below)
        have HG7b := Lib.hid (HG7a.out.keep hf.below)
        have HH7b := Lib.hid (HH7a.out.keep hf.below)
        have HS7b := Lib.hid (HS7a.out.keep hf.below)
        have HT7b := Lib.hid (HT7a.out.keep hf.below)
        obtain ⟨pu, hp⟩ : ∃ p, p = lowP (pg * (qh : Int) + ph * (qg : Int)) ((qg : Int) * (qh : Int)) := ⟨_, rfl⟩
        obtain ⟨qu, hq⟩ : ∃ q, q = lowQ (pg * (qh : Int) + ph * (qg : Int)) ((qg : Int) * (qh : Int)) := ⟨_, rfl⟩
        rw [← hp, ← hq] at hz
        have hqpu : 0 < qu := hz.pos
        have hqiu : (0 : Int) < (qu : Int) := by omega
        have KPU : Hid (Bl 257 pu) := by show Bl _ _; rw [hp]; exact Bl.low _ (((KPG.out.mul KQH.out).mono (j := 256) (by decide)).add ((KPH.out.mul KQG.out).mono (j := 256) (by decide)))
        have KQU : Hid (Bl 257 (qu : Int)) := by show Bl _ _; rw [hq]; exact Bl.lowq _ (((KQG.out.mul KQH.out).mono (j := 256) (by decide)).mono (j := 257) (by decide))
        have EVU : Hid (Eqf pu qu (pg * (qh : Int) + ph * (qg : Int)) ((qg : Int) * (qh : Int))) := by show Eqf _ _ _ _; rw [hp, hq]; exact eqf_trans (Int.ne_of_gt (Int.mul_pos hqig hqih)) (eqf_low (Int.mul_pos hqig hqih)) (eqf_add (eqf_refl pg qg) (eqf_refl ph qh))
        have FUu7 := Lib.hid hf
        have HU7 := Lib.hid (hz.keep hf.below)
        clear hb hz hf hp hq
        have qq0 : (w7.alloc (.cells #[.bool nu, .slice ou lu cu, .slice bu mu du] 27)).cell? ⟨w1.heap.size, 0, none⟩ = some (.bool nf) := FFf7b.out.cell 0 0 rfl rfl
        have qq1 : (w7.alloc (.cells #[.bool nu, .slice ou lu cu, .slice bu mu du] 27)).cell? ⟨w1.heap.size, 1, none⟩ = some (.slice of lf cf) := FFf7b.out.cell 0 1 rfl rfl
        have qq2 : (w7.alloc (.cells #[.bool nu, .slice ou lu cu, .slice bu mu du] 27)).cell? ⟨w1.heap.size, 2, none⟩ = some (.slice bf mf df) := FFf7b.out.cell 0 2 rfl rfl
        have qq3 : (w7.alloc (.cells #[.bool nu, .slice ou lu cu, .slice bu mu du] 27)).cell? ⟨w7.heap.size, 0, none⟩ = some (.bool nu) := FUu7.out.cell 0 0 rfl rfl
        have qq4 : (w7.alloc (.cells #[.bool nu, .slice ou lu cu, .slice bu mu du] 27)).cell? ⟨w7.heap.size, 1, none⟩ = some (.slice ou lu cu) := FUu7.out.cell 0 1 rfl rfl
        have qq5 : (w7.alloc (.cells #[.bool nu, .slice ou lu cu, .slice bu mu du] 27)).cell? ⟨w7.heap.size, 2, none⟩ = some (.slice bu mu du) := FUu7.out.cell 0 2 rfl rfl
        go_wp2_with fail
        refine ((ratAdd_any nf nu of bf ou bu lf mf lu mu cf df cu du pf pu qf qu _ HF7b.out HU7.out (by omega) (by omega) (by omega) (by omega)).mono fun e w h => h.fine ((((KPF.out.mul KQU.out).mono (j := 385) (by decide)).add ((KPU.out.mul KQF.out).mono (j := 385) (by decide))).fits (by decide)) ((((KQF.out.mul KQU.out).mono (j := 385) (by decide)).mono (j := 386) (by decide)).fits (by decide))).mono ?_
        rintro e w8 ⟨nv, ov, lv, cv, bv, mv, dv, rfl, hlv, hmv, hz, hb⟩
        clear qq0 qq1 qq2 qq3 qq4 qq5
        have FP8a := Lib.hid (FP7b.out.later hb)
        have FFf8a := Lib.hid (FFf7b.out.later hb)
        have FFg8a := Lib.hid (FFg7b.out.later hb)
        have FFh8a := Lib.hid (FFh7b.out.later hb)
        have FUs8a := Lib.hid (FUs7b.out.later hb)
        have FUt8a := Lib.hid (FUt7b.out.later hb)
        have FUu8a := Lib.hid (FUu7.out.later hb)
        have HF8a := Lib.hid (HF7b.out.keep hb)
        have HG8a := Lib.hid (HG7b.out.keep hb)
        have HH8a := Lib.hid (HH7b.out.keep hb)
        have HS8a := Lib.hid (HS7b.out.keep hb)
        have HT8a := Lib.hid (HT7b.out.keep hb)
        have HU8a := Lib.hid (HU7.out.keep hb)
        have hf : Fr w8 (w8.alloc (.cells #[.bool nv, .slice ov lv cv, .slice bv mv dv] 27)) [(27, #[.bool nv, .slice ov lv cv, .slice bv mv dv])] := (Fr.nil w8).alloc rfl _ _
        have FP8b := Lib.hid (FP8a.out.later hf.below)
        have FFf8b := Lib.hid (FFf8a.out.later hf.below)
        have FFg8b := Lib.hid (FFg8a.out.later hf.below)
        have FFh8b := Lib.hid (FFh8a.out.later hf.below)
        have FUs8b := Lib.hid (FUs8a.out.later hf.below)
        have FUt8b := Lib.hid (FUt8a.out.later hf.below)
        have FUu8b := Lib.hid (FUu8a.out.later hf.below)
        have HF8b := Lib.hid (HF8a.out.keep hf.below)
        have HG8b := Lib.hid (HG8a.out.keep hf.below)
        have HH8b := Lib.hid (HH8a.out.keep hf.below)
        have HS8b := Lib.hid (HS8a.out.keep hf.below)
        have HT8b := Lib.hid (HT8a.out.keep hf.below)
        have HU8b := Lib.hid (HU8a.out.keep hf.below)
        obtain ⟨pv, hp⟩ : ∃ p, p = lowP (pf * (qu : Int) + pu * (qf : Int)) ((qf : Int) * (qu : Int)) := ⟨_, rfl⟩
        obtain ⟨qv, hq⟩ : ∃ q, q = lowQ (pf * (qu : Int) + pu * (qf : Int)) ((qf : Int) * (qu : Int)) := ⟨_, rfl⟩
        rw [← hp, ← hq] at hz
        have hqpv : 0 < qv := hz.pos
        have hqiv : (0 : Int) < (qv : Int) := by omega
        have KPV : Hid (Bl 386 pv) := by show Bl _ _; rw [hp]; exact Bl.low _ (((KPF.out.mul KQU.out).mono (j := 385) (by decide)).add ((KPU.out.mul KQF.out).mono (j := 385) (by decide)))
        have KQV : Hid (Bl 386 (qv : Int)) := by show Bl _ _; rw [hq]; exact Bl.lowq _ (((KQF.out.mul KQU.out).mono (j := 385) (by decide)).mono (j := 386) (by decide))
        have EVV : Hid (Eqf pv qv (pf * ((qg : Int) * (qh : Int)) + (pg * (qh : Int) + ph * (qg : Int)) * (qf : Int)) ((qf : Int) * ((qg : Int) * (qh : Int)))) := by show Eqf _ _ _ _; rw [hp, hq]; exact eqf_trans (Int.ne_of_gt (Int.mul_pos hqif hqiu)) (eqf_low (Int.mul_pos hqif hqiu)) (eqf_add (eqf_refl pf qf) EVU.out)
        have FUv8 := Lib.hid hf
        have HV8 := Lib.hid (hz.keep hf.below)
        clear hb hz hf hp hq
        have qq0 : (w8.alloc (.cells #[.bool nv, .slice ov lv cv, .slice bv mv dv] 27)).cell? ⟨w1.heap.size, 0, none⟩ = some (.bool nf) := FFf8b.out.cell 0 0 rfl rfl
        have qq1 : (w8.alloc (.cells #[.bool nv, .slice ov lv cv, .slice bv mv dv] 27)).cell? ⟨w1.heap.size, 1, none⟩ = some (.slice of lf cf) := FFf8b.out.cell 0 1 rfl rfl
        have qq2 : (w8.alloc (.cells #[.bool nv, .slice ov lv cv, .slice bv mv dv] 27)).cell? ⟨w1.heap.size, 2, none⟩ = some (.slice bf mf df) := FFf8b.out.cell 0 2 rfl rfl
        have qq3 : (w8.alloc (.cells #[.bool nv, .slice ov lv cv, .slice bv mv dv] 27)).cell? ⟨w7.heap.size, 0, none⟩ = some (.bool nu) := FUu8b.out.cell 0 0 rfl rfl
        have qq4 : (w8.alloc (.cells #[.bool nv, .slice ov lv cv, .slice bv mv dv] 27)).cell? ⟨w7.heap.size, 1, none⟩ = some (.slice ou lu cu) := FUu8b.out.cell 0 1 rfl rfl
        have qq5 : (w8.alloc (.cells #[.bool nv, .slice ov lv cv, .slice bv mv dv] 27)).cell? ⟨w7.heap.size, 2, none⟩ = some (.slice bu mu du) := FUu8b.out.cell 0 2 rfl rfl
        go_wp2_with fail
        refine ((ratMul_any nf nu of bf ou bu lf mf lu mu cf df cu du pf pu qf qu _ HF8b.out HU8b.out (by omega) (by omega) (by omega) (by omega)).mono fun e w h => h.fine ((((KPF.out.mul KPU.out).mono (j := 385) (by decide)).mono (j := 386) (by decide)).fits (by decide)) ((((KQF.out.mul KQU.out).mono (j := 385) (by decide)).mono (j := 386) (by decide)).fits (by decide))).mono ?_
        rintro e w9 ⟨nl, ol, ll, cl, bl, ml, dl, rfl, hll, hml, hz, hb⟩
        clear qq0 qq1 qq2 qq3 qq4 qq5
        have FP9a := Lib.hid (FP8b.out.later hb)
        have FFf9a := Lib.hid (FFf8b.out.later hb)
        have FFg9a := Lib.hid (FFg8b.out.later hb)
        have FFh9a := Lib.hid (FFh8b.out.later hb)
        have FUs9a := Lib.hid (FUs8b.out.later hb)
        have FUt9a := Lib.hid (FUt8b.out.later hb)
        have FUu9a := Lib.hid (FUu8b.out.later hb)
        have FUv9a := Lib.hid (FUv8.out.later hb)
        have HF9a := Lib.hid (HF8b.out.keep hb)
        have HG9a := Lib.hid (HG8b.out.keep hb)
        have HH9a := Lib.hid (HH8b.out.keep hb)
        have HS9a := Lib.hid (HS8b.out.keep hb)
        have HT9a := Lib.hid (HT8b.out.keep hb)
        have HU9a := Lib.hid (HU8b.out.keep hb)
        have HV9a := Lib.hid (HV8.out.keep hb)
        have hf : Fr w9 (w9.alloc (.cells #[.bool nl, .slice ol ll cl, .slice bl ml dl] 27)) [(27, #[.bool nl, .slice ol ll cl, .slice bl ml dl])] := (Fr.nil w9).alloc rfl _ _
        have FP9b := Lib.hid (FP9a.out.later hf.below)
        have FFf9b := Lib.hid (FFf9a.out.later hf.below)
        have FFg9b := Lib.hid (FFg9a.out.later hf.below)
        have FFh9b := Lib.hid (FFh9a.out.later hf.below)
        have FUs9b := Lib.hid (FUs9a.out.later hf.below)
        have FUt9b := Lib.hid (FUt9a.out.later hf.below)
        have FUu9b := Lib.hid (FUu9a.out.later hf.below)
        have FUv9b := Lib.hid (FUv9a.out.later hf.below)
        have HF9b := Lib.hid (HF9a.out.keep hf.below)
        have HG9b := Lib.hid (HG9a.out.keep hf.below)
        have HH9b := Lib.hid (HH9a.out.keep hf.below)
        have HS9b := Lib.hid (HS9a.out.keep hf.below)
        have HT9b := Lib.hid (HT9a.out.keep hf.below)
        have HU9b := Lib.hid (HU9a.out.keep hf.below)
        have HV9b := Lib.hid (HV9a.out.keep hf.below)
        obtain ⟨pl, hp⟩ : ∃ p, p = lowP (pf * pu) ((qf : Int) * (qu : Int)) := ⟨_, rfl⟩
        obtain ⟨ql, hq⟩ : ∃ q, q = lowQ (pf * pu) ((qf : Int) * (qu : Int)) := ⟨_, rfl⟩
        rw [← hp, ← hq] at hz
        have hqpl : 0 < ql := hz.pos
        have hqil : (0 : Int) < (ql : Int) := by omega
        have KPL : Hid (Bl 386 pl) := by show Bl _ _; rw [hp]; exact Bl.low _ (((KPF.out.mul KPU.out).mono (j := 385) (by decide)).mono (j := 386) (by decide))
        have KQL : Hid (Bl 386 (ql : Int)) := by show Bl _ _; rw [hq]; exact Bl.lowq _ (((KQF.out.mul KQU.out).mono (j := 385) (by decide)).mono (j := 386) (by decide))
        have EVL : Hid (Eqf pl ql (pf * (pg * (qh : Int) + ph * (qg : Int))) ((qf : Int) * ((qg : Int) * (qh : Int)))) := by show Eqf _ _ _ _; rw [hp, hq]; exact eqf_trans (Int.ne_of_gt (Int.mul_pos hqif hqiu)) (eqf_low (Int.mul_pos hqif hqiu)) (eqf_mul (eqf_refl pf qf) EVU.out)
        have FUl9 := Lib.hid hf
        have HL9 := Lib.hid (hz.keep hf.below)
        clear hb hz hf hp hq
        have qq0 : (w9.alloc (.cells #[.bool nl, .slice ol ll cl, .slice bl ml dl] 27)).cell? ⟨w1.heap.size, 0, none⟩ = some (.bool nf) := FFf9b.out.cell 0 0 rfl rfl
        have qq1 : (w9.alloc (.cells #[.bool nl, .slice ol ll cl, .slice bl ml dl] 27)).cell? ⟨w1.heap.size, 1, none⟩ = some (.slice of lf cf) := FFf9b.out.cell 0 1 rfl rfl
        have qq2 : (w9.alloc (.cells #[.bool nl, .slice ol ll cl, .slice bl ml dl] 27)).cell? ⟨w1.heap.size, 2, none⟩ = some (.slice bf mf df) := FFf9b.out.cell 0 2 rfl rfl
        have qq3 : (w9.alloc (.cells #[.bool nl, .slice ol ll cl, .slice bl ml dl] 27)).cell? ⟨w2.heap.size, 0, none⟩ = some (.bool ng) := FFg9b.out.cell 0 0 rfl rfl
        have qq4 : (w9.alloc (.cells #[.bool nl, .slice ol ll cl, .slice bl ml dl] 27)).cell? ⟨w2.heap.size, 1, none⟩ = some (.slice og lg cg) := FFg9b.out.cell 0 1 rfl rfl
        have qq5 : (w9.alloc (.cells #[.bool nl, .slice ol ll cl, .slice bl ml dl] 27)).cell? ⟨w2.heap.size, 2, none⟩ = some (.slice bg mg dg) := FFg9b.out.cell 0 2 rfl rfl
        go_wp2_with fail
        refine ((ratMul_any nf ng of bf og bg lf mf lg mg cf df cg dg pf pg qf qg _ HF9b.out HG9b.out (by omega) (by omega) (by omega) (by omega)).mono fun e w h => h.fine ((((KPF.out.mul KPG.out).mono (j := 256) (by decide)).mono (j := 257) (by decide)).fits (by decide)) ((((KQF.out.mul KQG.out).mono (j := 256) (by decide)).mono (j := 257) (by decide)).fits (by decide))).mono ?_
        rintro e w10 ⟨nq, oq, lq, cq, bq, mq, dq, rfl, hlq, hmq, hz, hb⟩
        clear qq0 qq1 qq2 qq3 qq4 qq5
        have FP10a := Lib.hid (FP9b.out.later hb)
        have FFf10a := Lib.hid (FFf9b.out.later hb)
        have FFg10a := Lib.hid (FFg9b.out.later hb)
        have FFh10a := Lib.hid (FFh9b.out.later hb)
        have FUs10a := Lib.hid (FUs9b.out.later hb)
        have FUt10a := Lib.hid (FUt9b.out.later hb)
        have FUu10a := Lib.hid (FUu9b.out.later hb)
        have FUv10a := Lib.hid (FUv9b.out.later hb)
        have FUl10a := Lib.hid (FUl9.out.later hb)
        have HF10a := Lib.hid (HF9b.out.keep hb)
        have HG10a := Lib.hid (HG9b.out.keep hb)
        have HH10a := Lib.hid (HH9b.out.keep hb)
        have HS10a := Lib.hid (HS9b.out.keep hb)
        have HT10a := Lib.hid (HT9b.out.keep hb)
        have HU10a := Lib.hid (HU9b.out.keep hb)
        have HV10a := Lib.hid (HV9b.out.keep hb)
        have HL10a := Lib.hid (HL9.out.keep hb)
        have hf : Fr w10 (w10.alloc (.cells #[.bool nq, .slice oq lq cq, .slice bq mq dq] 27)) [(27, #[.bool nq, .slice oq lq cq, .slice bq mq dq])] := (Fr.nil w10).alloc rfl _ _
        have FP10b := Lib.hid (FP10a.out.later hf.below)
        have FFf10b := Lib.hid (FFf10a.out.later hf.below)
        have FFg10b := Lib.hid (FFg10a.out.later hf.below)
        have FFh10b := Lib.hid (FFh10a.out.later hf.below)
        have FUs10b := Lib.hid (FUs10a.out.later hf.below)
        have FUt10b := Lib.hid (FUt10a.out.later hf.below)
        have FUu10b := Lib.hid (FUu10a.out.later hf.below)
        have FUv10b := Lib.hid (FUv10a.out.later hf.below)
        have FUl10b := Lib.hid (FUl10a.out.later hf.below)
        have HF10b := Lib.hid (HF10a.out.keep hf.below)
        have HG10b := Lib.hid (HG10a.out.keep hf.below)
        have HH10b := Lib.hid (HH10a.out.keep hf.below)
        have HS10b := Lib.hid (HS10a.out.keep hf.below)
        have HT10b := Lib.hid (HT10a.out.keep hf.below)
        have HU10b := Lib.hid (HU10a.out.keep hf.below)
        have HV10b := Lib.hid (HV10a.out.keep hf.below)
        have HL10b := Lib.hid (HL10a.out.keep hf.below)
        obtain ⟨pq, hp⟩ : ∃ p, p = lowP (pf * pg) ((qf : Int) * (qg : Int)) := ⟨_, rfl⟩
        obtain ⟨qq, hq⟩ : ∃ q, q = lowQ (pf * pg) ((qf : Int) * (qg : Int)) := ⟨_, rfl⟩
        rw [← hp, ← hq] at hz
        have hqpq : 0 < qq := hz.pos
        have hqiq : (0 : Int) < (qq : Int) := by omega
        have KPQ : Hid (Bl 257 pq) := by show Bl _ _; rw [hp]; exact Bl.low _ (((KPF.out.mul KPG.out).mono (j := 256) (by decide)).mono (j := 257) (by decide))
        have KQQ : Hid (Bl 257 (qq : Int)) := by show Bl _ _; rw [hq]; exact Bl.lowq _ (((KQF.out.mul KQG.out).mono (j := 256) (by decide)).mono (j := 257) (by decide))
        have EVQ : Hid (Eqf pq qq (pf * pg) ((qf : Int) * (qg : Int))) := by show Eqf _ _ _ _; rw [hp, hq]; exact eqf_trans (Int.ne_of_gt (Int.mul_pos hqif hqig)) (eqf_low (Int.mul_pos hqif hqig)) (eqf_mul (eqf_refl pf qf) (eqf_refl pg qg))
        have FUq10 := Lib.hid hf
        have HQ10 := Lib.hid (hz.keep hf.below)
        clear hb hz hf hp hq
        have qq0 : (w10.alloc (.cells #[.bool nq, .slice oq lq cq, .slice bq mq dq] 27)).cell? ⟨w1.heap.size, 0, none⟩ = some (.bool nf) := FFf10b.out.cell 0 0 rfl rfl
        have qq1 : (w10.alloc (.cells #[.bool nq, .slice oq lq cq, .slice bq mq dq] 27)).cell? ⟨w1.heap.size, 1, none⟩ = some (.slice of lf cf) := FFf10b.out.cell 0 1 rfl rfl
        have qq2 : (w10.alloc (.cells #[.bool nq, .slice oq lq cq, .slice bq mq dq] 27)).cell? ⟨w1.heap.size, 2, none⟩ = some (.slice bf mf df) := FFf10b.out.cell 0 2 rfl rfl
        have qq3 : (w10.alloc (.cells #[.bool nq, .slice oq lq cq, .slice bq mq dq] 27)).cell? ⟨w3.heap.size, 0, none⟩ = some (.bool nh) := FFh10b.out.cell 0 0 rfl rfl
        have qq4 : (w10.alloc (.cells #[.bool nq, .slice oq lq cq, .slice bq mq dq] 27)).cell? ⟨w3.heap.size, 1, none⟩ = some (.slice oh lh ch) := FFh10b.out.cell 0 1 rfl rfl
        have qq5 : (w10.alloc (.cells #[.bool nq, .slice oq lq cq, .slice bq mq dq] 27)).cell? ⟨w3.heap.size, 2, none⟩ = some (.slice bh mh dh) := FFh10b.out.cell 0 2 rfl rfl
        go_wp2_with fail
        refine ((ratMul_any nf nh of bf oh bh lf mf lh mh cf df ch dh pf ph qf qh _ HF10b.out HH10b.out (by omega) (by omega) (by omega) (by omega)).mono fun e w h => h.fine ((((KPF.out.mul KPH.out).mono (j := 256) (by decide)).mono (j := 257) (by decide)).fits (by decide)) ((((KQF.out.mul KQH.out).mono (j := 256) (by decide)).mono (j := 257) (by decide)).fits (by decide))).mono ?_
        rintro e w11 ⟨nr, or, lr, cr, br, mr, dr, rfl, hlr, hmr, hz, hb⟩
        clear qq0 qq1 qq2 qq3 qq4 qq5
        have FP11a := Lib.hid (FP10b.out.later hb)
        have FFf11a := Lib.hid (FFf10b.out.later hb)
        have FFg11a := Lib.hid (FFg10b.out.later hb)
        have FFh11a := Lib.hid (FFh10b.out.later hb)
        have FUs11a := Lib.hid (FUs10b.out.later hb)
        have FUt11a := Lib.hid (FUt10b.out.later hb)
        have FUu11a := Lib.hid (FUu10b.out.later hb)
        have FUv11a := Lib.hid (FUv10b.out.later hb)
        have FUl11a := Lib.hid (FUl10b.out.later hb)
        have FUq11a := Lib.hid (FUq10.out.later hb)
        have HF11a := Lib.hid (HF10b.out.keep hb)
        have HG11a := Lib.hid (HG10b.out.keep hb)
        have HH11a := Lib.hid (HH10b.out.keep hb)
        have HS11a := Lib.hid (HS10b.out.keep hb)
        have HT11a := Lib.hid (HT10b.out.keep hb)
        have HU11a := Lib.hid (HU10b.out.keep hb)
        have HV11a := Lib.hid (HV10b.out.keep hb)
        have HL11a := Lib.hid (HL10b.out.keep hb)
        have HQ11a := Lib.hid (HQ10.out.keep hb)
        have hf : Fr w11 (w11.alloc (.cells #[.bool nr, .slice or lr cr, .slice br mr dr] 27)) [(27, #[.bool nr, .slice or lr cr, .slice br mr dr])] := (Fr.nil w11).alloc rfl _ _
        have FP11b := Lib.hid (FP11a.out.later hf.below)
        have FFf11b := Lib.hid (FFf11a.out.later hf.below)
        have FFg11b := Lib.hid (FFg11a.out.later hf.below)
        have FFh11b := Lib.hid (FFh11a.out.later hf.below)
        have FUs11b := Lib.hid (FUs11a.out.later hf.below)
        have FUt11b := Lib.hid (FUt11a.out.later hf.below)
        have FUu11b := Lib.hid (FUu11a.out.later hf.below)
        have FUv11b := Lib.hid (FUv11a.out.later hf.below)
        have FUl11b := Lib.hid (FUl11a.out.later hf.below)
        have FUq11b := Lib.hid (FUq11a.out.later hf.below)
        have HF11b := Lib.hid (HF11a.out.keep hf.below)
        have HG11b := Lib.hid (HG11a.out.keep hf.below)
        have HH11b := Lib.hid (HH11a.out.keep hf.below)
        have HS11b := Lib.hid (HS11a.out.keep hf.below)
        have HT11b := Lib.hid (HT11a.out.keep hf.below)
        have HU11b := Lib.hid (HU11a.out.keep hf.below)
        have HV11b := Lib.hid (HV11a.out.keep hf.below)
        have HL11b := Lib.hid (HL11a.out.keep hf.below)
        have HQ11b := Lib.hid (HQ11a.out.keep hf.below)
        obtain ⟨pr, hp⟩ : ∃ p, p = lowP (pf * ph) ((qf : Int) * (qh : Int)) := ⟨_, rfl⟩
        obtain ⟨qr, hq⟩ : ∃ q, q = lowQ (pf * ph) ((qf : Int) * (qh : Int)) := ⟨_, rfl⟩
        rw [← hp, ← hq] at hz
        have hqpr : 0 < qr := hz.pos
        have hqir : (0 : Int) < (qr : Int) := by omega
        have KPR : Hid (Bl 257 pr) := by show Bl _ _; rw [hp]; exact Bl.low _ (((KPF.out.mul KPH.out).mono (j := 256) (by decide)).mono (j := 257) (by decide))
        have KQR : Hid (Bl 257 (qr : Int)) := by show Bl _ _; rw [hq]; exact Bl.lowq _ (((KQF.out.mul KQH.out).mono (j := 256) (by decide)).mono (j := 257) (by decide))
        have EVR : Hid (Eqf pr qr (pf * ph) ((qf : Int) * (qh : Int))) := by show Eqf _ _ _ _; rw [hp, hq]; exact eqf_trans (Int.ne_of_gt (Int.mul_pos hqif hqih)) (eqf_low (Int.mul_pos hqif hqih)) (eqf_mul (eqf_refl pf qf) (eqf_refl ph qh))
        have FUr11 := Lib.hid hf
        have HR11 := Lib.hid (hz.keep hf.below)
        clear hb hz hf hp hq
        have qq0 : (w11.alloc (.cells #[.bool nr, .slice or lr cr, .slice br mr dr] 27)).cell? ⟨w10.heap.size, 0, none⟩ = some (.bool nq) := FUq11b.out.cell 0 0 rfl rfl
        have qq1 : (w11.alloc (.cells #[.bool nr, .slice or lr cr, .slice br mr dr] 27)).cell? ⟨w10.heap.size, 1, none⟩ = some (.slice oq lq cq) := FUq11b.out.cell 0 1 rfl rfl
        have qq2 : (w11.alloc (.cells #[.bool nr, .slice or lr cr, .slice br mr dr] 27)).cell? ⟨w10.heap.size, 2, none⟩ = some (.slice bq mq dq) := FUq11b.out.cell 0 2 rfl rfl
        have qq3 : (w11.alloc (.cells #[.bool nr, .slice or lr cr, .slice br mr dr] 27)).cell? ⟨w11.heap.size, 0, none⟩ = some (.bool nr) := FUr11.out.cell 0 0 rfl rfl
        have qq4 : (w11.alloc (.cells #[.bool nr, .slice or lr cr, .slice br mr dr] 27)).cell? ⟨w11.heap.size, 1, none⟩ = some (.slice or lr cr) := FUr11.out.cell 0 1 rfl rfl
        have qq5 : (w11.alloc (.cells #[.bool nr, .slice or lr cr, .slice br mr dr] 27)).cell? ⟨w11.heap.size, 2, none⟩ = some (.slice br mr dr) := FUr11.out.cell 0 2 rfl rfl
        go_wp2_with fail
        refine ((ratAdd_any nq nr oq bq or br lq mq lr mr cq dq cr dr pq pr qq qr _ HQ11b.out HR11.out (by omega) (by omega) (by omega) (by omega)).mono fun e w h => h.fine ((((KPQ.out.mul KQR.out).mono (j := 514) (by decide)).add ((KPR.out.mul KQQ.out).mono (j := 514) (by decide))).fits (by decide)) ((((KQQ.out.mul KQR.out).mono (j := 514) (by decide)).mono (j := 515) (by decide)).fits (by decide))).mono ?_
        rintro e w12 ⟨nn, on, ln, cn, bn, mn, dn, rfl, hln, hmn, hz, hb⟩
        clear qq0 qq1 qq2 qq3 qq4 qq5
        have FP12a := Lib.hid (FP11b.out.later hb)
        have FFf12a := Lib.hid (FFf11b.out.later hb)
        have FFg12a := Lib.hid (FFg11b.out.later hb)
        have FFh12a := Lib.hid (FFh11b.out.later hb)
        have FUs12a := Lib.hid (FUs11b.out.later hb)
        have FUt12a := Lib.hid (FUt11b.out.later hb)
        have FUu12a := Lib.hid (FUu11b.out.later hb)
        have FUv12a := Lib.hid (FUv11b.out.later hb)
        have FUl12a := Lib.hid (FUl11b.out.later hb)
        have FUq12a := Lib.hid (FUq11b.out.later hb)
        have FUr12a := Lib.hid (FUr11.out.later hb)
        have HF12a := Lib.hid (HF11b.out.keep hb)
        have HG12a := Lib.hid (HG11b.out.keep hb)
        have HH12a := Lib.hid (HH11b.out.keep hb)
        have HS12a := Lib.hid (HS11b.out.keep hb)
        have HT12a := Lib.hid (HT11b.out.keep hb)
        have HU12a := Lib.hid (HU11b.out.keep hb)
        have HV12a := Lib.hid (HV11b.out.keep hb)
        have HL12a := Lib.hid (HL11b.out.keep hb)
        have HQ12a := Lib.hid (HQ11b.out.keep hb)
        have HR12a := Lib.hid (HR11.out.keep hb)
        have hf : Fr w12 (w12.alloc (.cells #[.bool nn, .slice on ln cn, .slice bn mn dn] 27)) [(27, #[.bool nn, .slice on ln cn, .slice bn mn dn])] := (Fr.nil w12).alloc rfl _ _
        have FP12b := Lib.hid (FP12a.out.later hf.below)
        have FFf12b := Lib.hid (FFf12a.out.later hf.below)
        have FFg12b := Lib.hid (FFg12a.out.later hf.below)
        have FFh12b := Lib.hid (FFh12a.out.later hf.below)
        have FUs12b := Lib.hid (FUs12a.out.later hf.below)
        have FUt12b := Lib.hid (FUt12a.out.later hf.below)
        have FUu12b := Lib.hid (FUu12a.out.later hf.below)
        have FUv12b := Lib.hid (FUv12a.out.later hf.below)
        have FUl12b := Lib.hid (FUl12a.out.later hf.below)
        have FUq12b := Lib.hid (FUq12a.out.later hf.below)
        have FUr12b := Lib.hid (FUr12a.out.later hf.below)
        have HF12b := Lib.hid (HF12a.out.keep hf.below)
        have HG12b := Lib.hid (HG12a.out.keep hf.below)
        have HH12b := Lib.hid (HH12a.out.keep hf.below)
        have HS12b := Lib.hid (HS12a.out.keep hf.below)
        have HT12b := Lib.hid (HT12a.out.keep hf.below)
        have HU12b := Lib.hid (HU12a.out.keep hf.below)
        have HV12b := Lib.hid (HV12a.out.keep hf.below)
        have HL12b := Lib.hid (HL12a.out.keep hf.below)
        have HQ12b := Lib.hid (HQ12a.out.keep hf.below)
        have HR12b := Lib.hid (HR12a.out.keep hf.below)
        obtain ⟨pn, hp⟩ : ∃ p, p = lowP (pq * (qr : Int) + pr * (qq : Int)) ((qq : Int) * (qr : Int)) := ⟨_, rfl⟩
        obtain ⟨qn, hq⟩ : ∃ q, q = lowQ (pq * (qr : Int) + pr * (qq : Int)) ((qq : Int) * (qr : Int)) := ⟨_, rfl⟩
        rw [← hp, ← hq] at hz
        have hqpn : 0 < qn := hz.pos
        have hqin : (0 : Int) < (qn : Int) := by omega
        have KPN : Hid (Bl 515 pn) := by show Bl _ _; rw [hp]; exact Bl.low _ (((KPQ.out.mul KQR.out).mono (j := 514) (by decide)).add ((KPR.out.mul KQQ.out).mono (j := 514) (by decide)))
        have KQN : Hid (Bl 515 (qn : Int)) := by show Bl _ _; rw [hq]; exact Bl.lowq _ (((KQQ.out.mul KQR.out).mono (j := 514) (by decide)).mono (j := 515) (by decide))
        have EVN : Hid (Eqf pn qn ((pf * pg) * ((qf : Int) * (qh : Int)) + (pf * ph) * ((qf : Int) * (qg : Int))) (((qf : Int) * (qg : Int)) * ((qf : Int) * (qh : Int)))) := by show Eqf _ _ _ _; rw [hp, hq]; exact eqf_trans (Int.ne_of_gt (Int.mul_pos hqiq hqir)) (eqf_low (Int.mul_pos hqiq hqir)) (eqf_add EVQ.out EVR.out)
        have FUn12 := Lib.hid hf
        have HN12 := Lib.hid (hz.keep hf.below)
        clear hb hz hf hp hq
        have qq0 : (w12.alloc (.cells #[.bool nn, .slice on ln cn, .slice bn mn dn] 27)).cell? ⟨w2.heap.size, 0, none⟩ = some (.bool ng) := FFg12b.out.cell 0 0 rfl rfl
        have qq1 : (w12.alloc (.cells #[.bool nn, .slice on ln cn, .slice bn mn dn] 27)).cell? ⟨w2.heap.size, 1, none⟩ = some (.slice og lg cg) := FFg12b.out.cell 0 1 rfl rfl
        have qq2 : (w12.alloc (.cells #[.bool nn, .slice on ln cn, .slice bn mn dn] 27)).cell? ⟨w2.heap.size, 2, none⟩ = some (.slice bg mg dg) := FFg12b.out.cell 0 2 rfl rfl
        have qq3 : (w12.alloc (.cells #[.bool nn, .slice on ln cn, .slice bn mn dn] 27)).cell? ⟨w5.heap.size, 0, none⟩ = some (.bool ns) := FUs12b.out.cell 0 0 rfl rfl
        have qq4 : (w12.alloc (.cells #[.bool nn, .slice on ln cn, .slice bn mn dn] 27)).cell? ⟨w5.heap.size, 1, none⟩ = some (.slice os ls cs) := FUs12b.out.cell 0 1 rfl rfl
        have qq5 : (w12.alloc (.cells #[.bool nn, .slice on ln cn, .slice bn mn dn] 27)).cell? ⟨w5.heap.size, 2, none⟩ = some (.slice bs ms ds) := FUs12b.out.cell 0 2 rfl rfl
        go_wp2_with fail
        refine ((ratSub_any ns ng os bs og bg ls ms lg mg cs ds cg dg ps pg qs qg _ HS12b.out HG12b.out (by omega) (by omega) (by omega) (by omega)).mono fun e w h => h.fine ((((KPS.out.mul KQG.out).mono (j := 385) (by decide)).sub ((KPG.out.mul KQS.out).mono (j := 385) (by decide))).fits (by decide)) ((((KQS.out.mul KQG.out).mono (j := 385) (by decide)).mono (j := 386) (by decide)).fits (by decide))).mono ?_
        rintro e w13 ⟨nx, ox, lx, cx, bx, mx, dx, rfl, hlx, hmx, hz, hb⟩
        clear qq0 qq1 qq2 qq3 qq4 qq5
        have FP13a := Lib.hid (FP12b.out.later hb)
        have FFf13a := Lib.hid (FFf12b.out.later hb)
        have FFg13a := Lib.hid (FFg12b.out.later hb)
        have FFh13a := Lib.hid (FFh12b.out.later hb)
        have FUs13a := Lib.hid (FUs12b.out.later hb)
        have FUt13a := Lib.hid (FUt12b.out.later hb)
        have FUu13a := Lib.hid (FUu12b.out.later hb)
        have FUv13a := Lib.hid (FUv12b.out.later hb)
        have FUl13a := Lib.hid (FUl12b.out.later hb)
        have FUq13a := Lib.hid (FUq12b.out.later hb)
        have FUr13a := Lib.hid (FUr12b.out.later hb)
        have FUn13a := Lib.hid (FUn12.out.later hb)
        have HF13a := Lib.hid (HF12b.out.keep hb)
        have HG13a := Lib.hid (HG12b.out.keep hb)
        have HH13a := Lib.hid (HH12b.out.keep hb)
        have HS13a := Lib.hid (HS12b.out.keep hb)
        have HT13a := Lib.hid (HT12b.out.keep hb)
        have HU13a := Lib.hid (HU12b.out.keep hb)
        have HV13a := Lib.hid (HV12b.out.keep hb)
        have HL13a := Lib.hid (HL12b.out.keep hb)
        have HQ13a := Lib.hid (HQ12b.out.keep hb)
        have HR13a := Lib.hid (HR12b.out.keep hb)
        have HN13a := Lib.hid (HN12.out.keep hb)
        have hf : Fr w13 (w13.alloc (.cells #[.bool nx, .slice ox lx cx, .slice bx mx dx] 27)) [(27, #[.bool nx, .slice ox lx cx, .slice bx mx dx])] := (Fr.nil w13).alloc rfl _ _
        have FP13b := Lib.hid (FP13a.out.later hf.below)
        have FFf13b := Lib.hid (FFf13a.out.later hf.below)
        have FFg13b := Lib.hid (FFg13a.out.later hf.below)
        have FFh13b := Lib.hid (FFh13a.out.later hf.below)
        have FUs13b := Lib.hid (FUs13a.out.later hf.below)
        have FUt13b := Lib.hid (FUt13a.out.later hf.below)
        have FUu13b := Lib.hid (FUu13a.out.later hf.below)
        have FUv13b := Lib.hid (FUv13a.out.later hf.below)
        have FUl13b := Lib.hid (FUl13a.out.later hf.below)
        have FUq13b := Lib.hid (FUq13a.out.later hf.below)
        have FUr13b := Lib.hid (FUr13a.out.later hf.below)
        have FUn13b := Lib.hid (FUn13a.out.later hf.below)
        have HF13b := Lib.hid (HF13a.out.keep hf.below)
        have HG13b := Lib.hid (HG13a.out.keep hf.below)
        have HH13b := Lib.hid (HH13a.out.keep hf.below)
        have HS13b := Lib.hid (HS13a.out.keep hf.below)
        have HT13b := Lib.hid (HT13a.out.keep hf.below)
        have HU13b := Lib.hid (HU13a.out.keep hf.below)
        have HV13b := Lib.hid (HV13a.out.keep hf.below)
        have HL13b := Lib.hid (HL13a.out.keep hf.below)
        have HQ13b := Lib.hid (HQ13a.out.keep hf.below)
        have HR13b := Lib.hid (HR13a.out.keep hf.below)
        have HN13b := Lib.hid (HN13a.out.keep hf.below)
        obtain ⟨px, hp⟩ : ∃ p, p = lowP (ps * (qg : Int) - pg * (qs : Int)) ((qs : Int) * (qg : Int)) := ⟨_, rfl⟩
        obtain ⟨qx, hq⟩ : ∃ q, q = lowQ (ps * (qg : Int) - pg * (qs : Int)) ((qs : Int) * (qg : Int)) := ⟨_, rfl⟩
        rw [← hp, ← hq] at hz
        have hqpx : 0 < qx := hz.pos
        have hqix : (0 : Int) < (qx : Int) := by omega
        have KPX : Hid (Bl 386 px) := by show Bl _ _; rw [hp]; exact Bl.low _ (((KPS.out.mul KQG.out).mono (j := 385) (by decide)).sub ((KPG.out.mul KQS.out).mono (j := 385) (by decide)))
        have KQX : Hid (Bl 386 (qx : Int)) := by show Bl _ _; rw [hq]; exact Bl.lowq _ (((KQS.out.mul KQG.out).mono (j := 385) (by decide)).mono (j := 386) (by decide))
        have EVX : Hid (Eqf px qx ((pf * (qg : Int) + pg * (qf : Int)) * (qg : Int) - pg * ((qf : Int) * (qg : Int))) (((qf : Int) * (qg : Int)) * (qg : Int))) := by show Eqf _ _ _ _; rw [hp, hq]; exact eqf_trans (Int.ne_of_gt (Int.mul_pos hqis hqig)) (eqf_low (Int.mul_pos hqis hqig)) (eqf_sub EVS.out (eqf_refl pg qg))
        have FUx13 := Lib.hid hf
        have HX13 := Lib.hid (hz.keep hf.below)
        clear hb hz hf hp hq
        have qq0 : (w13.alloc (.cells #[.bool nx, .slice ox lx cx, .slice bx mx dx] 27)).cell? ⟨w6.heap.size, 0, none⟩ = some (.bool nt) := FUt13b.out.cell 0 0 rfl rfl
        have qq1 : (w13.alloc (.cells #[.bool nx, .slice ox lx cx, .slice bx mx dx] 27)).cell? ⟨w6.heap.size, 1, none⟩ = some (.slice ot lt ct) := FUt13b.out.cell 0 1 rfl rfl
        have qq2 : (w13.alloc (.cells #[.bool nx, .slice ox lx cx, .slice bx mx dx] 27)).cell? ⟨w6.heap.size, 2, none⟩ = some (.slice bt mt dt) := FUt13b.out.cell 0 2 rfl rfl
        go_wp2_with fail
        refine (ratString_any _ _ _ _ _ _ _ pt qt _ HT13b.out (by omega) (by omega)).mono ?_
        rintro e w14 ⟨rfl, hb⟩
        clear qq0 qq1 qq2
        have FP14a := Lib.hid (FP13b.out.later hb)
        have FFf14a := Lib.hid (FFf13b.out.later hb)
        have FFg14a := Lib.hid (FFg13b.out.later hb)
        have FFh14a := Lib.hid (FFh13b.out.later hb)
        have FUs14a := Lib.hid (FUs13b.out.later hb)
        have FUt14a := Lib.hid (FUt13b.out.later hb)
        have FUu14a := Lib.hid (FUu13b.out.later hb)
        have FUv14a := Lib.hid (FUv13b.out.later hb)
        have FUl14a := Lib.hid (FUl13b.out.later hb)
        have FUq14a := Lib.hid (FUq13b.out.later hb)
        have FUr14a := Lib.hid (FUr13b.out.later hb)
        have FUn14a := Lib.hid (FUn13b.out.later hb)
        have FUx14a := Lib.hid (FUx13.out.later hb)
        have HF14a := Lib.hid (HF13b.out.keep hb)
        have HG14a := Lib.hid (HG13b.out.keep hb)
        have HH14a := Lib.hid (HH13b.out.keep hb)
        have HS14a := Lib.hid (HS13b.out.keep hb)
        have HT14a := Lib.hid (HT13b.out.keep hb)
        have HU14a := Lib.hid (HU13b.out.keep hb)
        have HV14a := Lib.hid (HV13b.out.keep hb)
        have HL14a := Lib.hid (HL13b.out.keep hb)
        have HQ14a := Lib.hid (HQ13b.out.keep hb)
        have HR14a := Lib.hid (HR13b.out.keep hb)
        have HN14a := Lib.hid (HN13b.out.keep hb)
        have HX14a := Lib.hid (HX13.out.keep hb)
        clear hb
        go_wp2_with fail
        refine (parseRat_back pt qt _ hqpt GCT.out (fitsQ_of KPT.out KQT.out (by decide))).mono ?_
        rintro e w15 ⟨nb, ob, lb, cb, bb, mb, db, rfl, hlb, hmb, hz, hb⟩
        have FP15a := Lib.hid (FP14a.out.later hb)
        have FFf15a := Lib.hid (FFf14a.out.later hb)
        have FFg15a := Lib.hid (FFg14a.out.later hb)
        have FFh15a := Lib.hid (FFh14a.out.later hb)
        have FUs15a := Lib.hid (FUs14a.out.later hb)
        have FUt15a := Lib.hid (FUt14a.out.later hb)
        have FUu15a := Lib.hid (FUu14a.out.later hb)
        have FUv15a := Lib.hid (FUv14a.out.later hb)
        have FUl15a := Lib.hid (FUl14a.out.later hb)
        have FUq15a := Lib.hid (FUq14a.out.later hb)
        have FUr15a := Lib.hid (FUr14a.out.later hb)
        have FUn15a := Lib.hid (FUn14a.out.later hb)
        have FUx15a := Lib.hid (FUx14a.out.later hb)
        have HF15a := Lib.hid (HF14a.out.keep hb)
        have HG15a := Lib.hid (HG14a.out.keep hb)
        have HH15a := Lib.hid (HH14a.out.keep hb)
        have HS15a := Lib.hid (HS14a.out.keep hb)
        have HT15a := Lib.hid (HT14a.out.keep hb)
        have HU15a := Lib.hid (HU14a.out.keep hb)
        have HV15a := Lib.hid (HV14a.out.keep hb)
        have HL15a := Lib.hid (HL14a.out.keep hb)
        have HQ15a := Lib.hid (HQ14a.out.keep hb)
        have HR15a := Lib.hid (HR14a.out.keep hb)
        have HN15a := Lib.hid (HN14a.out.keep hb)
        have HX15a := Lib.hid (HX14a.out.keep hb)
        have hf : Fr w15 (w15.alloc (.cells #[.bool nb, .slice ob lb cb, .slice bb mb db] 27)) [(27, #[.bool nb, .slice ob lb cb, .slice bb mb db])] := (Fr.nil w15).alloc rfl _ _
        have FP15b := Lib.hid (FP15a.out.later hf.below)
        have FFf15b := Lib.hid (FFf15a.out.later hf.below)
        have FFg15b := Lib.hid (FFg15a.out.later hf.below)
        have FFh15b := Lib.hid (FFh15a.out.later hf.below)
        have FUs15b := Lib.hid (FUs15a.out.later hf.below)
        have FUt15b := Lib.hid (FUt15a.out.later hf.below)
        have FUu15b := Lib.hid (FUu15a.out.later hf.below)
        have FUv15b := Lib.hid (FUv15a.out.later hf.below)
        have FUl15b := Lib.hid (FUl15a.out.later hf.below)
        have FUq15b := Lib.hid (FUq15a.out.later hf.below)
        have FUr15b := Lib.hid (FUr15a.out.later hf.below)
        have FUn15b := Lib.hid (FUn15a.out.later hf.below)
        have FUx15b := Lib.hid (FUx15a.out.later hf.below)
        have HF15b := Lib.hid (HF15a.out.keep hf.below)
        have HG15b := Lib.hid (HG15a.out.keep hf.below)
        have HH15b := Lib.hid (HH15a.out.keep hf.below)
        have HS15b := Lib.hid (HS15a.out.keep hf.below)
        have HT15b := Lib.hid (HT15a.out.keep hf.below)
        have HU15b := Lib.hid (HU15a.out.keep hf.below)
        have HV15b := Lib.hid (HV15a.out.keep hf.below)
        have HL15b := Lib.hid (HL15a.out.keep hf.below)
        have HQ15b := Lib.hid (HQ15a.out.keep hf.below)
        have HR15b := Lib.hid (HR15a.out.keep hf.below)
        have HN15b := Lib.hid (HN15a.out.keep hf.below)
        have HX15b := Lib.hid (HX15a.out.keep hf.below)
        have FUb15 := Lib.hid hf
        have HB15 := Lib.hid (hz.keep hf.below)
        clear hb hz hf
        have Z1 : Hid ((pt * (qv : Int) - pv * (qt : Int)).sign = 0) := by
          show _ = _
          exact eqf_sign (Int.ne_of_gt (Int.mul_pos (Int.mul_pos hqif hqig) hqih)) (Int.ne_of_gt (Int.mul_pos hqif (Int.mul_pos hqig hqih))) EVT.out EVV.out (by grind)
        have Z2 : Hid ((pl * (qn : Int) - pn * (ql : Int)).sign = 0) := by
          show _ = _
          exact eqf_sign (Int.ne_of_gt (Int.mul_pos hqif (Int.mul_pos hqig hqih))) (Int.ne_of_gt (Int.mul_pos (Int.mul_pos hqif hqig) (Int.mul_pos hqif hqih))) EVL.out EVN.out (by grind)
        have Z3 : Hid ((px * (qf : Int) - pf * (qx : Int)).sign = 0) := by
          show _ = _
          exact eqf_sign (Int.ne_of_gt (Int.mul_pos (Int.mul_pos hqif hqig) hqig)) (Int.ne_of_gt hqif) EVX.out (eqf_refl pf qf) (by grind)
        have Z4 : Hid ((pt * (qt : Int) - pt * (qt : Int)).sign = 0) := by show _ = _; rw [Int.sub_self]; rfl
        go_upto_region 16 with fail
        obtain ⟨V15, hV⟩ : ∃ V, V = (w15.alloc (.cells #[.bool nb, .slice ob lb cb, .slice bb mb db] 27)) := ⟨_, rfl⟩
        rw [← hV] at FP15b FFf15b FFg15b FFh15b FUs15b FUt15b FUu15b FUv15b FUl15b FUq15b FUr15b FUn15b FUx15b FUb15 HF15b HG15b HH15b HS15b HT15b HU15b HV15b HL15b HQ15b HR15b HN15b HX15b HB15 ⊢
        clear hV
        go_wp2_with fail
        refine ((fine_any _ 10 _ _ (zeros_sl V15 28 10 _ rfl) (by decide)).mono fun e w h => (⟨h.1, h.2 ▸ (Below.refl _ _).alloc (Nat.le_refl _) _⟩ : e = .returned (.bool true) ∧ Below V15.heap.size V15 w)).mono ?_
        rintro e w16 ⟨rfl, hb⟩
        have FP16 := Lib.hid (FP15b.out.later hb)
        have FFf16 := Lib.hid (FFf15b.out.later hb)
        have FFg16 := Lib.hid (FFg15b.out.later hb)
        have FFh16 := Lib.hid (FFh15b.out.later hb)
        have FUs16 := Lib.hid (FUs15b.out.later hb)
        have FUt16 := Lib.hid (FUt15b.out.later hb)
        have FUu16 := Lib.hid (FUu15b.out.later hb)
        have FUv16 := Lib.hid (FUv15b.out.later hb)
        have FUl16 := Lib.hid (FUl15b.out.later hb)
        have FUq16 := Lib.hid (FUq15b.out.later hb)
        have FUr16 := Lib.hid (FUr15b.out.later hb)
        have FUn16 := Lib.hid (FUn15b.out.later hb)
        have FUx16 := Lib.hid (FUx15b.out.later hb)
        have FUb16 := Lib.hid (FUb15.out.later hb)
        have HF16 := Lib.hid (HF15b.out.keep hb)
        have HG16 := Lib.hid (HG15b.out.keep hb)
        have HH16 := Lib.hid (HH15b.out.keep hb)
        have HS16 := Lib.hid (HS15b.out.keep hb)
        have HT16 := Lib.hid (HT15b.out.keep hb)
        have HU16 := Lib.hid (HU15b.out.keep hb)
        have HV16 := Lib.hid (HV15b.out.keep hb)
        have HL16 := Lib.hid (HL15b.out.keep hb)
        have HQ16 := Lib.hid (HQ15b.out.keep hb)
        have HR16 := Lib.hid (HR15b.out.keep hb)
        have HN16 := Lib.hid (HN15b.out.keep hb)
        have HX16 := Lib.hid (HX15b.out.keep hb)
        have HB16 := Lib.hid (HB15.out.keep hb)
        clear hb
        have qq0 : w16.cell? ⟨w6.heap.size, 0, none⟩ = some (.bool nt) := FUt16.out.cell 0 0 rfl rfl
        have qq1 : w16.cell? ⟨w6.heap.size, 1, none⟩ = some (.slice ot lt ct) := FUt16.out.cell 0 1 rfl rfl
        have qq2 : w16.cell? ⟨w6.heap.size, 2, none⟩ = some (.slice bt mt dt) := FUt16.out.cell 0 2 rfl rfl
        have qq3 : w16.cell? ⟨w8.heap.size, 0, none⟩ = some (.bool nv) := FUv16.out.cell 0 0 rfl rfl
        have qq4 : w16.cell? ⟨w8.heap.size, 1, none⟩ = some (.slice ov lv cv) := FUv16.out.cell 0 1 rfl rfl
        have qq5 : w16.cell? ⟨w8.heap.size, 2, none⟩ = some (.slice bv mv dv) := FUv16.out.cell 0 2 rfl rfl
        go_wp2_with fail
        refine ((ratCmp_any nt nv ot bt ov bv lt mt lv mv ct dt cv dv pt pv qt qv _ HT16.out HV16.out (by omega) (by omega) (by omega) (by omega)).mono fun e w h => (⟨h.1.trans (congrArg (fun t => Ending.returned (.int .i64 t)) Z1.out), h.2⟩ : e = .returned (.int .i64 0) ∧ _)).mono ?_
        rintro e w17 ⟨rfl, hb⟩
        clear qq0 qq1 qq2 qq3 qq4 qq5
        have FP17a := Lib.hid (FP16.out.later hb)
        have FFf17a := Lib.hid (FFf16.out.later hb)
        have FFg17a := Lib.hid (FFg16.out.later hb)
        have FFh17a := Lib.hid (FFh16.out.later hb)
        have FUs17a := Lib.hid (FUs16.out.later hb)
        have FUt17a := Lib.hid (FUt16.out.later hb)
        have FUu17a := Lib.hid (FUu16.out.later hb)
        have FUv17a := Lib.hid (FUv16.out.later hb)
        have FUl17a := Lib.hid (FUl16.out.later hb)
        have FUq17a := Lib.hid (FUq16.out.later hb)
        have FUr17a := Lib.hid (FUr16.out.later hb)
        have FUn17a := Lib.hid (FUn16.out.later hb)
        have FUx17a := Lib.hid (FUx16.out.later hb)
        have FUb17a := Lib.hid (FUb16.out.later hb)
        have HF17a := Lib.hid (HF16.out.keep hb)
        have HG17a := Lib.hid (HG16.out.keep hb)
        have HH17a := Lib.hid (HH16.out.keep hb)
        have HS17a := Lib.hid (HS16.out.keep hb)
        have HT17a := Lib.hid (HT16.out.keep hb)
        have HU17a := Lib.hid (HU16.out.keep hb)
        have HV17a := Lib.hid (HV16.out.keep hb)
        have HL17a := Lib.hid (HL16.out.keep hb)
        have HQ17a := Lib.hid (HQ16.out.keep hb)
        have HR17a := Lib.hid (HR16.out.keep hb)
        have HN17a := Lib.hid (HN16.out.keep hb)
        have HX17a := Lib.hid (HX16.out.keep hb)
        have HB17a := Lib.hid (HB16.out.keep hb)
        clear hb
        have qq0 : w17.cell? ⟨w9.heap.size, 0, none⟩ = some (.bool nl) := FUl17a.out.cell 0 0 rfl rfl
        have qq1 : w17.cell? ⟨w9.heap.size, 1, none⟩ = some (.slice ol ll cl) := FUl17a.out.cell 0 1 rfl rfl
        have qq2 : w17.cell? ⟨w9.heap.size, 2, none⟩ = some (.slice bl ml dl) := FUl17a.out.cell 0 2 rfl rfl
        have qq3 : w17.cell? ⟨w12.heap.size, 0, none⟩ = some (.bool nn) := FUn17a.out.cell 0 0 rfl rfl
        have qq4 : w17.cell? ⟨w12.heap.size, 1, none⟩ = some (.slice on ln cn) := FUn17a.out.cell 0 1 rfl rfl
        have qq5 : w17.cell? ⟨w12.heap.size, 2, none⟩ = some (.slice bn mn dn) := FUn17a.out.cell 0 2 rfl rfl
        go_wp2_with fail
        refine ((ratCmp_any nl nn ol bl on bn ll ml ln mn cl dl cn dn pl pn ql qn _ HL17a.out HN17a.out (by omega) (by omega) (by omega) (by omega)).mono fun e w h => (⟨h.1.trans (congrArg (fun t => Ending.returned (.int .i64 t)) Z2.out), h.2⟩ : e = .returned (.int .i64 0) ∧ _)).mono ?_
        rintro e w18 ⟨rfl, hb⟩
        clear qq0 qq1 qq2 qq3 qq4 qq5
        have FP18a := Lib.hid (FP17a.out.later hb)
        have FFf18a := Lib.hid (FFf17a.out.later hb)
        have FFg18a := Lib.hid (FFg17a.out.later hb)
        have FFh18a := Lib.hid (FFh17a.out.later hb)
        have FUs18a := Lib.hid (FUs17a.out.later hb)
        have FUt18a := Lib.hid (FUt17a.out.later hb)
        have FUu18a := Lib.hid (FUu17a.out.later hb)
        have FUv18a := Lib.hid (FUv17a.out.later hb)
        have FUl18a := Lib.hid (FUl17a.out.later hb)
        have FUq18a := Lib.hid (FUq17a.out.later hb)
        have FUr18a := Lib.hid (FUr17a.out.later hb)
        have FUn18a := Lib.hid (FUn17a.out.later hb)
        have FUx18a := Lib.hid (FUx17a.out.later hb)
        have FUb18a := Lib.hid (FUb17a.out.later hb)
        have HF18a := Lib.hid (HF17a.out.keep hb)
        have HG18a := Lib.hid (HG17a.out.keep hb)
        have HH18a := Lib.hid (HH17a.out.keep hb)
        have HS18a := Lib.hid (HS17a.out.keep hb)
        have HT18a := Lib.hid (HT17a.out.keep hb)
        have HU18a := Lib.hid (HU17a.out.keep hb)
        have HV18a := Lib.hid (HV17a.out.keep hb)
        have HL18a := Lib.hid (HL17a.out.keep hb)
        have HQ18a := Lib.hid (HQ17a.out.keep hb)
        have HR18a := Lib.hid (HR17a.out.keep hb)
        have HN18a := Lib.hid (HN17a.out.keep hb)
        have HX18a := Lib.hid (HX17a.out.keep hb)
        have HB18a := Lib.hid (HB17a.out.keep hb)
        clear hb
        have qq0 : w18.cell? ⟨w1.heap.size, 0, none⟩ = some (.bool nf) := FFf18a.out.cell 0 0 rfl rfl
        have qq1 : w18.cell? ⟨w1.heap.size, 1, none⟩ = some (.slice of lf cf) := FFf18a.out.cell 0 1 rfl rfl
        have qq2 : w18.cell? ⟨w1.heap.size, 2, none⟩ = some (.slice bf mf df) := FFf18a.out.cell 0 2 rfl rfl
        have qq3 : w18.cell? ⟨w13.heap.size, 0, none⟩ = some (.bool nx) := FUx18a.out.cell 0 0 rfl rfl
        have qq4 : w18.cell? ⟨w13.heap.size, 1, none⟩ = some (.slice ox lx cx) := FUx18a.out.cell 0 1 rfl rfl
        have qq5 : w18.cell? ⟨w13.heap.size, 2, none⟩ = some (.slice bx mx dx) := FUx18a.out.cell 0 2 rfl rfl
        go_wp2_with fail
        refine ((ratCmp_any nx nf ox bx of bf lx mx lf mf cx dx cf df px pf qx qf _ HX18a.out HF18a.out (by omega) (by omega) (by omega) (by omega)).mono fun e w h => (⟨h.1.trans (congrArg (fun t => Ending.returned (.int .i64 t)) Z3.out), h.2⟩ : e = .returned (.int .i64 0) ∧ _)).mono ?_
        rintro e w19 ⟨rfl, hb⟩
        clear qq0 qq1 qq2 qq3 qq4 qq5
        have FP19a := Lib.hid (FP18a.out.later hb)
        have FFf19a := Lib.hid (FFf18a.out.later hb)
        have FFg19a := Lib.hid (FFg18a.out.later hb)
        have FFh19a := Lib.hid (FFh18a.out.later hb)
        have FUs19a := Lib.hid (FUs18a.out.later hb)
        have FUt19a := Lib.hid (FUt18a.out.later hb)
        have FUu19a := Lib.hid (FUu18a.out.later hb)
        have FUv19a := Lib.hid (FUv18a.out.later hb)
        have FUl19a := Lib.hid (FUl18a.out.later hb)
        have FUq19a := Lib.hid (FUq18a.out.later hb)
        have FUr19a := Lib.hid (FUr18a.out.later hb)
        have FUn19a := Lib.hid (FUn18a.out.later hb)
        have FUx19a := Lib.hid (FUx18a.out.later hb)
        have FUb19a := Lib.hid (FUb18a.out.later hb)
        have HF19a := Lib.hid (HF18a.out.keep hb)
        have HG19a := Lib.hid (HG18a.out.keep hb)
        have HH19a := Lib.hid (HH18a.out.keep hb)
        have HS19a := Lib.hid (HS18a.out.keep hb)
        have HT19a := Lib.hid (HT18a.out.keep hb)
        have HU19a := Lib.hid (HU18a.out.keep hb)
        have HV19a := Lib.hid (HV18a.out.keep hb)
        have HL19a := Lib.hid (HL18a.out.keep hb)
        have HQ19a := Lib.hid (HQ18a.out.keep hb)
        have HR19a := Lib.hid (HR18a.out.keep hb)
        have HN19a := Lib.hid (HN18a.out.keep hb)
        have HX19a := Lib.hid (HX18a.out.keep hb)
        have HB19a := Lib.hid (HB18a.out.keep hb)
        clear hb
        have qq0 : w19.cell? ⟨w6.heap.size, 0, none⟩ = some (.bool nt) := FUt19a.out.cell 0 0 rfl rfl
        have qq1 : w19.cell? ⟨w6.heap.size, 1, none⟩ = some (.slice ot lt ct) := FUt19a.out.cell 0 1 rfl rfl
        have qq2 : w19.cell? ⟨w6.heap.size, 2, none⟩ = some (.slice bt mt dt) := FUt19a.out.cell 0 2 rfl rfl
        have qq3 : w19.cell? ⟨w15.heap.size, 0, none⟩ = some (.bool nb) := FUb19a.out.cell 0 0 rfl rfl
        have qq4 : w19.cell? ⟨w15.heap.size, 1, none⟩ = some (.slice ob lb cb) := FUb19a.out.cell 0 1 rfl rfl
        have qq5 : w19.cell? ⟨w15.heap.size, 2, none⟩ = some (.slice bb mb db) := FUb19a.out.cell 0 2 rfl rfl
        go_wp2_with fail
        refine ((ratCmp_any nb nt ob bb ot bt lb mb lt mt cb db ct dt pt pt qt qt _ HB19a.out HT19a.out (by omega) (by omega) (by omega) (by omega)).mono fun e w h => (⟨h.1.trans (congrArg (fun t => Ending.returned (.int .i64 t)) Z4.out), h.2⟩ : e = .returned (.int .i64 0) ∧ _)).mono ?_
        rintro e w20 ⟨rfl, hb⟩
        clear qq0 qq1 qq2 qq3 qq4 qq5
        have FP20a := Lib.hid (FP19a.out.later hb)
        have FFf20a := Lib.hid (FFf19a.out.later hb)
        have FFg20a := Lib.hid (FFg19a.out.later hb)
        have FFh20a := Lib.hid (FFh19a.out.later hb)
        have FUs20a := Lib.hid (FUs19a.out.later hb)
        have FUt20a := Lib.hid (FUt19a.out.later hb)
        have FUu20a := Lib.hid (FUu19a.out.later hb)
        have FUv20a := Lib.hid (FUv19a.out.later hb)
        have FUl20a := Lib.hid (FUl19a.out.later hb)
        have FUq20a := Lib.hid (FUq19a.out.later hb)
        have FUr20a := Lib.hid (FUr19a.out.later hb)
        have FUn20a := Lib.hid (FUn19a.out.later hb)
        have FUx20a := Lib.hid (FUx19a.out.later hb)
        have FUb20a := Lib.hid (FUb19a.out.later hb)
        have HF20a := Lib.hid (HF19a.out.keep hb)
        have HG20a := Lib.hid (HG19a.out.keep hb)
        have HH20a := Lib.hid (HH19a.out.keep hb)
        have HS20a := Lib.hid (HS19a.out.keep hb)
        have HT20a := Lib.hid (HT19a.out.keep hb)
        have HU20a := Lib.hid (HU19a.out.keep hb)
        have HV20a := Lib.hid (HV19a.out.keep hb)
        have HL20a := Lib.hid (HL19a.out.keep hb)
        have HQ20a := Lib.hid (HQ19a.out.keep hb)
        have HR20a := Lib.hid (HR19a.out.keep hb)
        have HN20a := Lib.hid (HN19a.out.keep hb)
        have HX20a := Lib.hid (HX19a.out.keep hb)
        have HB20a := Lib.hid (HB19a.out.keep hb)
        clear hb
        have qq0 : w20.cell? ⟨w2.heap.size, 0, none⟩ = some (.bool ng) := FFg20a.out.cell 0 0 rfl rfl
        have qq1 : w20.cell? ⟨w2.heap.size, 1, none⟩ = some (.slice og lg cg) := FFg20a.out.cell 0 1 rfl rfl
        have qq2 : w20.cell? ⟨w2.heap.size, 2, none⟩ = some (.slice bg mg dg) := FFg20a.out.cell 0 2 rfl rfl
        have qq3 : w20.cell? ⟨w10.heap.size, 0, none⟩ = some (.bool nq) := FUq20a.out.cell 0 0 rfl rfl
        have qq4 : w20.cell? ⟨w10.heap.size, 1, none⟩ = some (.slice oq lq cq) := FUq20a.out.cell 0 1 rfl rfl
        have qq5 : w20.cell? ⟨w10.heap.size, 2, none⟩ = some (.slice bq mq dq) := FUq20a.out.cell 0 2 rfl rfl
        go_wp2_with fail
        refine (ratQuo_all nq ng oq bq og bg lq mq lg mg cq dq cg dg pq pg qq qg _ HQ20a.out HG20a.out (by omega) (by omega) (by omega) (by omega)).mono ?_
        rintro e w21 ⟨ny, oy, ly, cy, by_, my, dy, ey, py, qy, rfl, hly, hmy, hz, hb, ht, ht0⟩
        clear qq0 qq1 qq2 qq3 qq4 qq5
        have FP21a := Lib.hid (FP20a.out.later hb)
        have FFf21a := Lib.hid (FFf20a.out.later hb)
        have FFg21a := Lib.hid (FFg20a.out.later hb)
        have FFh21a := Lib.hid (FFh20a.out.later hb)
        have FUq21a := Lib.hid (FUq20a.out.later hb)
        have HF21a := Lib.hid (HF20a.out.keep hb)
        have HG21a := Lib.hid (HG20a.out.keep hb)
        have HH21a := Lib.hid (HH20a.out.keep hb)
        have HQ21a := Lib.hid (HQ20a.out.keep hb)
        have hf : Fr w21 (w21.alloc (.cells #[.bool ny, .slice oy ly cy, .slice by_ my dy] 27)) [(27, #[.bool ny, .slice oy ly cy, .slice by_ my dy])] := (Fr.nil w21).alloc rfl _ _
        have FP21b := Lib.hid (FP21a.out.later hf.below)
        have FFf21b := Lib.hid (FFf21a.out.later hf.below)
        have FFg21b := Lib.hid (FFg21a.out.later hf.below)
        have FFh21b := Lib.hid (FFh21a.out.later hf.below)
        have FUq21b := Lib.hid (FUq21a.out.later hf.below)
        have HF21b := Lib.hid (HF21a.out.keep hf.below)
        have HG21b := Lib.hid (HG21a.out.keep hf.below)
        have HH21b := Lib.hid (HH21a.out.keep hf.below)
        have HQ21b := Lib.hid (HQ21a.out.keep hf.below)
        have FUy21 := Lib.hid hf
        have HY21 := Lib.hid (hz.keep hf.below)
        have TY := Lib.hid ht
        have TZ := Lib.hid ht0
        clear hb hz hf ht ht0
        obtain ⟨u, hu⟩ : ∃ u, u = pg.sign := ⟨_, rfl⟩
        have HU := Lib.hid hu
        clear hu
        have qq0 : (w21.alloc (.cells #[.bool ny, .slice oy ly cy, .slice by_ my dy] 27)).cell? ⟨w2.heap.size, 0, none⟩ = some (.bool ng) := FFg21b.out.cell 0 0 rfl rfl
        have qq1 : (w21.alloc (.cells #[.bool ny, .slice oy ly cy, .slice by_ my dy] 27)).cell? ⟨w2.heap.size, 1, none⟩ = some (.slice og lg cg) := FFg21b.out.cell 0 1 rfl rfl
        have qq2 : (w21.alloc (.cells #[.bool ny, .slice oy ly cy, .slice by_ my dy] 27)).cell? ⟨w2.heap.size, 2, none⟩ = some (.slice bg mg dg) := FFg21b.out.cell 0 2 rfl rfl
        go_wp2_with fail
        refine ((ratSign_any _ _ _ _ _ _ _ pg qg _ HG21b.out).mono fun e w h => (⟨h.1.trans (congrArg (fun t => Ending.returned (.int .i64 t)) HU.out.symm), h.2⟩ : e = .returned (.int .i64 u) ∧ _)).mono ?_
        rintro e w22 ⟨rfl, hb⟩
        clear qq0 qq1 qq2
        have FP22a := Lib.hid (FP21b.out.later hb)
        have FFf22a := Lib.hid (FFf21b.out.later hb)
        have FFg22a := Lib.hid (FFg21b.out.later hb)
        have FFh22a := Lib.hid (FFh21b.out.later hb)
        have FUq22a := Lib.hid (FUq21b.out.later hb)
        have FUy22a := Lib.hid (FUy21.out.later hb)
        have HF22a := Lib.hid (HF21b.out.keep hb)
        have HG22a := Lib.hid (HG21b.out.keep hb)
        have HH22a := Lib.hid (HH21b.out.keep hb)
        have HQ22a := Lib.hid (HQ21b.out.keep hb)
        have HY22a := Lib.hid (HY21.out.keep hb)
        clear hb
        by_cases hr0 : pg = 0
        · obtain ⟨h1, h2, h3⟩ := TZ.out hr0
          subst h1 h2 h3
          have hu0 : (u == 0) = true := by rw [HU.out, hr0]; rfl
          clear hr0
          go_wp2_with fail
          refine (awake_any _).mono ?_
          rintro e w23 ⟨rfl, hb⟩
          have FP23a := Lib.hid (FP22a.out.later hb)
          have FFf23a := Lib.hid (FFf22a.out.later hb)
          have FFg23a := Lib.hid (FFg22a.out.later hb)
          have FFh23a := Lib.hid (FFh22a.out.later hb)
          have FUq23a := Lib.hid (FUq22a.out.later hb)
          have FUy23a := Lib.hid (FUy22a.out.later hb)
          have HF23a := Lib.hid (HF22a.out.keep hb)
          have HG23a := Lib.hid (HG22a.out.keep hb)
          have HH23a := Lib.hid (HH22a.out.keep hb)
          have HQ23a := Lib.hid (HQ22a.out.keep hb)
          have HY23a := Lib.hid (HY22a.out.keep hb)
          clear hb
          go_wp2
          go_ret
          exact ⟨rfl, FP23a.out.below⟩
        · obtain ⟨h1, h2, h3⟩ : ey = 0 ∧ py = lowP (pq * (qg : Int)) ((qq : Int) * pg) ∧ qy = lowQ (pq * (qg : Int)) ((qq : Int) * pg) := by
            rcases TY.out hr0 with ⟨_, h1, h2, h3⟩ | ⟨h1, _⟩
            · exact ⟨h1, h2, h3⟩
            · exact absurd ⟨(Bl.low _ ((KPQ.out.mul KQG.out).mono (j := 385) (by decide))).fits (by decide), (fits_cast _).1 ((Bl.lowq _ (((KQQ.out.mul KPG.out).mono (j := 385) (by decide)))).fits (by decide))⟩ h1
          subst h1
          have hu0 : (u == 0) = false := by
            have : pg.sign ≠ 0 := fun h => hr0 (Int.sign_eq_zero_iff_zero.1 h)
            rw [HU.out]; simp [this]
          have Z5 : Hid ((py * (qf : Int) - pf * (qy : Int)).sign = 0) := by
            show _ = _
            rw [h2, h3]
            exact eqf_sign (y := ((qf : Int) * (qg : Int)) * pg) (x := (pf * pg) * (qg : Int)) (Int.mul_ne_zero (Int.ne_of_gt (Int.mul_pos hqif hqig)) hr0) (Int.ne_of_gt hqif) (eqf_trans (Int.mul_ne_zero (Int.ne_of_gt hqiq) hr0) (eqf_low' (Int.mul_ne_zero (Int.ne_of_gt hqiq) hr0)) (eqf_quo EVQ.out (eqf_refl pg qg))) (eqf_refl pf qf) (by grind)
          clear hr0 h2 h3
          have qq0 : w22.cell? ⟨w1.heap.size, 0, none⟩ = some (.bool nf) := FFf22a.out.cell 0 0 rfl rfl
          have qq1 : w22.cell? ⟨w1.heap.size, 1, none⟩ = some (.slice of lf cf) := FFf22a.out.cell 0 1 rfl rfl
          have qq2 : w22.cell? ⟨w1.heap.size, 2, none⟩ = some (.slice bf mf df) := FFf22a.out.cell 0 2 rfl rfl
          have qq3 : w22.cell? ⟨w21.heap.size, 0, none⟩ = some (.bool ny) := FUy22a.out.cell 0 0 rfl rfl
          have qq4 : w22.cell? ⟨w21.heap.size, 1, none⟩ = some (.slice oy ly cy) := FUy22a.out.cell 0 1 rfl rfl
          have qq5 : w22.cell? ⟨w21.heap.size, 2, none⟩ = some (.slice by_ my dy) := FUy22a.out.cell 0 2 rfl rfl
          go_wp2_with fail
          refine ((ratCmp_any ny nf oy by_ of bf ly my lf mf cy dy cf df py pf qy qf _ HY22a.out HF22a.out (by omega) (by omega) (by omega) (by omega)).mono fun e w h => (⟨h.1.trans (congrArg (fun t => Ending.returned (.int .i64 t)) Z5.out), h.2⟩ : e = .returned (.int .i64 0) ∧ _)).mono ?_
          rintro e w23 ⟨rfl, hb⟩
          clear qq0 qq1 qq2 qq3 qq4 qq5
          have FP23a := Lib.hid (FP22a.out.later hb)
          have FFf23a := Lib.hid (FFf22a.out.later hb)
          have FFg23a := Lib.hid (FFg22a.out.later hb)
          have FFh23a := Lib.hid (FFh22a.out.later hb)
          have FUq23a := Lib.hid (FUq22a.out.later hb)
          have FUy23a := Lib.hid (FUy22a.out.later hb)
          have HF23a := Lib.hid (HF22a.out.keep hb)
          have HG23a := Lib.hid (HG22a.out.keep hb)
          have HH23a := Lib.hid (HH22a.out.keep hb)
          have HQ23a := Lib.hid (HQ22a.out.keep hb)
          have HY23a := Lib.hid (HY22a.out.keep hb)
          clear hb
          go_wp2_with fail
          refine (awake_any _).mono ?_
          rintro e w24 ⟨rfl, hb⟩
          have FP24a := Lib.hid (FP23a.out.later hb)
          have FFf24a := Lib.hid (FFf23a.out.later hb)
          have FFg24a := Lib.hid (FFg23a.out.later hb)
          have FFh24a := Lib.hid (FFh23a.out.later hb)
          have FUq24a := Lib.hid (FUq23a.out.later hb)
          have FUy24a := Lib.hid (FUy23a.out.later hb)
          have HF24a := Lib.hid (HF23a.out.keep hb)
          have HG24a := Lib.hid (HG23a.out.keep hb)
          have HH24a := Lib.hid (HH23a.out.keep hb)
          have HQ24a := Lib.hid (HQ23a.out.keep hb)
          have HY24a := Lib.hid (HY23a.out.keep hb)
          clear hb
          go_wp2
          go_ret
          exact ⟨rfl, FP24a.out.below⟩

set_option maxRecDepth 100000 in
theorem lifted (os : Os) (started : os.Started) (H : Type) (enc : TypeId × Value → H) :
    ReturnsInHanded {} Tryz.checked os 5 .any (Rows.numFieldSpec.pre6 enc Tryz.prog Tryz.f5 Rows.numFieldRow.domain false) (Rows.numFieldSpec.post enc Tryz.prog Tryz.f5 false true false false) := by
  refine returnsInHanded_of_change (C := Tryz.checked) own started (by kernel_rfl) Tryz.func5
    (ChangeSpec.witness6 (enc := enc) (C := Tryz.checked) false ⟨#[], #[.agg #[.bool false, .slice none 0 0], .agg #[.bool false, .slice none 0 0], .agg #[.bool false, .slice none 0 0], .agg #[.bool false, .slice none 0 0], .agg #[.bool false, .slice none 0 0], .agg #[.bool false, .slice none 0 0]], []⟩ 8 (by kernel_rfl) (by kernel_rfl) (by kernel_rfl) (by kernel_rfl)) ?_
  intro W base args ds gs before hval0 hW hcnd _
  have hval : ∀ (j : Nat) t v, Tryz.f5.params[j]? = some t → args[j]? = some v → Value.okWide Tryz.prog W .any base t v := hval0
  have hW' := hW
  obtain ⟨p, q, hA0, hV, rfl, hfz, hnd⟩ := hW
  have hA : DataW.TrodAll enc Tryz.prog W 0 (fun _ => true) true Tryz.f5.params.toList args.toList ds p := hA0
  have hAk := hA
  rw [Tryz.params5] at hA hval
  obtain ⟨v0, vs0, d0, ds0, p0, q0, hargs, rfl, rfl, h0, r0⟩ := trodAll_cons hA
  obtain ⟨v1, vs1, d1, ds1, p1, q1, rfl, rfl, rfl, h1, r1⟩ := trodAll_cons r0
  obtain ⟨v2, vs2, d2, ds2, p2, q2, rfl, rfl, rfl, h2, r2⟩ := trodAll_cons r1
  obtain ⟨v3, vs3, d3, ds3, p3, q3, rfl, rfl, rfl, h3, r3⟩ := trodAll_cons r2
  obtain ⟨v4, vs4, d4, ds4, p4, q4, rfl, rfl, rfl, h4, r4⟩ := trodAll_cons r3
  obtain ⟨v5, vs5, d5, ds5, p5, q5, rfl, rfl, rfl, h5, r5⟩ := trodAll_cons r4
  obtain ⟨rfl, rfl, rfl⟩ := trodAll_nil r5
  obtain rfl : args = #[v0, v1, v2, v3, v4, v5] := by cases args; simp_all
  obtain ⟨rfl, rfl⟩ := trodVars_none hV
  obtain ⟨s0, a0, l0, c0, xs0, rfl, hs0, hd0, hl0⟩ := open_raw (hval 0 43 v0 rfl rfl) h0
  obtain ⟨s1, a1, l1, c1, xs1, rfl, hs1, hd1, hl1⟩ := open_raw (hval 1 43 v1 rfl rfl) h1
  obtain ⟨s2, a2, l2, c2, xs2, rfl, hs2, hd2, hl2⟩ := open_raw (hval 2 43 v2 rfl rfl) h2
  obtain ⟨s3, a3, l3, c3, xs3, rfl, hs3, hd3, hl3⟩ := open_raw (hval 3 43 v3 rfl rfl) h3
  obtain ⟨s4, a4, l4, c4, xs4, rfl, hs4, hd4, hl4⟩ := open_raw (hval 4 43 v4 rfl rfl) h4
  obtain ⟨s5, a5, l5, c5, xs5, rfl, hs5, hd5, hl5⟩ := open_raw (hval 5 43 v5 rfl rfl) h5
  clear hA0 hval0
  rw [List.append_nil] at hW'
  refine (walk s0 s1 s2 s3 s4 s5 a0 a1 a2 a3 a4 a5 l0 l1 l2 l3 l4 l5 c0 c1 c2 c3 c4 c5 xs0 xs1 xs2 xs3 xs4 xs5 W hs0 hd0 hl0 hs1 hd1 hl1 hs2 hd2 hl2 hs3 hd3 hl3 hs4 hd4 hl4 hs5 hd5 hl5).mono fun e W' ⟨he, hg⟩ => ?_
  subst he
  exact ⟨_, rfl, post_law (by kernel_rfl) (by rw [Tryz.params5]; intro t ht; simp at ht; subst ht; exact ⟨by kernel_rfl, of_decide_eq_true (by kernel_rfl)⟩) hW' rfl rfl Tryz.underlying4 hAk rfl rfl rfl hg⟩

theorem over : Rows.numFieldRow.holds Tryz.pinned (OpenSpec.ofChange Rows.numFieldSpec) :=
  OpenClaim.holds_of_wide 5 Tryz.f5 rfl rfl rfl rfl rfl rfl rfl ⟨rfl, rfl, rfl, rfl, rfl⟩ rfl rfl rfl rfl rfl (by kernel_rfl) Tryz.func5 (by kernel_rfl)
    (of_decide_eq_true (by kernel_rfl)) (by unfold Func.isWrapper; first | (rw [if_pos (by decide +kernel)]; kernel_rfl) | (rw [if_neg (by decide +kernel)]; exact ⟨rfl, rfl⟩))
    (fun os started H enc _ => lifted os started H enc)

/-- the statement -/
theorem proved : Rows.NumFieldSaid :=
  over
end Go.Proofs.YtcgnmihabkgecaaGreat.numField
