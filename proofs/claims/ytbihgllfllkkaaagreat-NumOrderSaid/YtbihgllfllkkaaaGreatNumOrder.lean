/- For all integers a, b, c, d, m and n, NumOrder(a, b, c, d, m, n) returns true, ends, and turns nothing that was there. For every input; no condition. -/
import Derived.Test.YtbihgllfllkkaaaGreatRows
import Derived.Deep.CutRange
import Derived.IntWalk
import Derived.WalkKit
import Derived.ProofKit
import Derived.OpenShut
import Derived.Test.YtbihgllfllkkaaaGreatPart17
namespace Go.Proofs.YtbihgllfllkkaaaGreat.numOrder
open Go.ChangeShapes Go.WideShapes Go.ChangeAt Go.RowKit Go.Proofs.YtbihgllfllkkaaaGreat
set_option linter.unusedVariables false

theorem own : ownKnob Tryz.prog.godebug = none := by kernel_rfl

set_option maxHeartbeats 16000000 in
set_option maxRecDepth 8000 in
theorem walk (s1 s2 s3 s4 s5 s6 : Bool) (a1 a2 a3 a4 a5 a6 : Option Addr) (l1 l2 l3 l4 l5 l6 c1 c2 c3 c4 c5 c6 : Nat) (xs1 xs2 xs3 xs4 xs5 xs6 : List Nat) (W : World) (hs1 : Sl .u16 W a1 l1 xs1) (hd1 : Dig B16 xs1) (hl1 : l1 ≤ 9223372036854775807) (hs2 : Sl .u16 W a2 l2 xs2) (hd2 : Dig B16 xs2) (hl2 : l2 ≤ 9223372036854775807) (hs3 : Sl .u16 W a3 l3 xs3) (hd3 : Dig B16 xs3) (hl3 : l3 ≤ 9223372036854775807) (hs4 : Sl .u16 W a4 l4 xs4) (hd4 : Dig B16 xs4) (hl4 : l4 ≤ 9223372036854775807) (hs5 : Sl .u16 W a5 l5 xs5) (hd5 : Dig B16 xs5) (hl5 : l5 ≤ 9223372036854775807) (hs6 : Sl .u16 W a6 l6 xs6) (hd6 : Dig B16 xs6) (hl6 : l6 ≤ 9223372036854775807) :
    Calls Tryz.prog 9 #[.agg #[.bool s1, .slice a1 l1 c1], .agg #[.bool s2, .slice a2 l2 c2], .agg #[.bool s3, .slice a3 l3 c3], .agg #[.bool s4, .slice a4 l4 c4], .agg #[.bool s5, .slice a5 l5 c5], .agg #[.bool s6, .slice a6 l6 c6]] W fun e w' => e = .returned (.bool true) ∧ Below W.heap.size W w' := by
  have hf : Fr W ((((((W.alloc (.cells #[.bool s1, .slice a1 l1 c1] 24)).alloc (.cells #[.bool s2, .slice a2 l2 c2] 24)).alloc (.cells #[.bool s3, .slice a3 l3 c3] 24)).alloc (.cells #[.bool s4, .slice a4 l4 c4] 24)).alloc (.cells #[.bool s5, .slice a5 l5 c5] 24)).alloc (.cells #[.bool s6, .slice a6 l6 c6] 24)) [(24, #[.bool s1, .slice a1 l1 c1]), (24, #[.bool s2, .slice a2 l2 c2]), (24, #[.bool s3, .slice a3 l3 c3]), (24, #[.bool s4, .slice a4 l4 c4]), (24, #[.bool s5, .slice a5 l5 c5]), (24, #[.bool s6, .slice a6 l6 c6])] := ((((((Fr.nil W).alloc rfl _ _).alloc (by simp) _ _).alloc (by simp) _ _).alloc (by simp) _ _).alloc (by simp) _ _).alloc (by simp) _ _
  obtain ⟨V, hV⟩ : ∃ V, V = ((((((W.alloc (.cells #[.bool s1, .slice a1 l1 c1] 24)).alloc (.cells #[.bool s2, .slice a2 l2 c2] 24)).alloc (.cells #[.bool s3, .slice a3 l3 c3] 24)).alloc (.cells #[.bool s4, .slice a4 l4 c4] 24)).alloc (.cells #[.bool s5, .slice a5 l5 c5] 24)).alloc (.cells #[.bool s6, .slice a6 l6 c6] 24)) := ⟨_, rfl⟩
  have FP0 : Hid (Fr W V [(24, #[.bool s1, .slice a1 l1 c1]), (24, #[.bool s2, .slice a2 l2 c2]), (24, #[.bool s3, .slice a3 l3 c3]), (24, #[.bool s4, .slice a4 l4 c4]), (24, #[.bool s5, .slice a5 l5 c5]), (24, #[.bool s6, .slice a6 l6 c6])]) := by rw [hV]; exact hf
  have HS10 : Hid (Sl .u16 V a1 l1 xs1) := by rw [hV]; exact hs1.keep hf.below
  have HS20 : Hid (Sl .u16 V a2 l2 xs2) := by rw [hV]; exact hs2.keep hf.below
  have HS30 : Hid (Sl .u16 V a3 l3 xs3) := by rw [hV]; exact hs3.keep hf.below
  have HS40 : Hid (Sl .u16 V a4 l4 xs4) := by rw [hV]; exact hs4.keep hf.below
  have HS50 : Hid (Sl .u16 V a5 l5 xs5) := by rw [hV]; exact hs5.keep hf.below
  have HS60 : Hid (Sl .u16 V a6 l6 xs6) := by rw [hV]; exact hs6.keep hf.below
  clear hf hs1 hs2 hs3 hs4 hs5 hs6
  go_enter Tryz.func9, Tryz.ntmps9
  go_upto_region 1 with fail
  rw [← hV]
  clear hV
  have qq0 : V.cell? ⟨W.heap.size, 0, none⟩ = some (.bool s1) := FP0.out.cell 0 0 rfl rfl
  have qq1 : V.cell? ⟨W.heap.size, 1, none⟩ = some (.slice a1 l1 c1) := FP0.out.cell 0 1 rfl rfl
  have qq2 : V.cell? ⟨W.heap.size + 1, 0, none⟩ = some (.bool s2) := FP0.out.cell 1 0 rfl rfl
  have qq3 : V.cell? ⟨W.heap.size + 1, 1, none⟩ = some (.slice a2 l2 c2) := FP0.out.cell 1 1 rfl rfl
  have qq4 : V.cell? ⟨W.heap.size + 2, 0, none⟩ = some (.bool s3) := FP0.out.cell 2 0 rfl rfl
  have qq5 : V.cell? ⟨W.heap.size + 2, 1, none⟩ = some (.slice a3 l3 c3) := FP0.out.cell 2 1 rfl rfl
  have qq6 : V.cell? ⟨W.heap.size + 3, 0, none⟩ = some (.bool s4) := FP0.out.cell 3 0 rfl rfl
  have qq7 : V.cell? ⟨W.heap.size + 3, 1, none⟩ = some (.slice a4 l4 c4) := FP0.out.cell 3 1 rfl rfl
  have qq8 : V.cell? ⟨W.heap.size + 4, 0, none⟩ = some (.bool s5) := FP0.out.cell 4 0 rfl rfl
  have qq9 : V.cell? ⟨W.heap.size + 4, 1, none⟩ = some (.slice a5 l5 c5) := FP0.out.cell 4 1 rfl rfl
  have qq10 : V.cell? ⟨W.heap.size + 5, 0, none⟩ = some (.bool s6) := FP0.out.cell 5 0 rfl rfl
  have qq11 : V.cell? ⟨W.heap.size + 5, 1, none⟩ = some (.slice a6 l6 c6) := FP0.out.cell 5 1 rfl rfl
  go_wp2_with fail
  refine ((half_any s1 s2 a1 a2 l1 l2 c1 c2 8 xs1 xs2 _ _ _ HS10.out hd1 HS20.out hd2 rfl rfl (by omega) hl1 hl2).mono fun e w h => h.small (rawZ_bl s1 xs1 hd1 8) (rawZ_bl s2 xs2 hd2 8)).mono ?_
  rintro e w1 ⟨nf, of, lf, cf, bf, mf, df, spf, opf, lpf, cpf, sqf, oqf, lqf, cqf, pf, qf, okf, rfl, hlf, hmf, hq, hz, hb⟩
  clear qq0 qq1 qq2 qq3 qq4 qq5 qq6 qq7 qq8 qq9 qq10 qq11
  have FP1a := Lib.hid (FP0.out.later hb)
  have HS11a := Lib.hid (HS10.out.keep hb)
  have HS21a := Lib.hid (HS20.out.keep hb)
  have HS31a := Lib.hid (HS30.out.keep hb)
  have HS41a := Lib.hid (HS40.out.keep hb)
  have HS51a := Lib.hid (HS50.out.keep hb)
  have HS61a := Lib.hid (HS60.out.keep hb)
  have hf : Fr w1 ((w1.alloc (.cells #[.bool nf, .slice of lf cf, .slice bf mf df] 35)).alloc (.cells #[.bool spf, .slice opf lpf cpf, .bool sqf, .slice oqf lqf cqf] 43)) [(35, #[.bool nf, .slice of lf cf, .slice bf mf df]), (43, #[.bool spf, .slice opf lpf cpf, .bool sqf, .slice oqf lqf cqf])] := ((Fr.nil w1).alloc rfl _ _).alloc (by simp) _ _
  have FP1b := Lib.hid (FP1a.out.later hf.below)
  have HS11b := Lib.hid (HS11a.out.keep hf.below)
  have HS21b := Lib.hid (HS21a.out.keep hf.below)
  have HS31b := Lib.hid (HS31a.out.keep hf.below)
  have HS41b := Lib.hid (HS41a.out.keep hf.below)
  have HS51b := Lib.hid (HS51a.out.keep hf.below)
  have HS61b := Lib.hid (HS61a.out.keep hf.below)
  have FFf1 := Lib.hid hf
  have HF1 := Lib.hid (hq.keep hf.below)
  have hqpf : 0 < qf := hq.pos
  have HZF := Lib.hid hz
  clear hb hq hz hf
  have qq0 : ((w1.alloc (.cells #[.bool nf, .slice of lf cf, .slice bf mf df] 35)).alloc (.cells #[.bool spf, .slice opf lpf cpf, .bool sqf, .slice oqf lqf cqf] 43)).cell? ⟨W.heap.size, 0, none⟩ = some (.bool s1) := FP1b.out.cell 0 0 rfl rfl
  have qq1 : ((w1.alloc (.cells #[.bool nf, .slice of lf cf, .slice bf mf df] 35)).alloc (.cells #[.bool spf, .slice opf lpf cpf, .bool sqf, .slice oqf lqf cqf] 43)).cell? ⟨W.heap.size, 1, none⟩ = some (.slice a1 l1 c1) := FP1b.out.cell 0 1 rfl rfl
  have qq2 : ((w1.alloc (.cells #[.bool nf, .slice of lf cf, .slice bf mf df] 35)).alloc (.cells #[.bool spf, .slice opf lpf cpf, .bool sqf, .slice oqf lqf cqf] 43)).cell? ⟨W.heap.size + 1, 0, none⟩ = some (.bool s2) := FP1b.out.cell 1 0 rfl rfl
  have qq3 : ((w1.alloc (.cells #[.bool nf, .slice of lf cf, .slice bf mf df] 35)).alloc (.cells #[.bool spf, .slice opf lpf cpf, .bool sqf, .slice oqf lqf cqf] 43)).cell? ⟨W.heap.size + 1, 1, none⟩ = some (.slice a2 l2 c2) := FP1b.out.cell 1 1 rfl rfl
  have qq4 : ((w1.alloc (.cells #[.bool nf, .slice of lf cf, .slice bf mf df] 35)).alloc (.cells #[.bool spf, .slice opf lpf cpf, .bool sqf, .slice oqf lqf cqf] 43)).cell? ⟨W.heap.size + 2, 0, none⟩ = some (.bool s3) := FP1b.out.cell 2 0 rfl rfl
  have qq5 : ((w1.alloc (.cells #[.bool nf, .slice of lf cf, .slice bf mf df] 35)).alloc (.cells #[.bool spf, .slice opf lpf cpf, .bool sqf, .slice oqf lqf cqf] 43)).cell? ⟨W.heap.size + 2, 1, none⟩ = some (.slice a3 l3 c3) := FP1b.out.cell 2 1 rfl rfl
  have qq6 : ((w1.alloc (.cells #[.bool nf, .slice of lf cf, .slice bf mf df] 35)).alloc (.cells #[.bool spf, .slice opf lpf cpf, .bool sqf, .slice oqf lqf cqf] 43)).cell? ⟨W.heap.size + 3, 0, none⟩ = some (.bool s4) := FP1b.out.cell 3 0 rfl rfl
  have qq7 : ((w1.alloc (.cells #[.bool nf, .slice of lf cf, .slice bf mf df] 35)).alloc (.cells #[.bool spf, .slice opf lpf cpf, .bool sqf, .slice oqf lqf cqf] 43)).cell? ⟨W.heap.size + 3, 1, none⟩ = some (.slice a4 l4 c4) := FP1b.out.cell 3 1 rfl rfl
  have qq8 : ((w1.alloc (.cells #[.bool nf, .slice of lf cf, .slice bf mf df] 35)).alloc (.cells #[.bool spf, .slice opf lpf cpf, .bool sqf, .slice oqf lqf cqf] 43)).cell? ⟨W.heap.size + 4, 0, none⟩ = some (.bool s5) := FP1b.out.cell 4 0 rfl rfl
  have qq9 : ((w1.alloc (.cells #[.bool nf, .slice of lf cf, .slice bf mf df] 35)).alloc (.cells #[.bool spf, .slice opf lpf cpf, .bool sqf, .slice oqf lqf cqf] 43)).cell? ⟨W.heap.size + 4, 1, none⟩ = some (.slice a5 l5 c5) := FP1b.out.cell 4 1 rfl rfl
  have qq10 : ((w1.alloc (.cells #[.bool nf, .slice of lf cf, .slice bf mf df] 35)).alloc (.cells #[.bool spf, .slice opf lpf cpf, .bool sqf, .slice oqf lqf cqf] 43)).cell? ⟨W.heap.size + 5, 0, none⟩ = some (.bool s6) := FP1b.out.cell 5 0 rfl rfl
  have qq11 : ((w1.alloc (.cells #[.bool nf, .slice of lf cf, .slice bf mf df] 35)).alloc (.cells #[.bool spf, .slice opf lpf cpf, .bool sqf, .slice oqf lqf cqf] 43)).cell? ⟨W.heap.size + 5, 1, none⟩ = some (.slice a6 l6 c6) := FP1b.out.cell 5 1 rfl rfl
  go_wp2_with fail
  refine ((half_any s3 s4 a3 a4 l3 l4 c3 c4 8 xs3 xs4 _ _ _ HS31b.out hd3 HS41b.out hd4 rfl rfl (by omega) hl3 hl4).mono fun e w h => h.small (rawZ_bl s3 xs3 hd3 8) (rawZ_bl s4 xs4 hd4 8)).mono ?_
  rintro e w2 ⟨ng, og, lg, cg, bg, mg, dg, spg, opg, lpg, cpg, sqg, oqg, lqg, cqg, pg, qg, okg, rfl, hlg, hmg, hq, hz, hb⟩
  clear qq0 qq1 qq2 qq3 qq4 qq5 qq6 qq7 qq8 qq9 qq10 qq11
  have FP2a := Lib.hid (FP1b.out.later hb)
  have FFf2a := Lib.hid (FFf1.out.later hb)
  have HS12a := Lib.hid (HS11b.out.keep hb)
  have HS22a := Lib.hid (HS21b.out.keep hb)
  have HS32a := Lib.hid (HS31b.out.keep hb)
  have HS42a := Lib.hid (HS41b.out.keep hb)
  have HS52a := Lib.hid (HS51b.out.keep hb)
  have HS62a := Lib.hid (HS61b.out.keep hb)
  have HF2a := Lib.hid (HF1.out.keep hb)
  have hf : Fr w2 ((w2.alloc (.cells #[.bool ng, .slice og lg cg, .slice bg mg dg] 35)).alloc (.cells #[.bool spg, .slice opg lpg cpg, .bool sqg, .slice oqg lqg cqg] 43)) [(35, #[.bool ng, .slice og lg cg, .slice bg mg dg]), (43, #[.bool spg, .slice opg lpg cpg, .bool sqg, .slice oqg lqg cqg])] := ((Fr.nil w2).alloc rfl _ _).alloc (by simp) _ _
  have FP2b := Lib.hid (FP2a.out.later hf.below)
  have FFf2b := Lib.hid (FFf2a.out.later hf.below)
  have HS12b := Lib.hid (HS12a.out.keep hf.below)
  have HS22b := Lib.hid (HS22a.out.keep hf.below)
  have HS32b := Lib.hid (HS32a.out.keep hf.below)
  have HS42b := Lib.hid (HS42a.out.keep hf.below)
  have HS52b := Lib.hid (HS52a.out.keep hf.below)
  have HS62b := Lib.hid (HS62a.out.keep hf.below)
  have HF2b := Lib.hid (HF2a.out.keep hf.below)
  have FFg2 := Lib.hid hf
  have HG2 := Lib.hid (hq.keep hf.below)
  have hqpg : 0 < qg := hq.pos
  have HZG := Lib.hid hz
  clear hb hq hz hf
  have qq0 : ((w2.alloc (.cells #[.bool ng, .slice og lg cg, .slice bg mg dg] 35)).alloc (.cells #[.bool spg, .slice opg lpg cpg, .bool sqg, .slice oqg lqg cqg] 43)).cell? ⟨W.heap.size, 0, none⟩ = some (.bool s1) := FP2b.out.cell 0 0 rfl rfl
  have qq1 : ((w2.alloc (.cells #[.bool ng, .slice og lg cg, .slice bg mg dg] 35)).alloc (.cells #[.bool spg, .slice opg lpg cpg, .bool sqg, .slice oqg lqg cqg] 43)).cell? ⟨W.heap.size, 1, none⟩ = some (.slice a1 l1 c1) := FP2b.out.cell 0 1 rfl rfl
  have qq2 : ((w2.alloc (.cells #[.bool ng, .slice og lg cg, .slice bg mg dg] 35)).alloc (.cells #[.bool spg, .slice opg lpg cpg, .bool sqg, .slice oqg lqg cqg] 43)).cell? ⟨W.heap.size + 1, 0, none⟩ = some (.bool s2) := FP2b.out.cell 1 0 rfl rfl
  have qq3 : ((w2.alloc (.cells #[.bool ng, .slice og lg cg, .slice bg mg dg] 35)).alloc (.cells #[.bool spg, .slice opg lpg cpg, .bool sqg, .slice oqg lqg cqg] 43)).cell? ⟨W.heap.size + 1, 1, none⟩ = some (.slice a2 l2 c2) := FP2b.out.cell 1 1 rfl rfl
  have qq4 : ((w2.alloc (.cells #[.bool ng, .slice og lg cg, .slice bg mg dg] 35)).alloc (.cells #[.bool spg, .slice opg lpg cpg, .bool sqg, .slice oqg lqg cqg] 43)).cell? ⟨W.heap.size + 2, 0, none⟩ = some (.bool s3) := FP2b.out.cell 2 0 rfl rfl
  have qq5 : ((w2.alloc (.cells #[.bool ng, .slice og lg cg, .slice bg mg dg] 35)).alloc (.cells #[.bool spg, .slice opg lpg cpg, .bool sqg, .slice oqg lqg cqg] 43)).cell? ⟨W.heap.size + 2, 1, none⟩ = some (.slice a3 l3 c3) := FP2b.out.cell 2 1 rfl rfl
  have qq6 : ((w2.alloc (.cells #[.bool ng, .slice og lg cg, .slice bg mg dg] 35)).alloc (.cells #[.bool spg, .slice opg lpg cpg, .bool sqg, .slice oqg lqg cqg] 43)).cell? ⟨W.heap.size + 3, 0, none⟩ = some (.bool s4) := FP2b.out.cell 3 0 rfl rfl
  have qq7 : ((w2.alloc (.cells #[.bool ng, .slice og lg cg, .slice bg mg dg] 35)).alloc (.cells #[.bool spg, .slice opg lpg cpg, .bool sqg, .slice oqg lqg cqg] 43)).cell? ⟨W.heap.size + 3, 1, none⟩ = some (.slice a4 l4 c4) := FP2b.out.cell 3 1 rfl rfl
  have qq8 : ((w2.alloc (.cells #[.bool ng, .slice og lg cg, .slice bg mg dg] 35)).alloc (.cells #[.bool spg, .slice opg lpg cpg, .bool sqg, .slice oqg lqg cqg] 43)).cell? ⟨W.heap.size + 4, 0, none⟩ = some (.bool s5) := FP2b.out.cell 4 0 rfl rfl
  have qq9 : ((w2.alloc (.cells #[.bool ng, .slice og lg cg, .slice bg mg dg] 35)).alloc (.cells #[.bool spg, .slice opg lpg cpg, .bool sqg, .slice oqg lqg cqg] 43)).cell? ⟨W.heap.size + 4, 1, none⟩ = some (.slice a5 l5 c5) := FP2b.out.cell 4 1 rfl rfl
  have qq10 : ((w2.alloc (.cells #[.bool ng, .slice og lg cg, .slice bg mg dg] 35)).alloc (.cells #[.bool spg, .slice opg lpg cpg, .bool sqg, .slice oqg lqg cqg] 43)).cell? ⟨W.heap.size + 5, 0, none⟩ = some (.bool s6) := FP2b.out.cell 5 0 rfl rfl
  have qq11 : ((w2.alloc (.cells #[.bool ng, .slice og lg cg, .slice bg mg dg] 35)).alloc (.cells #[.bool spg, .slice opg lpg cpg, .bool sqg, .slice oqg lqg cqg] 43)).cell? ⟨W.heap.size + 5, 1, none⟩ = some (.slice a6 l6 c6) := FP2b.out.cell 5 1 rfl rfl
  go_wp2_with fail
  refine ((half_any s5 s6 a5 a6 l5 l6 c5 c6 8 xs5 xs6 _ _ _ HS52b.out hd5 HS62b.out hd6 rfl rfl (by omega) hl5 hl6).mono fun e w h => h.small (rawZ_bl s5 xs5 hd5 8) (rawZ_bl s6 xs6 hd6 8)).mono ?_
  rintro e w3 ⟨nh, oh, lh, ch, bh, mh, dh, sph, oph, lph, cph, sqh, oqh, lqh, cqh, ph, qh, okh, rfl, hlh, hmh, hq, hz, hb⟩
  clear qq0 qq1 qq2 qq3 qq4 qq5 qq6 qq7 qq8 qq9 qq10 qq11
  have FP3a := Lib.hid (FP2b.out.later hb)
  have FFf3a := Lib.hid (FFf2b.out.later hb)
  have FFg3a := Lib.hid (FFg2.out.later hb)
  have HS13a := Lib.hid (HS12b.out.keep hb)
  have HS23a := Lib.hid (HS22b.out.keep hb)
  have HS33a := Lib.hid (HS32b.out.keep hb)
  have HS43a := Lib.hid (HS42b.out.keep hb)
  have HS53a := Lib.hid (HS52b.out.keep hb)
  have HS63a := Lib.hid (HS62b.out.keep hb)
  have HF3a := Lib.hid (HF2b.out.keep hb)
  have HG3a := Lib.hid (HG2.out.keep hb)
  have hf : Fr w3 ((w3.alloc (.cells #[.bool nh, .slice oh lh ch, .slice bh mh dh] 35)).alloc (.cells #[.bool sph, .slice oph lph cph, .bool sqh, .slice oqh lqh cqh] 43)) [(35, #[.bool nh, .slice oh lh ch, .slice bh mh dh]), (43, #[.bool sph, .slice oph lph cph, .bool sqh, .slice oqh lqh cqh])] := ((Fr.nil w3).alloc rfl _ _).alloc (by simp) _ _
  have FP3b := Lib.hid (FP3a.out.later hf.below)
  have FFf3b := Lib.hid (FFf3a.out.later hf.below)
  have FFg3b := Lib.hid (FFg3a.out.later hf.below)
  have HS13b := Lib.hid (HS13a.out.keep hf.below)
  have HS23b := Lib.hid (HS23a.out.keep hf.below)
  have HS33b := Lib.hid (HS33a.out.keep hf.below)
  have HS43b := Lib.hid (HS43a.out.keep hf.below)
  have HS53b := Lib.hid (HS53a.out.keep hf.below)
  have HS63b := Lib.hid (HS63a.out.keep hf.below)
  have HF3b := Lib.hid (HF3a.out.keep hf.below)
  have HG3b := Lib.hid (HG3a.out.keep hf.below)
  have FFh3 := Lib.hid hf
  have HH3 := Lib.hid (hq.keep hf.below)
  have hqph : 0 < qh := hq.pos
  have HZH := Lib.hid hz
  clear hb hq hz hf
  cases okf with
  | false =>
    go_wp2_with fail
    refine (awake_any _).mono ?_
    rintro e w4 ⟨rfl, hb⟩
    have FP4a := Lib.hid (FP3b.out.later hb)
    have FFf4a := Lib.hid (FFf3b.out.later hb)
    have FFg4a := Lib.hid (FFg3b.out.later hb)
    have FFh4a := Lib.hid (FFh3.out.later hb)
    have HF4a := Lib.hid (HF3b.out.keep hb)
    have HG4a := Lib.hid (HG3b.out.keep hb)
    have HH4a := Lib.hid (HH3.out.keep hb)
    clear hb
    go_wp2
    go_ret
    exact ⟨rfl, FP4a.out.below⟩
  | true =>
    cases okg with
    | false =>
      go_wp2_with fail
      refine (awake_any _).mono ?_
      rintro e w4 ⟨rfl, hb⟩
      have FP4a := Lib.hid (FP3b.out.later hb)
      have FFf4a := Lib.hid (FFf3b.out.later hb)
      have FFg4a := Lib.hid (FFg3b.out.later hb)
      have FFh4a := Lib.hid (FFh3.out.later hb)
      have HF4a := Lib.hid (HF3b.out.keep hb)
      have HG4a := Lib.hid (HG3b.out.keep hb)
      have HH4a := Lib.hid (HH3.out.keep hb)
      clear hb
      go_wp2
      go_ret
      exact ⟨rfl, FP4a.out.below⟩
    | true =>
      cases okh with
      | false =>
        go_wp2_with fail
        refine (awake_any _).mono ?_
        rintro e w4 ⟨rfl, hb⟩
        have FP4a := Lib.hid (FP3b.out.later hb)
        have FFf4a := Lib.hid (FFf3b.out.later hb)
        have FFg4a := Lib.hid (FFg3b.out.later hb)
        have FFh4a := Lib.hid (FFh3.out.later hb)
        have HF4a := Lib.hid (HF3b.out.keep hb)
        have HG4a := Lib.hid (HG3b.out.keep hb)
        have HH4a := Lib.hid (HH3.out.keep hb)
        clear hb
        go_wp2
        go_ret
        exact ⟨rfl, FP4a.out.below⟩
      | true =>
        have hzz := HZF.out rfl
        have KPF := Lib.hid hzz.1
        have KQF := Lib.hid hzz.2.1
        have KCF := Lib.hid hzz.2.2
        clear hzz HZF
        have hzz := HZG.out rfl
        have KPG := Lib.hid hzz.1
        have KQG := Lib.hid hzz.2.1
        have KCG := Lib.hid hzz.2.2
        clear hzz HZG
        have hzz := HZH.out rfl
        have KPH := Lib.hid hzz.1
        have KQH := Lib.hid hzz.2.1
        have KCH := Lib.hid hzz.2.2
        clear hzz HZH
        obtain ⟨x, hx⟩ : ∃ x, x = (pf * (qg : Int) - pg * (qf : Int)).sign := ⟨_, rfl⟩
        obtain ⟨y, hy⟩ : ∃ y, y = (pg * (qh : Int) - ph * (qg : Int)).sign := ⟨_, rfl⟩
        obtain ⟨z, hz⟩ : ∃ z, z = (pf * (qh : Int) - ph * (qf : Int)).sign := ⟨_, rfl⟩
        have htr1 : x ≤ 0 → y ≤ 0 → z ≤ 0 := fun h1 h2 => by rw [hx] at h1; rw [hy] at h2; rw [hz]; exact cross_trans hqpf hqpg hqph h1 h2
        have htr2 : 0 ≤ x → 0 ≤ y → 0 ≤ z := fun h1 h2 => by
          have a1 := cross_anti pf pg qf qg
          have a2 := cross_anti pg ph qg qh
          have a3 := cross_anti pf ph qf qh
          rw [← hx] at a1; rw [← hy] at a2; rw [← hz] at a3
          have := cross_trans hqph hqpg hqpf (by rw [a2]; omega : (ph * (qg : Int) - pg * (qh : Int)).sign ≤ 0) (by rw [a1]; omega)
          rw [a3] at this; omega
        have hxr := sign_range (pf * (qg : Int) - pg * (qf : Int))
        rw [← hx] at hxr
        have HX := Lib.hid hx
        have HY := Lib.hid hy
        have HZ := Lib.hid hz
        have TR1 := Lib.hid htr1
        have TR2 := Lib.hid htr2
        clear hx hy hz htr1 htr2
        go_upto_region 6 with fail
        obtain ⟨V3, hV⟩ : ∃ V, V = ((w3.alloc (.cells #[.bool nh, .slice oh lh ch, .slice bh mh dh] 35)).alloc (.cells #[.bool sph, .slice oph lph cph, .bool sqh, .slice oqh lqh cqh] 43)) := ⟨_, rfl⟩
        rw [← hV] at FP3b FFf3b FFg3b FFh3 HF3b HG3b HH3 ⊢
        clear hV
        have qq0 : V3.cell? ⟨w1.heap.size, 0, none⟩ = some (.bool nf) := FFf3b.out.cell 0 0 rfl rfl
        have qq1 : V3.cell? ⟨w1.heap.size, 1, none⟩ = some (.slice of lf cf) := FFf3b.out.cell 0 1 rfl rfl
        have qq2 : V3.cell? ⟨w1.heap.size, 2, none⟩ = some (.slice bf mf df) := FFf3b.out.cell 0 2 rfl rfl
        have qq3 : V3.cell? ⟨w2.heap.size, 0, none⟩ = some (.bool ng) := FFg3b.out.cell 0 0 rfl rfl
        have qq4 : V3.cell? ⟨w2.heap.size, 1, none⟩ = some (.slice og lg cg) := FFg3b.out.cell 0 1 rfl rfl
        have qq5 : V3.cell? ⟨w2.heap.size, 2, none⟩ = some (.slice bg mg dg) := FFg3b.out.cell 0 2 rfl rfl
        have qq6 : V3.cell? ⟨w3.heap.size, 0, none⟩ = some (.bool nh) := FFh3.out.cell 0 0 rfl rfl
        have qq7 : V3.cell? ⟨w3.heap.size, 1, none⟩ = some (.slice oh lh ch) := FFh3.out.cell 0 1 rfl rfl
        have qq8 : V3.cell? ⟨w3.heap.size, 2, none⟩ = some (.slice bh mh dh) := FFh3.out.cell 0 2 rfl rfl
        go_region_held3 (fun w' => w'.cell? ⟨w1.heap.size, 0, none⟩ = some (.bool nf) ∧ w'.cell? ⟨w1.heap.size, 1, none⟩ = some (.slice of lf cf) ∧ w'.cell? ⟨w1.heap.size, 2, none⟩ = some (.slice bf mf df) ∧ w'.cell? ⟨w2.heap.size, 0, none⟩ = some (.bool ng) ∧ w'.cell? ⟨w2.heap.size, 1, none⟩ = some (.slice og lg cg) ∧ w'.cell? ⟨w2.heap.size, 2, none⟩ = some (.slice bg mg dg) ∧ w'.cell? ⟨w3.heap.size, 0, none⟩ = some (.bool nh) ∧ w'.cell? ⟨w3.heap.size, 1, none⟩ = some (.slice oh lh ch) ∧ w'.cell? ⟨w3.heap.size, 2, none⟩ = some (.slice bh mh dh)) (go_keep)
          (first | (go_at_call 36; refine ((ratCmp_any nf nh of bf oh bh lf mf lh mh cf df ch dh pf ph qf qh _ HFr1.out HHr1.out (by omega) (by omega) (by omega) (by omega)).mono fun e w h => (⟨h.1.trans (congrArg (fun t => Ending.returned (.int .i64 t)) HZ.out.symm), h.2⟩ : e = .returned (.int .i64 z) ∧ _)).mono ?_; rintro e rw2 ⟨rfl, hb⟩; have hbb := hb; have FPr2 := Lib.hid (FPr1.out.later hbb); have FFfr2 := Lib.hid (FFfr1.out.later hbb); have FFgr2 := Lib.hid (FFgr1.out.later hbb); have FFhr2 := Lib.hid (FFhr1.out.later hbb); have HFr2 := Lib.hid (HFr1.out.keep hbb); have HGr2 := Lib.hid (HGr1.out.keep hbb); have HHr2 := Lib.hid (HHr1.out.keep hbb); clear hb hbb; have r2c0 : rw2.cell? ⟨w1.heap.size, 0, none⟩ = some (.bool nf) := FFfr2.out.cell 0 0 rfl rfl; have r2c1 : rw2.cell? ⟨w1.heap.size, 1, none⟩ = some (.slice of lf cf) := FFfr2.out.cell 0 1 rfl rfl; have r2c2 : rw2.cell? ⟨w1.heap.size, 2, none⟩ = some (.slice bf mf df) := FFfr2.out.cell 0 2 rfl rfl; have r2c3 : rw2.cell? ⟨w2.heap.size, 0, none⟩ = some (.bool ng) := FFgr2.out.cell 0 0 rfl rfl; have r2c4 : rw2.cell? ⟨w2.heap.size, 1, none⟩ = some (.slice og lg cg) := FFgr2.out.cell 0 1 rfl rfl; have r2c5 : rw2.cell? ⟨w2.heap.size, 2, none⟩ = some (.slice bg mg dg) := FFgr2.out.cell 0 2 rfl rfl; have r2c6 : rw2.cell? ⟨w3.heap.size, 0, none⟩ = some (.bool nh) := FFhr2.out.cell 0 0 rfl rfl; have r2c7 : rw2.cell? ⟨w3.heap.size, 1, none⟩ = some (.slice oh lh ch) := FFhr2.out.cell 0 1 rfl rfl; have r2c8 : rw2.cell? ⟨w3.heap.size, 2, none⟩ = some (.slice bh mh dh) := FFhr2.out.cell 0 2 rfl rfl) | (go_at_call 36; refine ((ratCmp_any ng nh og bg oh bh lg mg lh mh cg dg ch dh pg ph qg qh _ HGr0.out HHr0.out (by omega) (by omega) (by omega) (by omega)).mono fun e w h => (⟨h.1.trans (congrArg (fun t => Ending.returned (.int .i64 t)) HY.out.symm), h.2⟩ : e = .returned (.int .i64 y) ∧ _)).mono ?_; rintro e rw1 ⟨rfl, hb⟩; have hbb := hb; have FPr1 := Lib.hid (FPr0.out.later hbb); have FFfr1 := Lib.hid (FFfr0.out.later hbb); have FFgr1 := Lib.hid (FFgr0.out.later hbb); have FFhr1 := Lib.hid (FFhr0.out.later hbb); have HFr1 := Lib.hid (HFr0.out.keep hbb); have HGr1 := Lib.hid (HGr0.out.keep hbb); have HHr1 := Lib.hid (HHr0.out.keep hbb); clear hb hbb; have r1c0 : rw1.cell? ⟨w1.heap.size, 0, none⟩ = some (.bool nf) := FFfr1.out.cell 0 0 rfl rfl; have r1c1 : rw1.cell? ⟨w1.heap.size, 1, none⟩ = some (.slice of lf cf) := FFfr1.out.cell 0 1 rfl rfl; have r1c2 : rw1.cell? ⟨w1.heap.size, 2, none⟩ = some (.slice bf mf df) := FFfr1.out.cell 0 2 rfl rfl; have r1c3 : rw1.cell? ⟨w2.heap.size, 0, none⟩ = some (.bool ng) := FFgr1.out.cell 0 0 rfl rfl; have r1c4 : rw1.cell? ⟨w2.heap.size, 1, none⟩ = some (.slice og lg cg) := FFgr1.out.cell 0 1 rfl rfl; have r1c5 : rw1.cell? ⟨w2.heap.size, 2, none⟩ = some (.slice bg mg dg) := FFgr1.out.cell 0 2 rfl rfl; have r1c6 : rw1.cell? ⟨w3.heap.size, 0, none⟩ = some (.bool nh) := FFhr1.out.cell 0 0 rfl rfl; have r1c7 : rw1.cell? ⟨w3.heap.size, 1, none⟩ = some (.slice oh lh ch) := FFhr1.out.cell 0 1 rfl rfl; have r1c8 : rw1.cell? ⟨w3.heap.size, 2, none⟩ = some (.slice bh mh dh) := FFhr1.out.cell 0 2 rfl rfl) | (go_at_call 36; refine ((ratCmp_any nf ng of bf og bg lf mf lg mg cf df cg dg pf pg qf qg V3.drew (HF3b.out.keep (Below.refl _ _).drew) (HG3b.out.keep (Below.refl _ _).drew) (by omega) (by omega) (by omega) (by omega)).mono fun e w h => (⟨h.1.trans (congrArg (fun t => Ending.returned (.int .i64 t)) HX.out.symm), h.2⟩ : e = .returned (.int .i64 x) ∧ _)).mono ?_; rintro e rw0 ⟨rfl, hb⟩; have hbb := below_of_drew hb; have FPr0 := Lib.hid (FP3b.out.later hbb); have FFfr0 := Lib.hid (FFf3b.out.later hbb); have FFgr0 := Lib.hid (FFg3b.out.later hbb); have FFhr0 := Lib.hid (FFh3.out.later hbb); have HFr0 := Lib.hid (HF3b.out.keep hbb); have HGr0 := Lib.hid (HG3b.out.keep hbb); have HHr0 := Lib.hid (HH3.out.keep hbb); clear hb hbb; have r0c0 : rw0.cell? ⟨w1.heap.size, 0, none⟩ = some (.bool nf) := FFfr0.out.cell 0 0 rfl rfl; have r0c1 : rw0.cell? ⟨w1.heap.size, 1, none⟩ = some (.slice of lf cf) := FFfr0.out.cell 0 1 rfl rfl; have r0c2 : rw0.cell? ⟨w1.heap.size, 2, none⟩ = some (.slice bf mf df) := FFfr0.out.cell 0 2 rfl rfl; have r0c3 : rw0.cell? ⟨w2.heap.size, 0, none⟩ = some (.bool ng) := FFgr0.out.cell 0 0 rfl rfl; have r0c4 : rw0.cell? ⟨w2.heap.size, 1, none⟩ = some (.slice og lg cg) := FFgr0.out.cell 0 1 rfl rfl; have r0c5 : rw0.cell? ⟨w2.heap.size, 2, none⟩ = some (.slice bg mg dg) := FFgr0.out.cell 0 2 rfl rfl; have r0c6 : rw0.cell? ⟨w3.heap.size, 0, none⟩ = some (.bool nh) := FFhr0.out.cell 0 0 rfl rfl; have r0c7 : rw0.cell? ⟨w3.heap.size, 1, none⟩ = some (.slice oh lh ch) := FFhr0.out.cell 0 1 rfl rfl; have r0c8 : rw0.cell? ⟨w3.heap.size, 2, none⟩ = some (.slice bh mh dh) := FFhr0.out.cell 0 2 rfl rfl))
        have qq0 : rw2.cell? ⟨w1.heap.size, 0, none⟩ = some (.bool nf) := FFfr2.out.cell 0 0 rfl rfl
        have qq1 : rw2.cell? ⟨w1.heap.size, 1, none⟩ = some (.slice of lf cf) := FFfr2.out.cell 0 1 rfl rfl
        have qq2 : rw2.cell? ⟨w1.heap.size, 2, none⟩ = some (.slice bf mf df) := FFfr2.out.cell 0 2 rfl rfl
        have qq3 : rw2.cell? ⟨w2.heap.size, 0, none⟩ = some (.bool ng) := FFgr2.out.cell 0 0 rfl rfl
        have qq4 : rw2.cell? ⟨w2.heap.size, 1, none⟩ = some (.slice og lg cg) := FFgr2.out.cell 0 1 rfl rfl
        have qq5 : rw2.cell? ⟨w2.heap.size, 2, none⟩ = some (.slice bg mg dg) := FFgr2.out.cell 0 2 rfl rfl
        have qq6 : rw2.cell? ⟨w3.heap.size, 0, none⟩ = some (.bool nh) := FFhr2.out.cell 0 0 rfl rfl
        have qq7 : rw2.cell? ⟨w3.heap.size, 1, none⟩ = some (.slice oh lh ch) := FFhr2.out.cell 0 1 rfl rfl
        have qq8 : rw2.cell? ⟨w3.heap.size, 2, none⟩ = some (.slice bh mh dh) := FFhr2.out.cell 0 2 rfl rfl
        go_wp2_with fail
        refine ((ratAdd_any nf nh of bf oh bh lf mf lh mh cf df ch dh pf ph qf qh _ HFr2.out HHr2.out (by omega) (by omega) (by omega) (by omega)).mono fun e w h => h.fine (((KPF.out.mul KQH.out).add (KPH.out.mul KQF.out)).fits (by decide)) ((KQF.out.mul KQH.out).fits (by decide))).mono ?_
        rintro e w5 ⟨ns, os, ls, cs, bs, ms, ds, rfl, hls, hms, hz, hb⟩
        clear qq0 qq1 qq2 qq3 qq4 qq5 qq6 qq7 qq8
        have FP5a := Lib.hid (FPr2.out.later hb)
        have FFf5a := Lib.hid (FFfr2.out.later hb)
        have FFg5a := Lib.hid (FFgr2.out.later hb)
        have FFh5a := Lib.hid (FFhr2.out.later hb)
        have HF5a := Lib.hid (HFr2.out.keep hb)
        have HG5a := Lib.hid (HGr2.out.keep hb)
        have HH5a := Lib.hid (HHr2.out.keep hb)
        have hf : Fr w5 (w5.alloc (.cells #[.bool ns, .slice os ls cs, .slice bs ms ds] 35)) [(35, #[.bool ns, .slice os ls cs, .slice bs ms ds])] := (Fr.nil w5).alloc rfl _ _
        have FP5b := Lib.hid (FP5a.out.later hf.below)
        have FFf5b := Lib.hid (FFf5a.out.later hf.below)
        have FFg5b := Lib.hid (FFg5a.out.later hf.below)
        have FFh5b := Lib.hid (FFh5a.out.later hf.below)
        have HF5b := Lib.hid (HF5a.out.keep hf.below)
        have HG5b := Lib.hid (HG5a.out.keep hf.below)
        have HH5b := Lib.hid (HH5a.out.keep hf.below)
        obtain ⟨ps, hp⟩ : ∃ p, p = lowP (pf * (qh : Int) + ph * (qf : Int)) ((qf : Int) * (qh : Int)) := ⟨_, rfl⟩
        obtain ⟨qs, hq⟩ : ∃ q, q = lowQ (pf * (qh : Int) + ph * (qf : Int)) ((qf : Int) * (qh : Int)) := ⟨_, rfl⟩
        rw [← hp, ← hq] at hz
        have EPS := Lib.hid hp
        have EQS := Lib.hid hq
        have FUs5 := Lib.hid hf
        have HS5 := Lib.hid (hz.keep hf.below)
        clear hb hz hf hp hq
        have qq0 : (w5.alloc (.cells #[.bool ns, .slice os ls cs, .slice bs ms ds] 35)).cell? ⟨w1.heap.size, 0, none⟩ = some (.bool nf) := FFf5b.out.cell 0 0 rfl rfl
        have qq1 : (w5.alloc (.cells #[.bool ns, .slice os ls cs, .slice bs ms ds] 35)).cell? ⟨w1.heap.size, 1, none⟩ = some (.slice of lf cf) := FFf5b.out.cell 0 1 rfl rfl
        have qq2 : (w5.alloc (.cells #[.bool ns, .slice os ls cs, .slice bs ms ds] 35)).cell? ⟨w1.heap.size, 2, none⟩ = some (.slice bf mf df) := FFf5b.out.cell 0 2 rfl rfl
        have qq3 : (w5.alloc (.cells #[.bool ns, .slice os ls cs, .slice bs ms ds] 35)).cell? ⟨w2.heap.size, 0, none⟩ = some (.bool ng) := FFg5b.out.cell 0 0 rfl rfl
        have qq4 : (w5.alloc (.cells #[.bool ns, .slice os ls cs, .slice bs ms ds] 35)).cell? ⟨w2.heap.size, 1, none⟩ = some (.slice og lg cg) := FFg5b.out.cell 0 1 rfl rfl
        have qq5 : (w5.alloc (.cells #[.bool ns, .slice os ls cs, .slice bs ms ds] 35)).cell? ⟨w2.heap.size, 2, none⟩ = some (.slice bg mg dg) := FFg5b.out.cell 0 2 rfl rfl
        have qq6 : (w5.alloc (.cells #[.bool ns, .slice os ls cs, .slice bs ms ds] 35)).cell? ⟨w3.heap.size, 0, none⟩ = some (.bool nh) := FFh5b.out.cell 0 0 rfl rfl
        have qq7 : (w5.alloc (.cells #[.bool ns, .slice os ls cs, .slice bs ms ds] 35)).cell? ⟨w3.heap.size, 1, none⟩ = some (.slice oh lh ch) := FFh5b.out.cell 0 1 rfl rfl
        have qq8 : (w5.alloc (.cells #[.bool ns, .slice os ls cs, .slice bs ms ds] 35)).cell? ⟨w3.heap.size, 2, none⟩ = some (.slice bh mh dh) := FFh5b.out.cell 0 2 rfl rfl
        go_wp2_with fail
        refine ((ratAdd_any ng nh og bg oh bh lg mg lh mh cg dg ch dh pg ph qg qh _ HG5b.out HH5b.out (by omega) (by omega) (by omega) (by omega)).mono fun e w h => h.fine (((KPG.out.mul KQH.out).add (KPH.out.mul KQG.out)).fits (by decide)) ((KQG.out.mul KQH.out).fits (by decide))).mono ?_
        rintro e w6 ⟨nt, ot, lt, ct, bt, mt, dt, rfl, hlt, hmt, hz, hb⟩
        clear qq0 qq1 qq2 qq3 qq4 qq5 qq6 qq7 qq8
        have FP6a := Lib.hid (FP5b.out.later hb)
        have FFf6a := Lib.hid (FFf5b.out.later hb)
        have FFg6a := Lib.hid (FFg5b.out.later hb)
        have FFh6a := Lib.hid (FFh5b.out.later hb)
        have FUs6a := Lib.hid (FUs5.out.later hb)
        have HF6a := Lib.hid (HF5b.out.keep hb)
        have HG6a := Lib.hid (HG5b.out.keep hb)
        have HH6a := Lib.hid (HH5b.out.keep hb)
        have HS6a := Lib.hid (HS5.out.keep hb)
        have hf : Fr w6 (w6.alloc (.cells #[.bool nt, .slice ot lt ct, .slice bt mt dt] 35)) [(35, #[.bool nt, .slice ot lt ct, .slice bt mt dt])] := (Fr.nil w6).alloc rfl _ _
        have FP6b := Lib.hid (FP6a.out.later hf.below)
        have FFf6b := Lib.hid (FFf6a.out.later hf.below)
        have FFg6b := Lib.hid (FFg6a.out.later hf.below)
        have FFh6b := Lib.hid (FFh6a.out.later hf.below)
        have FUs6b := Lib.hid (FUs6a.out.later hf.below)
        have HF6b := Lib.hid (HF6a.out.keep hf.below)
        have HG6b := Lib.hid (HG6a.out.keep hf.below)
        have HH6b := Lib.hid (HH6a.out.keep hf.below)
        have HS6b := Lib.hid (HS6a.out.keep hf.below)
        obtain ⟨pt, hp⟩ : ∃ p, p = lowP (pg * (qh : Int) + ph * (qg : Int)) ((qg : Int) * (qh : Int)) := ⟨_, rfl⟩
        obtain ⟨qt, hq⟩ : ∃ q, q = lowQ (pg * (qh : Int) + ph * (qg : Int)) ((qg : Int) * (qh : Int)) := ⟨_, rfl⟩
        rw [← hp, ← hq] at hz
        have EPT := Lib.hid hp
        have EQT := Lib.hid hq
        have FUt6 := Lib.hid hf
        have HT6 := Lib.hid (hz.keep hf.below)
        clear hb hz hf hp hq
        have qq0 : (w6.alloc (.cells #[.bool nt, .slice ot lt ct, .slice bt mt dt] 35)).cell? ⟨w1.heap.size, 0, none⟩ = some (.bool nf) := FFf6b.out.cell 0 0 rfl rfl
        have qq1 : (w6.alloc (.cells #[.bool nt, .slice ot lt ct, .slice bt mt dt] 35)).cell? ⟨w1.heap.size, 1, none⟩ = some (.slice of lf cf) := FFf6b.out.cell 0 1 rfl rfl
        have qq2 : (w6.alloc (.cells #[.bool nt, .slice ot lt ct, .slice bt mt dt] 35)).cell? ⟨w1.heap.size, 2, none⟩ = some (.slice bf mf df) := FFf6b.out.cell 0 2 rfl rfl
        have qq3 : (w6.alloc (.cells #[.bool nt, .slice ot lt ct, .slice bt mt dt] 35)).cell? ⟨w2.heap.size, 0, none⟩ = some (.bool ng) := FFg6b.out.cell 0 0 rfl rfl
        have qq4 : (w6.alloc (.cells #[.bool nt, .slice ot lt ct, .slice bt mt dt] 35)).cell? ⟨w2.heap.size, 1, none⟩ = some (.slice og lg cg) := FFg6b.out.cell 0 1 rfl rfl
        have qq5 : (w6.alloc (.cells #[.bool nt, .slice ot lt ct, .slice bt mt dt] 35)).cell? ⟨w2.heap.size, 2, none⟩ = some (.slice bg mg dg) := FFg6b.out.cell 0 2 rfl rfl
        have qq6 : (w6.alloc (.cells #[.bool nt, .slice ot lt ct, .slice bt mt dt] 35)).cell? ⟨w3.heap.size, 0, none⟩ = some (.bool nh) := FFh6b.out.cell 0 0 rfl rfl
        have qq7 : (w6.alloc (.cells #[.bool nt, .slice ot lt ct, .slice bt mt dt] 35)).cell? ⟨w3.heap.size, 1, none⟩ = some (.slice oh lh ch) := FFh6b.out.cell 0 1 rfl rfl
        have qq8 : (w6.alloc (.cells #[.bool nt, .slice ot lt ct, .slice bt mt dt] 35)).cell? ⟨w3.heap.size, 2, none⟩ = some (.slice bh mh dh) := FFh6b.out.cell 0 2 rfl rfl
        go_wp2_with fail
        refine ((ratSub_any nf ng of bf og bg lf mf lg mg cf df cg dg pf pg qf qg _ HF6b.out HG6b.out (by omega) (by omega) (by omega) (by omega)).mono fun e w h => h.fine (((KPF.out.mul KQG.out).sub (KPG.out.mul KQF.out)).fits (by decide)) ((KQF.out.mul KQG.out).fits (by decide))).mono ?_
        rintro e w7 ⟨nv, ov, lv, cv, bv, mv, dv, rfl, hlv, hmv, hz, hb⟩
        clear qq0 qq1 qq2 qq3 qq4 qq5 qq6 qq7 qq8
        have FP7a := Lib.hid (FP6b.out.later hb)
        have FFf7a := Lib.hid (FFf6b.out.later hb)
        have FFg7a := Lib.hid (FFg6b.out.later hb)
        have FFh7a := Lib.hid (FFh6b.out.later hb)
        have FUs7a := Lib.hid (FUs6b.out.later hb)
        have FUt7a := Lib.hid (FUt6.out.later hb)
        have HF7a := Lib.hid (HF6b.out.keep hb)
        have HG7a := Lib.hid (HG6b.out.keep hb)
        have HH7a := Lib.hid (HH6b.out.keep hb)
        have HS7a := Lib.hid (HS6b.out.keep hb)
        have HT7a := Lib.hid (HT6.out.keep hb)
        have hf : Fr w7 (w7.alloc (.cells #[.bool nv, .slice ov lv cv, .slice bv mv dv] 35)) [(35, #[.bool nv, .slice ov lv cv, .slice bv mv dv])] := (Fr.nil w7).alloc rfl _ _
        have FP7b := Lib.hid (FP7a.out.later hf.below)
        have FFf7b := Lib.hid (FFf7a.out.later hf.below)
        have FFg7b := Lib.hid (FFg7a.out.later hf.below)
        have FFh7b := Lib.hid (FFh7a.out.later hf.below)
        have FUs7b := Lib.hid (FUs7a.out.later hf.below)
        have FUt7b := Lib.hid (FUt7a.out.later hf.below)
        have HF7b := Lib.hid (HF7a.out.keep hf.below)
        have HG7b := Lib.hid (HG7a.out.keep hf.below)
        have HH7b := Lib.hid (HH7a.out.keep hf.below)
        have HS7b := Lib.hid (HS7a.out.keep hf.below)
        have HT7b := Lib.hid (HT7a.out.keep hf.below)
        obtain ⟨pv, hp⟩ : ∃ p, p = lowP (pf * (qg : Int) - pg * (qf : Int)) ((qf : Int) * (qg : Int)) := ⟨_, rfl⟩
        obtain ⟨qv, hq⟩ : ∃ q, q = lowQ (pf * (qg : Int) - pg * (qf : Int)) ((qf : Int) * (qg : Int)) := ⟨_, rfl⟩
        rw [← hp, ← hq] at hz
        have EPV := Lib.hid hp
        have EQV := Lib.hid hq
        have FUv7 := Lib.hid hf
        have HV7 := Lib.hid (hz.keep hf.below)
        clear hb hz hf hp hq
        have qq0 : (w7.alloc (.cells #[.bool nv, .slice ov lv cv, .slice bv mv dv] 35)).cell? ⟨w1.heap.size, 0, none⟩ = some (.bool nf) := FFf7b.out.cell 0 0 rfl rfl
        have qq1 : (w7.alloc (.cells #[.bool nv, .slice ov lv cv, .slice bv mv dv] 35)).cell? ⟨w1.heap.size, 1, none⟩ = some (.slice of lf cf) := FFf7b.out.cell 0 1 rfl rfl
        have qq2 : (w7.alloc (.cells #[.bool nv, .slice ov lv cv, .slice bv mv dv] 35)).cell? ⟨w1.heap.size, 2, none⟩ = some (.slice bf mf df) := FFf7b.out.cell 0 2 rfl rfl
        have qq3 : (w7.alloc (.cells #[.bool nv, .slice ov lv cv, .slice bv mv dv] 35)).cell? ⟨w2.heap.size, 0, none⟩ = some (.bool ng) := FFg7b.out.cell 0 0 rfl rfl
        have qq4 : (w7.alloc (.cells #[.bool nv, .slice ov lv cv, .slice bv mv dv] 35)).cell? ⟨w2.heap.size, 1, none⟩ = some (.slice og lg cg) := FFg7b.out.cell 0 1 rfl rfl
        have qq5 : (w7.alloc (.cells #[.bool nv, .slice ov lv cv, .slice bv mv dv] 35)).cell? ⟨w2.heap.size, 2, none⟩ = some (.slice bg mg dg) := FFg7b.out.cell 0 2 rfl rfl
        have qq6 : (w7.alloc (.cells #[.bool nv, .slice ov lv cv, .slice bv mv dv] 35)).cell? ⟨w3.heap.size, 0, none⟩ = some (.bool nh) := FFh7b.out.cell 0 0 rfl rfl
        have qq7 : (w7.alloc (.cells #[.bool nv, .slice ov lv cv, .slice bv mv dv] 35)).cell? ⟨w3.heap.size, 1, none⟩ = some (.slice oh lh ch) := FFh7b.out.cell 0 1 rfl rfl
        have qq8 : (w7.alloc (.cells #[.bool nv, .slice ov lv cv, .slice bv mv dv] 35)).cell? ⟨w3.heap.size, 2, none⟩ = some (.slice bh mh dh) := FFh7b.out.cell 0 2 rfl rfl
        go_wp2_with fail
        refine ((ratMul_any nf nh of bf oh bh lf mf lh mh cf df ch dh pf ph qf qh _ HF7b.out HH7b.out (by omega) (by omega) (by omega) (by omega)).mono fun e w h => h.fine ((KPF.out.mul KPH.out).fits (by decide)) ((KQF.out.mul KQH.out).fits (by decide))).mono ?_
        rintro e w8 ⟨nm, om, lm, cm, bm, mm, dm, rfl, hlm, hmm, hz, hb⟩
        clear qq0 qq1 qq2 qq3 qq4 qq5 qq6 qq7 qq8
        have FP8a := Lib.hid (FP7b.out.later hb)
        have FFf8a := Lib.hid (FFf7b.out.later hb)
        have FFg8a := Lib.hid (FFg7b.out.later hb)
        have FFh8a := Lib.hid (FFh7b.out.later hb)
        have FUs8a := Lib.hid (FUs7b.out.later hb)
        have FUt8a := Lib.hid (FUt7b.out.later hb)
        have FUv8a := Lib.hid (FUv7.out.later hb)
        have HF8a := Lib.hid (HF7b.out.keep hb)
        have HG8a := Lib.hid (HG7b.out.keep hb)
        have HH8a := Lib.hid (HH7b.out.keep hb)
        have HS8a := Lib.hid (HS7b.out.keep hb)
        have HT8a := Lib.hid (HT7b.out.keep hb)
        have HV8a := Lib.hid (HV7.out.keep hb)
        have hf : Fr w8 (w8.alloc (.cells #[.bool nm, .slice om lm cm, .slice bm mm dm] 35)) [(35, #[.bool nm, .slice om lm cm, .slice bm mm dm])] := (Fr.nil w8).alloc rfl _ _
        have FP8b := Lib.hid (FP8a.out.later hf.below)
        have FFf8b := Lib.hid (FFf8a.out.later hf.below)
        have FFg8b := Lib.hid (FFg8a.out.later hf.below)
        have FFh8b := Lib.hid (FFh8a.out.later hf.below)
        have FUs8b := Lib.hid (FUs8a.out.later hf.below)
        have FUt8b := Lib.hid (FUt8a.out.later hf.below)
        have FUv8b := Lib.hid (FUv8a.out.later hf.below)
        have HF8b := Lib.hid (HF8a.out.keep hf.below)
        have HG8b := Lib.hid (HG8a.out.keep hf.below)
        have HH8b := Lib.hid (HH8a.out.keep hf.below)
        have HS8b := Lib.hid (HS8a.out.keep hf.below)
        have HT8b := Lib.hid (HT8a.out.keep hf.below)
        have HV8b := Lib.hid (HV8a.out.keep hf.below)
        obtain ⟨pm, hp⟩ : ∃ p, p = lowP (pf * ph) ((qf : Int) * (qh : Int)) := ⟨_, rfl⟩
        obtain ⟨qm, hq⟩ : ∃ q, q = lowQ (pf * ph) ((qf : Int) * (qh : Int)) := ⟨_, rfl⟩
        rw [← hp, ← hq] at hz
        have EPM := Lib.hid hp
        have EQM := Lib.hid hq
        have FUm8 := Lib.hid hf
        have HM8 := Lib.hid (hz.keep hf.below)
        clear hb hz hf hp hq
        have qq0 : (w8.alloc (.cells #[.bool nm, .slice om lm cm, .slice bm mm dm] 35)).cell? ⟨w1.heap.size, 0, none⟩ = some (.bool nf) := FFf8b.out.cell 0 0 rfl rfl
        have qq1 : (w8.alloc (.cells #[.bool nm, .slice om lm cm, .slice bm mm dm] 35)).cell? ⟨w1.heap.size, 1, none⟩ = some (.slice of lf cf) := FFf8b.out.cell 0 1 rfl rfl
        have qq2 : (w8.alloc (.cells #[.bool nm, .slice om lm cm, .slice bm mm dm] 35)).cell? ⟨w1.heap.size, 2, none⟩ = some (.slice bf mf df) := FFf8b.out.cell 0 2 rfl rfl
        have qq3 : (w8.alloc (.cells #[.bool nm, .slice om lm cm, .slice bm mm dm] 35)).cell? ⟨w2.heap.size, 0, none⟩ = some (.bool ng) := FFg8b.out.cell 0 0 rfl rfl
        have qq4 : (w8.alloc (.cells #[.bool nm, .slice om lm cm, .slice bm mm dm] 35)).cell? ⟨w2.heap.size, 1, none⟩ = some (.slice og lg cg) := FFg8b.out.cell 0 1 rfl rfl
        have qq5 : (w8.alloc (.cells #[.bool nm, .slice om lm cm, .slice bm mm dm] 35)).cell? ⟨w2.heap.size, 2, none⟩ = some (.slice bg mg dg) := FFg8b.out.cell 0 2 rfl rfl
        have qq6 : (w8.alloc (.cells #[.bool nm, .slice om lm cm, .slice bm mm dm] 35)).cell? ⟨w3.heap.size, 0, none⟩ = some (.bool nh) := FFh8b.out.cell 0 0 rfl rfl
        have qq7 : (w8.alloc (.cells #[.bool nm, .slice om lm cm, .slice bm mm dm] 35)).cell? ⟨w3.heap.size, 1, none⟩ = some (.slice oh lh ch) := FFh8b.out.cell 0 1 rfl rfl
        have qq8 : (w8.alloc (.cells #[.bool nm, .slice om lm cm, .slice bm mm dm] 35)).cell? ⟨w3.heap.size, 2, none⟩ = some (.slice bh mh dh) := FFh8b.out.cell 0 2 rfl rfl
        go_wp2_with fail
        refine ((ratMul_any ng nh og bg oh bh lg mg lh mh cg dg ch dh pg ph qg qh _ HG8b.out HH8b.out (by omega) (by omega) (by omega) (by omega)).mono fun e w h => h.fine ((KPG.out.mul KPH.out).fits (by decide)) ((KQG.out.mul KQH.out).fits (by decide))).mono ?_
        rintro e w9 ⟨nn, on, ln, cn, bn, mn, dn, rfl, hln, hmn, hz, hb⟩
        clear qq0 qq1 qq2 qq3 qq4 qq5 qq6 qq7 qq8
        have FP9a := Lib.hid (FP8b.out.later hb)
        have FFf9a := Lib.hid (FFf8b.out.later hb)
        have FFg9a := Lib.hid (FFg8b.out.later hb)
        have FFh9a := Lib.hid (FFh8b.out.later hb)
        have FUs9a := Lib.hid (FUs8b.out.later hb)
        have FUt9a := Lib.hid (FUt8b.out.later hb)
        have FUv9a := Lib.hid (FUv8b.out.later hb)
        have FUm9a := Lib.hid (FUm8.out.later hb)
        have HF9a := Lib.hid (HF8b.out.keep hb)
        have HG9a := Lib.hid (HG8b.out.keep hb)
        have HH9a := Lib.hid (HH8b.out.keep hb)
        have HS9a := Lib.hid (HS8b.out.keep hb)
        have HT9a := Lib.hid (HT8b.out.keep hb)
        have HV9a := Lib.hid (HV8b.out.keep hb)
        have HM9a := Lib.hid (HM8.out.keep hb)
        have hf : Fr w9 (w9.alloc (.cells #[.bool nn, .slice on ln cn, .slice bn mn dn] 35)) [(35, #[.bool nn, .slice on ln cn, .slice bn mn dn])] := (Fr.nil w9).alloc rfl _ _
        have FP9b := Lib.hid (FP9a.out.later hf.below)
        have FFf9b := Lib.hid (FFf9a.out.later hf.below)
        have FFg9b := Lib.hid (FFg9a.out.later hf.below)
        have FFh9b := Lib.hid (FFh9a.out.later hf.below)
        have FUs9b := Lib.hid (FUs9a.out.later hf.below)
        have FUt9b := Lib.hid (FUt9a.out.later hf.below)
        have FUv9b := Lib.hid (FUv9a.out.later hf.below)
        have FUm9b := Lib.hid (FUm9a.out.later hf.below)
        have HF9b := Lib.hid (HF9a.out.keep hf.below)
        have HG9b := Lib.hid (HG9a.out.keep hf.below)
        have HH9b := Lib.hid (HH9a.out.keep hf.below)
        have HS9b := Lib.hid (HS9a.out.keep hf.below)
        have HT9b := Lib.hid (HT9a.out.keep hf.below)
        have HV9b := Lib.hid (HV9a.out.keep hf.below)
        have HM9b := Lib.hid (HM9a.out.keep hf.below)
        obtain ⟨pn, hp⟩ : ∃ p, p = lowP (pg * ph) ((qg : Int) * (qh : Int)) := ⟨_, rfl⟩
        obtain ⟨qn, hq⟩ : ∃ q, q = lowQ (pg * ph) ((qg : Int) * (qh : Int)) := ⟨_, rfl⟩
        rw [← hp, ← hq] at hz
        have EPN := Lib.hid hp
        have EQN := Lib.hid hq
        have FUn9 := Lib.hid hf
        have HN9 := Lib.hid (hz.keep hf.below)
        clear hb hz hf hp hq
        go_upto_region 12 with fail
        obtain ⟨V9, hV⟩ : ∃ V, V = (w9.alloc (.cells #[.bool nn, .slice on ln cn, .slice bn mn dn] 35)) := ⟨_, rfl⟩
        rw [← hV] at FP9b FFf9b FFg9b FFh9b FUs9b FUt9b FUv9b FUm9b FUn9 HF9b HG9b HH9b HS9b HT9b HV9b HM9b HN9 ⊢
        clear hV
        skip
        go_cut [22, 137] from 106 to 137 (fun v22 v137 wx => v22 = .int .i64 x ∧ v137 = .bool false ∧ Fr W wx [(24, #[.bool s1, .slice a1 l1 c1]), (24, #[.bool s2, .slice a2 l2 c2]), (24, #[.bool s3, .slice a3 l3 c3]), (24, #[.bool s4, .slice a4 l4 c4]), (24, #[.bool s5, .slice a5 l5 c5]), (24, #[.bool s6, .slice a6 l6 c6])] ∧ Fr w1 wx [(35, #[.bool nf, .slice of lf cf, .slice bf mf df]), (43, #[.bool spf, .slice opf lpf cpf, .bool sqf, .slice oqf lqf cqf])] ∧ Fr w2 wx [(35, #[.bool ng, .slice og lg cg, .slice bg mg dg]), (43, #[.bool spg, .slice opg lpg cpg, .bool sqg, .slice oqg lqg cqg])] ∧ Fr w3 wx [(35, #[.bool nh, .slice oh lh ch, .slice bh mh dh]), (43, #[.bool sph, .slice oph lph cph, .bool sqh, .slice oqh lqh cqh])] ∧ Fr w5 wx [(35, #[.bool ns, .slice os ls cs, .slice bs ms ds])] ∧ Fr w6 wx [(35, #[.bool nt, .slice ot lt ct, .slice bt mt dt])] ∧ Fr w7 wx [(35, #[.bool nv, .slice ov lv cv, .slice bv mv dv])] ∧ Fr w8 wx [(35, #[.bool nm, .slice om lm cm, .slice bm mm dm])] ∧ Fr w9 wx [(35, #[.bool nn, .slice on ln cn, .slice bn mn dn])] ∧ Q32 wx nf of lf bf mf pf qf ∧ Q32 wx ng og lg bg mg pg qg ∧ Q32 wx nh oh lh bh mh ph qh ∧ Q32 wx ns os ls bs ms ps qs ∧ Q32 wx nt ot lt bt mt pt qt ∧ Q32 wx nv ov lv bv mv pv qv ∧ Q32 wx nm om lm bm mm pm qm ∧ Q32 wx nn on ln bn mn pn qn)
        case first =>
          go_wp2_with fail
          refine ((fine_any _ 5 _ _ (zeros_sl V9 36 5 _ rfl) (by decide)).mono fun e w h => (⟨h.1, h.2 ▸ (Below.refl _ _).alloc (Nat.le_refl _) _⟩ : e = .returned (.bool true) ∧ Below V9.heap.size V9 w)).mono ?_
          rintro e w10 ⟨rfl, hb⟩
          have FP10 := Lib.hid (FP9b.out.later hb)
          have FFf10 := Lib.hid (FFf9b.out.later hb)
          have FFg10 := Lib.hid (FFg9b.out.later hb)
          have FFh10 := Lib.hid (FFh9b.out.later hb)
          have FUs10 := Lib.hid (FUs9b.out.later hb)
          have FUt10 := Lib.hid (FUt9b.out.later hb)
          have FUv10 := Lib.hid (FUv9b.out.later hb)
          have FUm10 := Lib.hid (FUm9b.out.later hb)
          have FUn10 := Lib.hid (FUn9.out.later hb)
          have HF10 := Lib.hid (HF9b.out.keep hb)
          have HG10 := Lib.hid (HG9b.out.keep hb)
          have HH10 := Lib.hid (HH9b.out.keep hb)
          have HS10 := Lib.hid (HS9b.out.keep hb)
          have HT10 := Lib.hid (HT9b.out.keep hb)
          have HV10 := Lib.hid (HV9b.out.keep hb)
          have HM10 := Lib.hid (HM9b.out.keep hb)
          have HN10 := Lib.hid (HN9.out.keep hb)
          clear hb
          have hz1 := TR1.out
          have hz2 := TR2.out
          clear FP9b FFf9b FFg9b FFh9b FUs9b FUt9b FUv9b FUm9b FUn9
          rcases Int.lt_trichotomy x 0 with hx0 | hx0 | hx0
          · rcases Int.lt_trichotomy y 0 with hy0 | hy0 | hy0
            · have u1 : x ≤ 0 := by omega
              have u2 : ¬ 0 ≤ x := by omega
              have u3 : y ≤ 0 := by omega
              have u4 : ¬ 0 ≤ y := by omega
              have u5 : ¬ 0 < z := by have := hz1 u1 u3; omega
              clear hz1 hz2 hx0 hy0
              go_wp2_with fail
              go_meet
              case rel => exact ⟨rfl, by first | rfl | exact congrArg Value.bool (decide_eq_false (by omega)) | exact congrArg Value.bool (by rw [decide_eq_false (show ¬ 0 < z by omega), decide_eq_false (show ¬ z < 0 by omega)]; rfl), FP10.out, FFf10.out, FFg10.out, FFh10.out, FUs10.out, FUt10.out, FUv10.out, FUm10.out, FUn10.out, HF10.out, HG10.out, HH10.out, HS10.out, HT10.out, HV10.out, HM10.out, HN10.out⟩
            · have u1 : x ≤ 0 := by omega
              have u2 : ¬ 0 ≤ x := by omega
              have u3 : y ≤ 0 := by omega
              have u4 : 0 ≤ y := by omega
              have u5 : ¬ 0 < z := by have := hz1 u1 u3; omega
              clear hz1 hz2 hx0 hy0
              go_wp2_with fail
              go_meet
              case rel => exact ⟨rfl, by first | rfl | exact congrArg Value.bool (decide_eq_false (by omega)) | exact congrArg Value.bool (by rw [decide_eq_false (show ¬ 0 < z by omega), decide_eq_false (show ¬ z < 0 by omega)]; rfl), FP10.out, FFf10.out, FFg10.out, FFh10.out, FUs10.out, FUt10.out, FUv10.out, FUm10.out, FUn10.out, HF10.out, HG10.out, HH10.out, HS10.out, HT10.out, HV10.out, HM10.out, HN10.out⟩
            · have u1 : x ≤ 0 := by omega
              have u2 : ¬ 0 ≤ x := by omega
              have u3 : ¬ y ≤ 0 := by omega
              have u4 : 0 ≤ y := by omega
              clear hz1 hz2 hx0 hy0
              go_wp2_with fail
              go_meet
              case rel => exact ⟨rfl, by first | rfl | exact congrArg Value.bool (decide_eq_false (by omega)) | exact congrArg Value.bool (by rw [decide_eq_false (show ¬ 0 < z by omega), decide_eq_false (show ¬ z < 0 by omega)]; rfl), FP10.out, FFf10.out, FFg10.out, FFh10.out, FUs10.out, FUt10.out, FUv10.out, FUm10.out, FUn10.out, HF10.out, HG10.out, HH10.out, HS10.out, HT10.out, HV10.out, HM10.out, HN10.out⟩
          · rcases Int.lt_trichotomy y 0 with hy0 | hy0 | hy0
            · have u1 : x ≤ 0 := by omega
              have u2 : 0 ≤ x := by omega
              have u3 : y ≤ 0 := by omega
              have u4 : ¬ 0 ≤ y := by omega
              have u5 : ¬ 0 < z := by have := hz1 u1 u3; omega
              clear hz1 hz2 hx0 hy0
              go_wp2_with fail
              go_meet
              case rel => exact ⟨rfl, by first | rfl | exact congrArg Value.bool (decide_eq_false (by omega)) | exact congrArg Value.bool (by rw [decide_eq_false (show ¬ 0 < z by omega), decide_eq_false (show ¬ z < 0 by omega)]; rfl), FP10.out, FFf10.out, FFg10.out, FFh10.out, FUs10.out, FUt10.out, FUv10.out, FUm10.out, FUn10.out, HF10.out, HG10.out, HH10.out, HS10.out, HT10.out, HV10.out, HM10.out, HN10.out⟩
            · have u1 : x ≤ 0 := by omega
              have u2 : 0 ≤ x := by omega
              have u3 : y ≤ 0 := by omega
              have u4 : 0 ≤ y := by omega
              have u5 : ¬ 0 < z := by have := hz1 u1 u3; omega
              have u6 : ¬ z < 0 := by have := hz2 u2 u4; omega
              clear hz1 hz2 hx0 hy0
              go_wp2_with fail
              go_meet
              case rel => exact ⟨rfl, by first | rfl | exact congrArg Value.bool (decide_eq_false (by omega)) | exact congrArg Value.bool (by rw [decide_eq_false (show ¬ 0 < z by omega), decide_eq_false (show ¬ z < 0 by omega)]; rfl), FP10.out, FFf10.out, FFg10.out, FFh10.out, FUs10.out, FUt10.out, FUv10.out, FUm10.out, FUn10.out, HF10.out, HG10.out, HH10.out, HS10.out, HT10.out, HV10.out, HM10.out, HN10.out⟩
            · have u1 : x ≤ 0 := by omega
              have u2 : 0 ≤ x := by omega
              have u3 : ¬ y ≤ 0 := by omega
              have u4 : 0 ≤ y := by omega
              have u6 : ¬ z < 0 := by have := hz2 u2 u4; omega
              clear hz1 hz2 hx0 hy0
              go_wp2_with fail
              go_meet
              case rel => exact ⟨rfl, by first | rfl | exact congrArg Value.bool (decide_eq_false (by omega)) | exact congrArg Value.bool (by rw [decide_eq_false (show ¬ 0 < z by omega), decide_eq_false (show ¬ z < 0 by omega)]; rfl), FP10.out, FFf10.out, FFg10.out, FFh10.out, FUs10.out, FUt10.out, FUv10.out, FUm10.out, FUn10.out, HF10.out, HG10.out, HH10.out, HS10.out, HT10.out, HV10.out, HM10.out, HN10.out⟩
          · rcases Int.lt_trichotomy y 0 with hy0 | hy0 | hy0
            · have u1 : ¬ x ≤ 0 := by omega
              have u2 : 0 ≤ x := by omega
              have u3 : y ≤ 0 := by omega
              have u4 : ¬ 0 ≤ y := by omega
              clear hz1 hz2 hx0 hy0
              go_wp2_with fail
              go_meet
              case rel => exact ⟨rfl, by first | rfl | exact congrArg Value.bool (decide_eq_false (by omega)) | exact congrArg Value.bool (by rw [decide_eq_false (show ¬ 0 < z by omega), decide_eq_false (show ¬ z < 0 by omega)]; rfl), FP10.out, FFf10.out, FFg10.out, FFh10.out, FUs10.out, FUt10.out, FUv10.out, FUm10.out, FUn10.out, HF10.out, HG10.out, HH10.out, HS10.out, HT10.out, HV10.out, HM10.out, HN10.out⟩
            · have u1 : ¬ x ≤ 0 := by omega
              have u2 : 0 ≤ x := by omega
              have u3 : y ≤ 0 := by omega
              have u4 : 0 ≤ y := by omega
              have u6 : ¬ z < 0 := by have := hz2 u2 u4; omega
              clear hz1 hz2 hx0 hy0
              go_wp2_with fail
              go_meet
              case rel => exact ⟨rfl, by first | rfl | exact congrArg Value.bool (decide_eq_false (by omega)) | exact congrArg Value.bool (by rw [decide_eq_false (show ¬ 0 < z by omega), decide_eq_false (show ¬ z < 0 by omega)]; rfl), FP10.out, FFf10.out, FFg10.out, FFh10.out, FUs10.out, FUt10.out, FUv10.out, FUm10.out, FUn10.out, HF10.out, HG10.out, HH10.out, HS10.out, HT10.out, HV10.out, HM10.out, HN10.out⟩
            · have u1 : ¬ x ≤ 0 := by omega
              have u2 : 0 ≤ x := by omega
              have u3 : ¬ y ≤ 0 := by omega
              have u4 : 0 ≤ y := by omega
              have u6 : ¬ z < 0 := by have := hz2 u2 u4; omega
              clear hz1 hz2 hx0 hy0
              go_wp2_with fail
              go_meet
              case rel => exact ⟨rfl, by first | rfl | exact congrArg Value.bool (decide_eq_false (by omega)) | exact congrArg Value.bool (by rw [decide_eq_false (show ¬ 0 < z by omega), decide_eq_false (show ¬ z < 0 by omega)]; rfl), FP10.out, FFf10.out, FFg10.out, FFh10.out, FUs10.out, FUt10.out, FUv10.out, FUm10.out, FUn10.out, HF10.out, HG10.out, HH10.out, HS10.out, HT10.out, HV10.out, HM10.out, HN10.out⟩
        case rest =>
          obtain ⟨rfl, rfl, gP, gFf, gFg, gFh, gUs, gUt, gUv, gUm, gUn, qF_, qG_, qH_, qS_, qT_, qV_, qM_, qN_⟩ := hcut
          obtain ⟨V11, hV⟩ : ∃ V, V = wc := ⟨_, rfl⟩
          rw [← hV] at gP gFf gFg gFh gUs gUt gUv gUm gUn qF_ qG_ qH_ qS_ qT_ qV_ qM_ qN_ ⊢
          clear hV FP9b FFf9b FFg9b FFh9b FUs9b FUt9b FUv9b FUm9b FUn9 HF9b HG9b HH9b HS9b HT9b HV9b HM9b HN9
          have XP := Lib.hid gP
          have XFf := Lib.hid gFf
          have XFg := Lib.hid gFg
          have XFh := Lib.hid gFh
          have XUs := Lib.hid gUs
          have XUt := Lib.hid gUt
          have XUv := Lib.hid gUv
          have XUm := Lib.hid gUm
          have XUn := Lib.hid gUn
          have YF := Lib.hid qF_
          have YG := Lib.hid qG_
          have YH := Lib.hid qH_
          have YS := Lib.hid qS_
          have YT := Lib.hid qT_
          have YV := Lib.hid qV_
          have YM := Lib.hid qM_
          have YN := Lib.hid qN_
          clear gP gFf gFg gFh gUs gUt gUv gUm gUn qF_ qG_ qH_ qS_ qT_ qV_ qM_ qN_
          have hw1 : IntKind.i64.wrap (-x) = -x := IntWalk.i64_in _ (by omega)
          obtain ⟨u, hu⟩ : ∃ u, u = ph.sign := ⟨_, rfl⟩
          have hur := sign_range ph
          rw [← hu] at hur
          obtain ⟨xu, hxu⟩ : ∃ t, t = x * u := ⟨_, rfl⟩
          have hxur : -1 ≤ xu ∧ xu ≤ 1 := by
            have h1 := hxr; have h2 := hur
            have hx3 : x = -1 ∨ x = 0 ∨ x = 1 := by omega
            rcases hx3 with h | h | h <;> rw [hxu, h] <;> omega
          have hw2 : IntKind.i64.wrap xu = xu := IntWalk.i64_in _ (by omega)
          have hxu2 : x * u = xu := hxu.symm
          have HU := Lib.hid hu
          clear hu hxu
          have EA : Hid ((pg * (qf : Int) - pf * (qg : Int)).sign = -x) := by show _ = _; rw [HX.out]; exact cross_anti pf pg qf qg
          have EB : Hid ((ps * (qt : Int) - pt * (qs : Int)).sign = x) := by show _ = _; rw [EPS.out, EQS.out, EPT.out, EQT.out, HX.out]; exact cross_add hqpf hqpg hqph
          have EC : Hid (pv.sign = x) := by show _ = _; rw [EPV.out, HX.out]; exact sign_low (Int.mul_pos (by omega) (by omega))
          have ED : Hid ((pm * (qn : Int) - pn * (qm : Int)).sign = xu) := by show _ = _; rw [EPM.out, EQM.out, EPN.out, EQN.out, ← hxu2, HX.out, HU.out]; exact cross_mul hqpf hqpg hqph
          have EE : Hid ((-pf * (qg : Int) - -pg * (qf : Int)).sign = -x) := by show _ = _; rw [HX.out]; exact cross_neg pf pg qf qg
          have EF : Hid ((x == 0) = decide (textQ pf qf = textQ pg qg)) := by show _ = _; rw [HX.out]; exact text_cross hqpf hqpg KCF.out KCG.out
          clear EPS EQS EPT EQT EPV EQV EPM EQM EPN EQN KPF KQF KCF KPG KQG KCG KPH KQH KCH HX HY HZ TR1 TR2
          obtain ⟨beq, hbeq⟩ : ∃ b, b = decide (textQ pf qf = textQ pg qg) := ⟨_, rfl⟩
          have hx0 : (x == 0) = beq := EF.out.trans hbeq.symm
          have hst : (textQ pf qf == textQ pg qg) = beq := by
            rw [hbeq]
            by_cases h : textQ pf qf = textQ pg qg
            · rw [decide_eq_true h]; exact beq_iff_eq.2 h
            · rw [decide_eq_false h]; exact beq_eq_false_iff_ne.2 h
          clear EF hbeq
          go_upto_region 14 with fail
          have qq0 : V11.cell? ⟨w1.heap.size, 0, none⟩ = some (.bool nf) := XFf.out.cell 0 0 rfl rfl
          have qq1 : V11.cell? ⟨w1.heap.size, 1, none⟩ = some (.slice of lf cf) := XFf.out.cell 0 1 rfl rfl
          have qq2 : V11.cell? ⟨w1.heap.size, 2, none⟩ = some (.slice bf mf df) := XFf.out.cell 0 2 rfl rfl
          have qq3 : V11.cell? ⟨w2.heap.size, 0, none⟩ = some (.bool ng) := XFg.out.cell 0 0 rfl rfl
          have qq4 : V11.cell? ⟨w2.heap.size, 1, none⟩ = some (.slice og lg cg) := XFg.out.cell 0 1 rfl rfl
          have qq5 : V11.cell? ⟨w2.heap.size, 2, none⟩ = some (.slice bg mg dg) := XFg.out.cell 0 2 rfl rfl
          have qq6 : V11.cell? ⟨w3.heap.size, 0, none⟩ = some (.bool nh) := XFh.out.cell 0 0 rfl rfl
          have qq7 : V11.cell? ⟨w3.heap.size, 1, none⟩ = some (.slice oh lh ch) := XFh.out.cell 0 1 rfl rfl
          have qq8 : V11.cell? ⟨w3.heap.size, 2, none⟩ = some (.slice bh mh dh) := XFh.out.cell 0 2 rfl rfl
          have qq9 : V11.cell? ⟨w5.heap.size, 0, none⟩ = some (.bool ns) := XUs.out.cell 0 0 rfl rfl
          have qq10 : V11.cell? ⟨w5.heap.size, 1, none⟩ = some (.slice os ls cs) := XUs.out.cell 0 1 rfl rfl
          have qq11 : V11.cell? ⟨w5.heap.size, 2, none⟩ = some (.slice bs ms ds) := XUs.out.cell 0 2 rfl rfl
          have qq12 : V11.cell? ⟨w6.heap.size, 0, none⟩ = some (.bool nt) := XUt.out.cell 0 0 rfl rfl
          have qq13 : V11.cell? ⟨w6.heap.size, 1, none⟩ = some (.slice ot lt ct) := XUt.out.cell 0 1 rfl rfl
          have qq14 : V11.cell? ⟨w6.heap.size, 2, none⟩ = some (.slice bt mt dt) := XUt.out.cell 0 2 rfl rfl
          have qq15 : V11.cell? ⟨w7.heap.size, 0, none⟩ = some (.bool nv) := XUv.out.cell 0 0 rfl rfl
          have qq16 : V11.cell? ⟨w7.heap.size, 1, none⟩ = some (.slice ov lv cv) := XUv.out.cell 0 1 rfl rfl
          have qq17 : V11.cell? ⟨w7.heap.size, 2, none⟩ = some (.slice bv mv dv) := XUv.out.cell 0 2 rfl rfl
          have qq18 : V11.cell? ⟨w8.heap.size, 0, none⟩ = some (.bool nm) := XUm.out.cell 0 0 rfl rfl
          have qq19 : V11.cell? ⟨w8.heap.size, 1, none⟩ = some (.slice om lm cm) := XUm.out.cell 0 1 rfl rfl
          have qq20 : V11.cell? ⟨w8.heap.size, 2, none⟩ = some (.slice bm mm dm) := XUm.out.cell 0 2 rfl rfl
          have qq21 : V11.cell? ⟨w9.heap.size, 0, none⟩ = some (.bool nn) := XUn.out.cell 0 0 rfl rfl
          have qq22 : V11.cell? ⟨w9.heap.size, 1, none⟩ = some (.slice on ln cn) := XUn.out.cell 0 1 rfl rfl
          have qq23 : V11.cell? ⟨w9.heap.size, 2, none⟩ = some (.slice bn mn dn) := XUn.out.cell 0 2 rfl rfl
          go_region_held3 (fun w' => w'.cell? ⟨w1.heap.size, 0, none⟩ = some (.bool nf) ∧ w'.cell? ⟨w1.heap.size, 1, none⟩ = some (.slice of lf cf) ∧ w'.cell? ⟨w1.heap.size, 2, none⟩ = some (.slice bf mf df) ∧ w'.cell? ⟨w2.heap.size, 0, none⟩ = some (.bool ng) ∧ w'.cell? ⟨w2.heap.size, 1, none⟩ = some (.slice og lg cg) ∧ w'.cell? ⟨w2.heap.size, 2, none⟩ = some (.slice bg mg dg) ∧ w'.cell? ⟨w3.heap.size, 0, none⟩ = some (.bool nh) ∧ w'.cell? ⟨w3.heap.size, 1, none⟩ = some (.slice oh lh ch) ∧ w'.cell? ⟨w3.heap.size, 2, none⟩ = some (.slice bh mh dh) ∧ w'.cell? ⟨w5.heap.size, 0, none⟩ = some (.bool ns) ∧ w'.cell? ⟨w5.heap.size, 1, none⟩ = some (.slice os ls cs) ∧ w'.cell? ⟨w5.heap.size, 2, none⟩ = some (.slice bs ms ds) ∧ w'.cell? ⟨w6.heap.size, 0, none⟩ = some (.bool nt) ∧ w'.cell? ⟨w6.heap.size, 1, none⟩ = some (.slice ot lt ct) ∧ w'.cell? ⟨w6.heap.size, 2, none⟩ = some (.slice bt mt dt) ∧ w'.cell? ⟨w7.heap.size, 0, none⟩ = some (.bool nv) ∧ w'.cell? ⟨w7.heap.size, 1, none⟩ = some (.slice ov lv cv) ∧ w'.cell? ⟨w7.heap.size, 2, none⟩ = some (.slice bv mv dv) ∧ w'.cell? ⟨w8.heap.size, 0, none⟩ = some (.bool nm) ∧ w'.cell? ⟨w8.heap.size, 1, none⟩ = some (.slice om lm cm) ∧ w'.cell? ⟨w8.heap.size, 2, none⟩ = some (.slice bm mm dm) ∧ w'.cell? ⟨w9.heap.size, 0, none⟩ = some (.bool nn) ∧ w'.cell? ⟨w9.heap.size, 1, none⟩ = some (.slice on ln cn) ∧ w'.cell? ⟨w9.heap.size, 2, none⟩ = some (.slice bn mn dn)) (go_keep)
            (first | (go_at_call 16; refine (awake_any _).mono ?_; rintro e rw10 ⟨rfl, hb⟩; have hbb := hb; have FPr10 := Lib.hid (FPr9.out.later hbb); have FFfr10 := Lib.hid (FFfr9.out.later hbb); have FFgr10 := Lib.hid (FFgr9.out.later hbb); have FFhr10 := Lib.hid (FFhr9.out.later hbb); have FUsr10 := Lib.hid (FUsr9.out.later hbb); have FUtr10 := Lib.hid (FUtr9.out.later hbb); have FUvr10 := Lib.hid (FUvr9.out.later hbb); have FUmr10 := Lib.hid (FUmr9.out.later hbb); have FUnr10 := Lib.hid (FUnr9.out.later hbb); have HFr10 := Lib.hid (HFr9.out.keep hbb); have HGr10 := Lib.hid (HGr9.out.keep hbb); have HHr10 := Lib.hid (HHr9.out.keep hbb); have HSr10 := Lib.hid (HSr9.out.keep hbb); have HTr10 := Lib.hid (HTr9.out.keep hbb); have HVr10 := Lib.hid (HVr9.out.keep hbb); have HMr10 := Lib.hid (HMr9.out.keep hbb); have HNr10 := Lib.hid (HNr9.out.keep hbb); have HIr10 := Lib.hid (HIr9.out.keep hbb); have HJr10 := Lib.hid (HJr9.out.keep hbb); clear hb hbb; have r10c0 : rw10.cell? ⟨w1.heap.size, 0, none⟩ = some (.bool nf) := FFfr10.out.cell 0 0 rfl rfl; have r10c1 : rw10.cell? ⟨w1.heap.size, 1, none⟩ = some (.slice of lf cf) := FFfr10.out.cell 0 1 rfl rfl; have r10c2 : rw10.cell? ⟨w1.heap.size, 2, none⟩ = some (.slice bf mf df) := FFfr10.out.cell 0 2 rfl rfl; have r10c3 : rw10.cell? ⟨w2.heap.size, 0, none⟩ = some (.bool ng) := FFgr10.out.cell 0 0 rfl rfl; have r10c4 : rw10.cell? ⟨w2.heap.size, 1, none⟩ = some (.slice og lg cg) := FFgr10.out.cell 0 1 rfl rfl; have r10c5 : rw10.cell? ⟨w2.heap.size, 2, none⟩ = some (.slice bg mg dg) := FFgr10.out.cell 0 2 rfl rfl; have r10c6 : rw10.cell? ⟨w3.heap.size, 0, none⟩ = some (.bool nh) := FFhr10.out.cell 0 0 rfl rfl; have r10c7 : rw10.cell? ⟨w3.heap.size, 1, none⟩ = some (.slice oh lh ch) := FFhr10.out.cell 0 1 rfl rfl; have r10c8 : rw10.cell? ⟨w3.heap.size, 2, none⟩ = some (.slice bh mh dh) := FFhr10.out.cell 0 2 rfl rfl; have r10c9 : rw10.cell? ⟨w5.heap.size, 0, none⟩ = some (.bool ns) := FUsr10.out.cell 0 0 rfl rfl; have r10c10 : rw10.cell? ⟨w5.heap.size, 1, none⟩ = some (.slice os ls cs) := FUsr10.out.cell 0 1 rfl rfl; have r10c11 : rw10.cell? ⟨w5.heap.size, 2, none⟩ = some (.slice bs ms ds) := FUsr10.out.cell 0 2 rfl rfl; have r10c12 : rw10.cell? ⟨w6.heap.size, 0, none⟩ = some (.bool nt) := FUtr10.out.cell 0 0 rfl rfl; have r10c13 : rw10.cell? ⟨w6.heap.size, 1, none⟩ = some (.slice ot lt ct) := FUtr10.out.cell 0 1 rfl rfl; have r10c14 : rw10.cell? ⟨w6.heap.size, 2, none⟩ = some (.slice bt mt dt) := FUtr10.out.cell 0 2 rfl rfl; have r10c15 : rw10.cell? ⟨w7.heap.size, 0, none⟩ = some (.bool nv) := FUvr10.out.cell 0 0 rfl rfl; have r10c16 : rw10.cell? ⟨w7.heap.size, 1, none⟩ = some (.slice ov lv cv) := FUvr10.out.cell 0 1 rfl rfl; have r10c17 : rw10.cell? ⟨w7.heap.size, 2, none⟩ = some (.slice bv mv dv) := FUvr10.out.cell 0 2 rfl rfl; have r10c18 : rw10.cell? ⟨w8.heap.size, 0, none⟩ = some (.bool nm) := FUmr10.out.cell 0 0 rfl rfl; have r10c19 : rw10.cell? ⟨w8.heap.size, 1, none⟩ = some (.slice om lm cm) := FUmr10.out.cell 0 1 rfl rfl; have r10c20 : rw10.cell? ⟨w8.heap.size, 2, none⟩ = some (.slice bm mm dm) := FUmr10.out.cell 0 2 rfl rfl; have r10c21 : rw10.cell? ⟨w9.heap.size, 0, none⟩ = some (.bool nn) := FUnr10.out.cell 0 0 rfl rfl; have r10c22 : rw10.cell? ⟨w9.heap.size, 1, none⟩ = some (.slice on ln cn) := FUnr10.out.cell 0 1 rfl rfl; have r10c23 : rw10.cell? ⟨w9.heap.size, 2, none⟩ = some (.slice bn mn dn) := FUnr10.out.cell 0 2 rfl rfl) | (go_at_call 15; refine (ratString_any _ _ _ _ _ _ _ pg qg _ HGr8.out (by omega) (by omega)).mono ?_; rintro e rw9 ⟨rfl, hb⟩; have hbb := hb; have FPr9 := Lib.hid (FPr8.out.later hbb); have FFfr9 := Lib.hid (FFfr8.out.later hbb); have FFgr9 := Lib.hid (FFgr8.out.later hbb); have FFhr9 := Lib.hid (FFhr8.out.later hbb); have FUsr9 := Lib.hid (FUsr8.out.later hbb); have FUtr9 := Lib.hid (FUtr8.out.later hbb); have FUvr9 := Lib.hid (FUvr8.out.later hbb); have FUmr9 := Lib.hid (FUmr8.out.later hbb); have FUnr9 := Lib.hid (FUnr8.out.later hbb); have HFr9 := Lib.hid (HFr8.out.keep hbb); have HGr9 := Lib.hid (HGr8.out.keep hbb); have HHr9 := Lib.hid (HHr8.out.keep hbb); have HSr9 := Lib.hid (HSr8.out.keep hbb); have HTr9 := Lib.hid (HTr8.out.keep hbb); have HVr9 := Lib.hid (HVr8.out.keep hbb); have HMr9 := Lib.hid (HMr8.out.keep hbb); have HNr9 := Lib.hid (HNr8.out.keep hbb); have HIr9 := Lib.hid (HIr8.out.keep hbb); have HJr9 := Lib.hid (HJr8.out.keep hbb); clear hb hbb; have r9c0 : rw9.cell? ⟨w1.heap.size, 0, none⟩ = some (.bool nf) := FFfr9.out.cell 0 0 rfl rfl; have r9c1 : rw9.cell? ⟨w1.heap.size, 1, none⟩ = some (.slice of lf cf) := FFfr9.out.cell 0 1 rfl rfl; have r9c2 : rw9.cell? ⟨w1.heap.size, 2, none⟩ = some (.slice bf mf df) := FFfr9.out.cell 0 2 rfl rfl; have r9c3 : rw9.cell? ⟨w2.heap.size, 0, none⟩ = some (.bool ng) := FFgr9.out.cell 0 0 rfl rfl; have r9c4 : rw9.cell? ⟨w2.heap.size, 1, none⟩ = some (.slice og lg cg) := FFgr9.out.cell 0 1 rfl rfl; have r9c5 : rw9.cell? ⟨w2.heap.size, 2, none⟩ = some (.slice bg mg dg) := FFgr9.out.cell 0 2 rfl rfl; have r9c6 : rw9.cell? ⟨w3.heap.size, 0, none⟩ = some (.bool nh) := FFhr9.out.cell 0 0 rfl rfl; have r9c7 : rw9.cell? ⟨w3.heap.size, 1, none⟩ = some (.slice oh lh ch) := FFhr9.out.cell 0 1 rfl rfl; have r9c8 : rw9.cell? ⟨w3.heap.size, 2, none⟩ = some (.slice bh mh dh) := FFhr9.out.cell 0 2 rfl rfl; have r9c9 : rw9.cell? ⟨w5.heap.size, 0, none⟩ = some (.bool ns) := FUsr9.out.cell 0 0 rfl rfl; have r9c10 : rw9.cell? ⟨w5.heap.size, 1, none⟩ = some (.slice os ls cs) := FUsr9.out.cell 0 1 rfl rfl; have r9c11 : rw9.cell? ⟨w5.heap.size, 2, none⟩ = some (.slice bs ms ds) := FUsr9.out.cell 0 2 rfl rfl; have r9c12 : rw9.cell? ⟨w6.heap.size, 0, none⟩ = some (.bool nt) := FUtr9.out.cell 0 0 rfl rfl; have r9c13 : rw9.cell? ⟨w6.heap.size, 1, none⟩ = some (.slice ot lt ct) := FUtr9.out.cell 0 1 rfl rfl; have r9c14 : rw9.cell? ⟨w6.heap.size, 2, none⟩ = some (.slice bt mt dt) := FUtr9.out.cell 0 2 rfl rfl; have r9c15 : rw9.cell? ⟨w7.heap.size, 0, none⟩ = some (.bool nv) := FUvr9.out.cell 0 0 rfl rfl; have r9c16 : rw9.cell? ⟨w7.heap.size, 1, none⟩ = some (.slice ov lv cv) := FUvr9.out.cell 0 1 rfl rfl; have r9c17 : rw9.cell? ⟨w7.heap.size, 2, none⟩ = some (.slice bv mv dv) := FUvr9.out.cell 0 2 rfl rfl; have r9c18 : rw9.cell? ⟨w8.heap.size, 0, none⟩ = some (.bool nm) := FUmr9.out.cell 0 0 rfl rfl; have r9c19 : rw9.cell? ⟨w8.heap.size, 1, none⟩ = some (.slice om lm cm) := FUmr9.out.cell 0 1 rfl rfl; have r9c20 : rw9.cell? ⟨w8.heap.size, 2, none⟩ = some (.slice bm mm dm) := FUmr9.out.cell 0 2 rfl rfl; have r9c21 : rw9.cell? ⟨w9.heap.size, 0, none⟩ = some (.bool nn) := FUnr9.out.cell 0 0 rfl rfl; have r9c22 : rw9.cell? ⟨w9.heap.size, 1, none⟩ = some (.slice on ln cn) := FUnr9.out.cell 0 1 rfl rfl; have r9c23 : rw9.cell? ⟨w9.heap.size, 2, none⟩ = some (.slice bn mn dn) := FUnr9.out.cell 0 2 rfl rfl) | (go_at_call 15; refine (ratString_any _ _ _ _ _ _ _ pf qf _ HFr7.out (by omega) (by omega)).mono ?_; rintro e rw8 ⟨rfl, hb⟩; have hbb := hb; have FPr8 := Lib.hid (FPr7.out.later hbb); have FFfr8 := Lib.hid (FFfr7.out.later hbb); have FFgr8 := Lib.hid (FFgr7.out.later hbb); have FFhr8 := Lib.hid (FFhr7.out.later hbb); have FUsr8 := Lib.hid (FUsr7.out.later hbb); have FUtr8 := Lib.hid (FUtr7.out.later hbb); have FUvr8 := Lib.hid (FUvr7.out.later hbb); have FUmr8 := Lib.hid (FUmr7.out.later hbb); have FUnr8 := Lib.hid (FUnr7.out.later hbb); have HFr8 := Lib.hid (HFr7.out.keep hbb); have HGr8 := Lib.hid (HGr7.out.keep hbb); have HHr8 := Lib.hid (HHr7.out.keep hbb); have HSr8 := Lib.hid (HSr7.out.keep hbb); have HTr8 := Lib.hid (HTr7.out.keep hbb); have HVr8 := Lib.hid (HVr7.out.keep hbb); have HMr8 := Lib.hid (HMr7.out.keep hbb); have HNr8 := Lib.hid (HNr7.out.keep hbb); have HIr8 := Lib.hid (HIr7.out.keep hbb); have HJr8 := Lib.hid (HJr7.out.keep hbb); clear hb hbb; have r8c0 : rw8.cell? ⟨w1.heap.size, 0, none⟩ = some (.bool nf) := FFfr8.out.cell 0 0 rfl rfl; have r8c1 : rw8.cell? ⟨w1.heap.size, 1, none⟩ = some (.slice of lf cf) := FFfr8.out.cell 0 1 rfl rfl; have r8c2 : rw8.cell? ⟨w1.heap.size, 2, none⟩ = some (.slice bf mf df) := FFfr8.out.cell 0 2 rfl rfl; have r8c3 : rw8.cell? ⟨w2.heap.size, 0, none⟩ = some (.bool ng) := FFgr8.out.cell 0 0 rfl rfl; have r8c4 : rw8.cell? ⟨w2.heap.size, 1, none⟩ = some (.slice og lg cg) := FFgr8.out.cell 0 1 rfl rfl; have r8c5 : rw8.cell? ⟨w2.heap.size, 2, none⟩ = some (.slice bg mg dg) := FFgr8.out.cell 0 2 rfl rfl; have r8c6 : rw8.cell? ⟨w3.heap.size, 0, none⟩ = some (.bool nh) := FFhr8.out.cell 0 0 rfl rfl; have r8c7 : rw8.cell? ⟨w3.heap.size, 1, none⟩ = some (.slice oh lh ch) := FFhr8.out.cell 0 1 rfl rfl; have r8c8 : rw8.cell? ⟨w3.heap.size, 2, none⟩ = some (.slice bh mh dh) := FFhr8.out.cell 0 2 rfl rfl; have r8c9 : rw8.cell? ⟨w5.heap.size, 0, none⟩ = some (.bool ns) := FUsr8.out.cell 0 0 rfl rfl; have r8c10 : rw8.cell? ⟨w5.heap.size, 1, none⟩ = some (.slice os ls cs) := FUsr8.out.cell 0 1 rfl rfl; have r8c11 : rw8.cell? ⟨w5.heap.size, 2, none⟩ = some (.slice bs ms ds) := FUsr8.out.cell 0 2 rfl rfl; have r8c12 : rw8.cell? ⟨w6.heap.size, 0, none⟩ = some (.bool nt) := FUtr8.out.cell 0 0 rfl rfl; have r8c13 : rw8.cell? ⟨w6.heap.size, 1, none⟩ = some (.slice ot lt ct) := FUtr8.out.cell 0 1 rfl rfl; have r8c14 : rw8.cell? ⟨w6.heap.size, 2, none⟩ = some (.slice bt mt dt) := FUtr8.out.cell 0 2 rfl rfl; have r8c15 : rw8.cell? ⟨w7.heap.size, 0, none⟩ = some (.bool nv) := FUvr8.out.cell 0 0 rfl rfl; have r8c16 : rw8.cell? ⟨w7.heap.size, 1, none⟩ = some (.slice ov lv cv) := FUvr8.out.cell 0 1 rfl rfl; have r8c17 : rw8.cell? ⟨w7.heap.size, 2, none⟩ = some (.slice bv mv dv) := FUvr8.out.cell 0 2 rfl rfl; have r8c18 : rw8.cell? ⟨w8.heap.size, 0, none⟩ = some (.bool nm) := FUmr8.out.cell 0 0 rfl rfl; have r8c19 : rw8.cell? ⟨w8.heap.size, 1, none⟩ = some (.slice om lm cm) := FUmr8.out.cell 0 1 rfl rfl; have r8c20 : rw8.cell? ⟨w8.heap.size, 2, none⟩ = some (.slice bm mm dm) := FUmr8.out.cell 0 2 rfl rfl; have r8c21 : rw8.cell? ⟨w9.heap.size, 0, none⟩ = some (.bool nn) := FUnr8.out.cell 0 0 rfl rfl; have r8c22 : rw8.cell? ⟨w9.heap.size, 1, none⟩ = some (.slice on ln cn) := FUnr8.out.cell 0 1 rfl rfl; have r8c23 : rw8.cell? ⟨w9.heap.size, 2, none⟩ = some (.slice bn mn dn) := FUnr8.out.cell 0 2 rfl rfl) | (go_at_call 36; refine ((ratCmp_any _ _ _ _ _ _ _ _ _ _ _ _ _ _ (-pf) (-pg) qf qg _ HIr6.out HJ0.out (by omega) (by omega) (by omega) (by omega)).mono fun e w h => (⟨h.1.trans (congrArg (fun t => Ending.returned (.int .i64 t)) EE.out), h.2⟩ : e = .returned (.int .i64 (-x)) ∧ _)).mono ?_; rintro e rw7 ⟨rfl, hb⟩; have hbb := hb; have FPr7 := Lib.hid (FPr6.out.later hbb); have FFfr7 := Lib.hid (FFfr6.out.later hbb); have FFgr7 := Lib.hid (FFgr6.out.later hbb); have FFhr7 := Lib.hid (FFhr6.out.later hbb); have FUsr7 := Lib.hid (FUsr6.out.later hbb); have FUtr7 := Lib.hid (FUtr6.out.later hbb); have FUvr7 := Lib.hid (FUvr6.out.later hbb); have FUmr7 := Lib.hid (FUmr6.out.later hbb); have FUnr7 := Lib.hid (FUnr6.out.later hbb); have HFr7 := Lib.hid (HFr6.out.keep hbb); have HGr7 := Lib.hid (HGr6.out.keep hbb); have HHr7 := Lib.hid (HHr6.out.keep hbb); have HSr7 := Lib.hid (HSr6.out.keep hbb); have HTr7 := Lib.hid (HTr6.out.keep hbb); have HVr7 := Lib.hid (HVr6.out.keep hbb); have HMr7 := Lib.hid (HMr6.out.keep hbb); have HNr7 := Lib.hid (HNr6.out.keep hbb); have HIr7 := Lib.hid (HIr6.out.keep hbb); have HJr7 := Lib.hid (HJ0.out.keep hbb); clear hb hbb; have r7c0 : rw7.cell? ⟨w1.heap.size, 0, none⟩ = some (.bool nf) := FFfr7.out.cell 0 0 rfl rfl; have r7c1 : rw7.cell? ⟨w1.heap.size, 1, none⟩ = some (.slice of lf cf) := FFfr7.out.cell 0 1 rfl rfl; have r7c2 : rw7.cell? ⟨w1.heap.size, 2, none⟩ = some (.slice bf mf df) := FFfr7.out.cell 0 2 rfl rfl; have r7c3 : rw7.cell? ⟨w2.heap.size, 0, none⟩ = some (.bool ng) := FFgr7.out.cell 0 0 rfl rfl; have r7c4 : rw7.cell? ⟨w2.heap.size, 1, none⟩ = some (.slice og lg cg) := FFgr7.out.cell 0 1 rfl rfl; have r7c5 : rw7.cell? ⟨w2.heap.size, 2, none⟩ = some (.slice bg mg dg) := FFgr7.out.cell 0 2 rfl rfl; have r7c6 : rw7.cell? ⟨w3.heap.size, 0, none⟩ = some (.bool nh) := FFhr7.out.cell 0 0 rfl rfl; have r7c7 : rw7.cell? ⟨w3.heap.size, 1, none⟩ = some (.slice oh lh ch) := FFhr7.out.cell 0 1 rfl rfl; have r7c8 : rw7.cell? ⟨w3.heap.size, 2, none⟩ = some (.slice bh mh dh) := FFhr7.out.cell 0 2 rfl rfl; have r7c9 : rw7.cell? ⟨w5.heap.size, 0, none⟩ = some (.bool ns) := FUsr7.out.cell 0 0 rfl rfl; have r7c10 : rw7.cell? ⟨w5.heap.size, 1, none⟩ = some (.slice os ls cs) := FUsr7.out.cell 0 1 rfl rfl; have r7c11 : rw7.cell? ⟨w5.heap.size, 2, none⟩ = some (.slice bs ms ds) := FUsr7.out.cell 0 2 rfl rfl; have r7c12 : rw7.cell? ⟨w6.heap.size, 0, none⟩ = some (.bool nt) := FUtr7.out.cell 0 0 rfl rfl; have r7c13 : rw7.cell? ⟨w6.heap.size, 1, none⟩ = some (.slice ot lt ct) := FUtr7.out.cell 0 1 rfl rfl; have r7c14 : rw7.cell? ⟨w6.heap.size, 2, none⟩ = some (.slice bt mt dt) := FUtr7.out.cell 0 2 rfl rfl; have r7c15 : rw7.cell? ⟨w7.heap.size, 0, none⟩ = some (.bool nv) := FUvr7.out.cell 0 0 rfl rfl; have r7c16 : rw7.cell? ⟨w7.heap.size, 1, none⟩ = some (.slice ov lv cv) := FUvr7.out.cell 0 1 rfl rfl; have r7c17 : rw7.cell? ⟨w7.heap.size, 2, none⟩ = some (.slice bv mv dv) := FUvr7.out.cell 0 2 rfl rfl; have r7c18 : rw7.cell? ⟨w8.heap.size, 0, none⟩ = some (.bool nm) := FUmr7.out.cell 0 0 rfl rfl; have r7c19 : rw7.cell? ⟨w8.heap.size, 1, none⟩ = some (.slice om lm cm) := FUmr7.out.cell 0 1 rfl rfl; have r7c20 : rw7.cell? ⟨w8.heap.size, 2, none⟩ = some (.slice bm mm dm) := FUmr7.out.cell 0 2 rfl rfl; have r7c21 : rw7.cell? ⟨w9.heap.size, 0, none⟩ = some (.bool nn) := FUnr7.out.cell 0 0 rfl rfl; have r7c22 : rw7.cell? ⟨w9.heap.size, 1, none⟩ = some (.slice on ln cn) := FUnr7.out.cell 0 1 rfl rfl; have r7c23 : rw7.cell? ⟨w9.heap.size, 2, none⟩ = some (.slice bn mn dn) := FUnr7.out.cell 0 2 rfl rfl) | (go_at_call 25; refine (ratNeg_any _ _ _ _ _ _ _ pg qg _ HGr5.out (by omega) (by omega)).mono ?_; rintro e rw6 ⟨nJ, oJ, lJ, cJ, bJ, mJ, dJ, rfl, hlJ, hmJ, hz, hb⟩; have hbb := hb; have FPr6 := Lib.hid (FPr5.out.later hbb); have FFfr6 := Lib.hid (FFfr5.out.later hbb); have FFgr6 := Lib.hid (FFgr5.out.later hbb); have FFhr6 := Lib.hid (FFhr5.out.later hbb); have FUsr6 := Lib.hid (FUsr5.out.later hbb); have FUtr6 := Lib.hid (FUtr5.out.later hbb); have FUvr6 := Lib.hid (FUvr5.out.later hbb); have FUmr6 := Lib.hid (FUmr5.out.later hbb); have FUnr6 := Lib.hid (FUnr5.out.later hbb); have HFr6 := Lib.hid (HFr5.out.keep hbb); have HGr6 := Lib.hid (HGr5.out.keep hbb); have HHr6 := Lib.hid (HHr5.out.keep hbb); have HSr6 := Lib.hid (HSr5.out.keep hbb); have HTr6 := Lib.hid (HTr5.out.keep hbb); have HVr6 := Lib.hid (HVr5.out.keep hbb); have HMr6 := Lib.hid (HMr5.out.keep hbb); have HNr6 := Lib.hid (HNr5.out.keep hbb); have HIr6 := Lib.hid (HI0.out.keep hbb); have HJ0 := Lib.hid hz; clear hz; clear hb hbb; have r6c0 : rw6.cell? ⟨w1.heap.size, 0, none⟩ = some (.bool nf) := FFfr6.out.cell 0 0 rfl rfl; have r6c1 : rw6.cell? ⟨w1.heap.size, 1, none⟩ = some (.slice of lf cf) := FFfr6.out.cell 0 1 rfl rfl; have r6c2 : rw6.cell? ⟨w1.heap.size, 2, none⟩ = some (.slice bf mf df) := FFfr6.out.cell 0 2 rfl rfl; have r6c3 : rw6.cell? ⟨w2.heap.size, 0, none⟩ = some (.bool ng) := FFgr6.out.cell 0 0 rfl rfl; have r6c4 : rw6.cell? ⟨w2.heap.size, 1, none⟩ = some (.slice og lg cg) := FFgr6.out.cell 0 1 rfl rfl; have r6c5 : rw6.cell? ⟨w2.heap.size, 2, none⟩ = some (.slice bg mg dg) := FFgr6.out.cell 0 2 rfl rfl; have r6c6 : rw6.cell? ⟨w3.heap.size, 0, none⟩ = some (.bool nh) := FFhr6.out.cell 0 0 rfl rfl; have r6c7 : rw6.cell? ⟨w3.heap.size, 1, none⟩ = some (.slice oh lh ch) := FFhr6.out.cell 0 1 rfl rfl; have r6c8 : rw6.cell? ⟨w3.heap.size, 2, none⟩ = some (.slice bh mh dh) := FFhr6.out.cell 0 2 rfl rfl; have r6c9 : rw6.cell? ⟨w5.heap.size, 0, none⟩ = some (.bool ns) := FUsr6.out.cell 0 0 rfl rfl; have r6c10 : rw6.cell? ⟨w5.heap.size, 1, none⟩ = some (.slice os ls cs) := FUsr6.out.cell 0 1 rfl rfl; have r6c11 : rw6.cell? ⟨w5.heap.size, 2, none⟩ = some (.slice bs ms ds) := FUsr6.out.cell 0 2 rfl rfl; have r6c12 : rw6.cell? ⟨w6.heap.size, 0, none⟩ = some (.bool nt) := FUtr6.out.cell 0 0 rfl rfl; have r6c13 : rw6.cell? ⟨w6.heap.size, 1, none⟩ = some (.slice ot lt ct) := FUtr6.out.cell 0 1 rfl rfl; have r6c14 : rw6.cell? ⟨w6.heap.size, 2, none⟩ = some (.slice bt mt dt) := FUtr6.out.cell 0 2 rfl rfl; have r6c15 : rw6.cell? ⟨w7.heap.size, 0, none⟩ = some (.bool nv) := FUvr6.out.cell 0 0 rfl rfl; have r6c16 : rw6.cell? ⟨w7.heap.size, 1, none⟩ = some (.slice ov lv cv) := FUvr6.out.cell 0 1 rfl rfl; have r6c17 : rw6.cell? ⟨w7.heap.size, 2, none⟩ = some (.slice bv mv dv) := FUvr6.out.cell 0 2 rfl rfl; have r6c18 : rw6.cell? ⟨w8.heap.size, 0, none⟩ = some (.bool nm) := FUmr6.out.cell 0 0 rfl rfl; have r6c19 : rw6.cell? ⟨w8.heap.size, 1, none⟩ = some (.slice om lm cm) := FUmr6.out.cell 0 1 rfl rfl; have r6c20 : rw6.cell? ⟨w8.heap.size, 2, none⟩ = some (.slice bm mm dm) := FUmr6.out.cell 0 2 rfl rfl; have r6c21 : rw6.cell? ⟨w9.heap.size, 0, none⟩ = some (.bool nn) := FUnr6.out.cell 0 0 rfl rfl; have r6c22 : rw6.cell? ⟨w9.heap.size, 1, none⟩ = some (.slice on ln cn) := FUnr6.out.cell 0 1 rfl rfl; have r6c23 : rw6.cell? ⟨w9.heap.size, 2, none⟩ = some (.slice bn mn dn) := FUnr6.out.cell 0 2 rfl rfl) | (go_at_call 25; refine (ratNeg_any _ _ _ _ _ _ _ pf qf _ HFr4.out (by omega) (by omega)).mono ?_; rintro e rw5 ⟨nI, oI, lI, cI, bI, mI, dI, rfl, hlI, hmI, hz, hb⟩; have hbb := hb; have FPr5 := Lib.hid (FPr4.out.later hbb); have FFfr5 := Lib.hid (FFfr4.out.later hbb); have FFgr5 := Lib.hid (FFgr4.out.later hbb); have FFhr5 := Lib.hid (FFhr4.out.later hbb); have FUsr5 := Lib.hid (FUsr4.out.later hbb); have FUtr5 := Lib.hid (FUtr4.out.later hbb); have FUvr5 := Lib.hid (FUvr4.out.later hbb); have FUmr5 := Lib.hid (FUmr4.out.later hbb); have FUnr5 := Lib.hid (FUnr4.out.later hbb); have HFr5 := Lib.hid (HFr4.out.keep hbb); have HGr5 := Lib.hid (HGr4.out.keep hbb); have HHr5 := Lib.hid (HHr4.out.keep hbb); have HSr5 := Lib.hid (HSr4.out.keep hbb); have HTr5 := Lib.hid (HTr4.out.keep hbb); have HVr5 := Lib.hid (HVr4.out.keep hbb); have HMr5 := Lib.hid (HMr4.out.keep hbb); have HNr5 := Lib.hid (HNr4.out.keep hbb); have HI0 := Lib.hid hz; clear hz; clear hb hbb; have r5c0 : rw5.cell? ⟨w1.heap.size, 0, none⟩ = some (.bool nf) := FFfr5.out.cell 0 0 rfl rfl; have r5c1 : rw5.cell? ⟨w1.heap.size, 1, none⟩ = some (.slice of lf cf) := FFfr5.out.cell 0 1 rfl rfl; have r5c2 : rw5.cell? ⟨w1.heap.size, 2, none⟩ = some (.slice bf mf df) := FFfr5.out.cell 0 2 rfl rfl; have r5c3 : rw5.cell? ⟨w2.heap.size, 0, none⟩ = some (.bool ng) := FFgr5.out.cell 0 0 rfl rfl; have r5c4 : rw5.cell? ⟨w2.heap.size, 1, none⟩ = some (.slice og lg cg) := FFgr5.out.cell 0 1 rfl rfl; have r5c5 : rw5.cell? ⟨w2.heap.size, 2, none⟩ = some (.slice bg mg dg) := FFgr5.out.cell 0 2 rfl rfl; have r5c6 : rw5.cell? ⟨w3.heap.size, 0, none⟩ = some (.bool nh) := FFhr5.out.cell 0 0 rfl rfl; have r5c7 : rw5.cell? ⟨w3.heap.size, 1, none⟩ = some (.slice oh lh ch) := FFhr5.out.cell 0 1 rfl rfl; have r5c8 : rw5.cell? ⟨w3.heap.size, 2, none⟩ = some (.slice bh mh dh) := FFhr5.out.cell 0 2 rfl rfl; have r5c9 : rw5.cell? ⟨w5.heap.size, 0, none⟩ = some (.bool ns) := FUsr5.out.cell 0 0 rfl rfl; have r5c10 : rw5.cell? ⟨w5.heap.size, 1, none⟩ = some (.slice os ls cs) := FUsr5.out.cell 0 1 rfl rfl; have r5c11 : rw5.cell? ⟨w5.heap.size, 2, none⟩ = some (.slice bs ms ds) := FUsr5.out.cell 0 2 rfl rfl; have r5c12 : rw5.cell? ⟨w6.heap.size, 0, none⟩ = some (.bool nt) := FUtr5.out.cell 0 0 rfl rfl; have r5c13 : rw5.cell? ⟨w6.heap.size, 1, none⟩ = some (.slice ot lt ct) := FUtr5.out.cell 0 1 rfl rfl; have r5c14 : rw5.cell? ⟨w6.heap.size, 2, none⟩ = some (.slice bt mt dt) := FUtr5.out.cell 0 2 rfl rfl; have r5c15 : rw5.cell? ⟨w7.heap.size, 0, none⟩ = some (.bool nv) := FUvr5.out.cell 0 0 rfl rfl; have r5c16 : rw5.cell? ⟨w7.heap.size, 1, none⟩ = some (.slice ov lv cv) := FUvr5.out.cell 0 1 rfl rfl; have r5c17 : rw5.cell? ⟨w7.heap.size, 2, none⟩ = some (.slice bv mv dv) := FUvr5.out.cell 0 2 rfl rfl; have r5c18 : rw5.cell? ⟨w8.heap.size, 0, none⟩ = some (.bool nm) := FUmr5.out.cell 0 0 rfl rfl; have r5c19 : rw5.cell? ⟨w8.heap.size, 1, none⟩ = some (.slice om lm cm) := FUmr5.out.cell 0 1 rfl rfl; have r5c20 : rw5.cell? ⟨w8.heap.size, 2, none⟩ = some (.slice bm mm dm) := FUmr5.out.cell 0 2 rfl rfl; have r5c21 : rw5.cell? ⟨w9.heap.size, 0, none⟩ = some (.bool nn) := FUnr5.out.cell 0 0 rfl rfl; have r5c22 : rw5.cell? ⟨w9.heap.size, 1, none⟩ = some (.slice on ln cn) := FUnr5.out.cell 0 1 rfl rfl; have r5c23 : rw5.cell? ⟨w9.heap.size, 2, none⟩ = some (.slice bn mn dn) := FUnr5.out.cell 0 2 rfl rfl) | (go_at_call 23; refine ((ratSign_any _ _ _ _ _ _ _ ph qh _ HHr3.out).mono fun e w h => (⟨h.1.trans (congrArg (fun t => Ending.returned (.int .i64 t)) HU.out.symm), h.2⟩ : e = .returned (.int .i64 u) ∧ _)).mono ?_; rintro e rw4 ⟨rfl, hb⟩; have hbb := hb; have FPr4 := Lib.hid (FPr3.out.later hbb); have FFfr4 := Lib.hid (FFfr3.out.later hbb); have FFgr4 := Lib.hid (FFgr3.out.later hbb); have FFhr4 := Lib.hid (FFhr3.out.later hbb); have FUsr4 := Lib.hid (FUsr3.out.later hbb); have FUtr4 := Lib.hid (FUtr3.out.later hbb); have FUvr4 := Lib.hid (FUvr3.out.later hbb); have FUmr4 := Lib.hid (FUmr3.out.later hbb); have FUnr4 := Lib.hid (FUnr3.out.later hbb); have HFr4 := Lib.hid (HFr3.out.keep hbb); have HGr4 := Lib.hid (HGr3.out.keep hbb); have HHr4 := Lib.hid (HHr3.out.keep hbb); have HSr4 := Lib.hid (HSr3.out.keep hbb); have HTr4 := Lib.hid (HTr3.out.keep hbb); have HVr4 := Lib.hid (HVr3.out.keep hbb); have HMr4 := Lib.hid (HMr3.out.keep hbb); have HNr4 := Lib.hid (HNr3.out.keep hbb); clear hb hbb; have r4c0 : rw4.cell? ⟨w1.heap.size, 0, none⟩ = some (.bool nf) := FFfr4.out.cell 0 0 rfl rfl; have r4c1 : rw4.cell? ⟨w1.heap.size, 1, none⟩ = some (.slice of lf cf) := FFfr4.out.cell 0 1 rfl rfl; have r4c2 : rw4.cell? ⟨w1.heap.size, 2, none⟩ = some (.slice bf mf df) := FFfr4.out.cell 0 2 rfl rfl; have r4c3 : rw4.cell? ⟨w2.heap.size, 0, none⟩ = some (.bool ng) := FFgr4.out.cell 0 0 rfl rfl; have r4c4 : rw4.cell? ⟨w2.heap.size, 1, none⟩ = some (.slice og lg cg) := FFgr4.out.cell 0 1 rfl rfl; have r4c5 : rw4.cell? ⟨w2.heap.size, 2, none⟩ = some (.slice bg mg dg) := FFgr4.out.cell 0 2 rfl rfl; have r4c6 : rw4.cell? ⟨w3.heap.size, 0, none⟩ = some (.bool nh) := FFhr4.out.cell 0 0 rfl rfl; have r4c7 : rw4.cell? ⟨w3.heap.size, 1, none⟩ = some (.slice oh lh ch) := FFhr4.out.cell 0 1 rfl rfl; have r4c8 : rw4.cell? ⟨w3.heap.size, 2, none⟩ = some (.slice bh mh dh) := FFhr4.out.cell 0 2 rfl rfl; have r4c9 : rw4.cell? ⟨w5.heap.size, 0, none⟩ = some (.bool ns) := FUsr4.out.cell 0 0 rfl rfl; have r4c10 : rw4.cell? ⟨w5.heap.size, 1, none⟩ = some (.slice os ls cs) := FUsr4.out.cell 0 1 rfl rfl; have r4c11 : rw4.cell? ⟨w5.heap.size, 2, none⟩ = some (.slice bs ms ds) := FUsr4.out.cell 0 2 rfl rfl; have r4c12 : rw4.cell? ⟨w6.heap.size, 0, none⟩ = some (.bool nt) := FUtr4.out.cell 0 0 rfl rfl; have r4c13 : rw4.cell? ⟨w6.heap.size, 1, none⟩ = some (.slice ot lt ct) := FUtr4.out.cell 0 1 rfl rfl; have r4c14 : rw4.cell? ⟨w6.heap.size, 2, none⟩ = some (.slice bt mt dt) := FUtr4.out.cell 0 2 rfl rfl; have r4c15 : rw4.cell? ⟨w7.heap.size, 0, none⟩ = some (.bool nv) := FUvr4.out.cell 0 0 rfl rfl; have r4c16 : rw4.cell? ⟨w7.heap.size, 1, none⟩ = some (.slice ov lv cv) := FUvr4.out.cell 0 1 rfl rfl; have r4c17 : rw4.cell? ⟨w7.heap.size, 2, none⟩ = some (.slice bv mv dv) := FUvr4.out.cell 0 2 rfl rfl; have r4c18 : rw4.cell? ⟨w8.heap.size, 0, none⟩ = some (.bool nm) := FUmr4.out.cell 0 0 rfl rfl; have r4c19 : rw4.cell? ⟨w8.heap.size, 1, none⟩ = some (.slice om lm cm) := FUmr4.out.cell 0 1 rfl rfl; have r4c20 : rw4.cell? ⟨w8.heap.size, 2, none⟩ = some (.slice bm mm dm) := FUmr4.out.cell 0 2 rfl rfl; have r4c21 : rw4.cell? ⟨w9.heap.size, 0, none⟩ = some (.bool nn) := FUnr4.out.cell 0 0 rfl rfl; have r4c22 : rw4.cell? ⟨w9.heap.size, 1, none⟩ = some (.slice on ln cn) := FUnr4.out.cell 0 1 rfl rfl; have r4c23 : rw4.cell? ⟨w9.heap.size, 2, none⟩ = some (.slice bn mn dn) := FUnr4.out.cell 0 2 rfl rfl) | (go_at_call 36; refine ((ratCmp_any nm nn om bm on bn lm mm ln mn cm dm cn dn pm pn qm qn _ HMr2.out HNr2.out (by omega) (by omega) (by omega) (by omega)).mono fun e w h => (⟨h.1.trans (congrArg (fun t => Ending.returned (.int .i64 t)) ED.out), h.2⟩ : e = .returned (.int .i64 xu) ∧ _)).mono ?_; rintro e rw3 ⟨rfl, hb⟩; have hbb := hb; have FPr3 := Lib.hid (FPr2.out.later hbb); have FFfr3 := Lib.hid (FFfr2.out.later hbb); have FFgr3 := Lib.hid (FFgr2.out.later hbb); have FFhr3 := Lib.hid (FFhr2.out.later hbb); have FUsr3 := Lib.hid (FUsr2.out.later hbb); have FUtr3 := Lib.hid (FUtr2.out.later hbb); have FUvr3 := Lib.hid (FUvr2.out.later hbb); have FUmr3 := Lib.hid (FUmr2.out.later hbb); have FUnr3 := Lib.hid (FUnr2.out.later hbb); have HFr3 := Lib.hid (HFr2.out.keep hbb); have HGr3 := Lib.hid (HGr2.out.keep hbb); have HHr3 := Lib.hid (HHr2.out.keep hbb); have HSr3 := Lib.hid (HSr2.out.keep hbb); have HTr3 := Lib.hid (HTr2.out.keep hbb); have HVr3 := Lib.hid (HVr2.out.keep hbb); have HMr3 := Lib.hid (HMr2.out.keep hbb); have HNr3 := Lib.hid (HNr2.out.keep hbb); clear hb hbb; have r3c0 : rw3.cell? ⟨w1.heap.size, 0, none⟩ = some (.bool nf) := FFfr3.out.cell 0 0 rfl rfl; have r3c1 : rw3.cell? ⟨w1.heap.size, 1, none⟩ = some (.slice of lf cf) := FFfr3.out.cell 0 1 rfl rfl; have r3c2 : rw3.cell? ⟨w1.heap.size, 2, none⟩ = some (.slice bf mf df) := FFfr3.out.cell 0 2 rfl rfl; have r3c3 : rw3.cell? ⟨w2.heap.size, 0, none⟩ = some (.bool ng) := FFgr3.out.cell 0 0 rfl rfl; have r3c4 : rw3.cell? ⟨w2.heap.size, 1, none⟩ = some (.slice og lg cg) := FFgr3.out.cell 0 1 rfl rfl; have r3c5 : rw3.cell? ⟨w2.heap.size, 2, none⟩ = some (.slice bg mg dg) := FFgr3.out.cell 0 2 rfl rfl; have r3c6 : rw3.cell? ⟨w3.heap.size, 0, none⟩ = some (.bool nh) := FFhr3.out.cell 0 0 rfl rfl; have r3c7 : rw3.cell? ⟨w3.heap.size, 1, none⟩ = some (.slice oh lh ch) := FFhr3.out.cell 0 1 rfl rfl; have r3c8 : rw3.cell? ⟨w3.heap.size, 2, none⟩ = some (.slice bh mh dh) := FFhr3.out.cell 0 2 rfl rfl; have r3c9 : rw3.cell? ⟨w5.heap.size, 0, none⟩ = some (.bool ns) := FUsr3.out.cell 0 0 rfl rfl; have r3c10 : rw3.cell? ⟨w5.heap.size, 1, none⟩ = some (.slice os ls cs) := FUsr3.out.cell 0 1 rfl rfl; have r3c11 : rw3.cell? ⟨w5.heap.size, 2, none⟩ = some (.slice bs ms ds) := FUsr3.out.cell 0 2 rfl rfl; have r3c12 : rw3.cell? ⟨w6.heap.size, 0, none⟩ = some (.bool nt) := FUtr3.out.cell 0 0 rfl rfl; have r3c13 : rw3.cell? ⟨w6.heap.size, 1, none⟩ = some (.slice ot lt ct) := FUtr3.out.cell 0 1 rfl rfl; have r3c14 : rw3.cell? ⟨w6.heap.size, 2, none⟩ = some (.slice bt mt dt) := FUtr3.out.cell 0 2 rfl rfl; have r3c15 : rw3.cell? ⟨w7.heap.size, 0, none⟩ = some (.bool nv) := FUvr3.out.cell 0 0 rfl rfl; have r3c16 : rw3.cell? ⟨w7.heap.size, 1, none⟩ = some (.slice ov lv cv) := FUvr3.out.cell 0 1 rfl rfl; have r3c17 : rw3.cell? ⟨w7.heap.size, 2, none⟩ = some (.slice bv mv dv) := FUvr3.out.cell 0 2 rfl rfl; have r3c18 : rw3.cell? ⟨w8.heap.size, 0, none⟩ = some (.bool nm) := FUmr3.out.cell 0 0 rfl rfl; have r3c19 : rw3.cell? ⟨w8.heap.size, 1, none⟩ = some (.slice om lm cm) := FUmr3.out.cell 0 1 rfl rfl; have r3c20 : rw3.cell? ⟨w8.heap.size, 2, none⟩ = some (.slice bm mm dm) := FUmr3.out.cell 0 2 rfl rfl; have r3c21 : rw3.cell? ⟨w9.heap.size, 0, none⟩ = some (.bool nn) := FUnr3.out.cell 0 0 rfl rfl; have r3c22 : rw3.cell? ⟨w9.heap.size, 1, none⟩ = some (.slice on ln cn) := FUnr3.out.cell 0 1 rfl rfl; have r3c23 : rw3.cell? ⟨w9.heap.size, 2, none⟩ = some (.slice bn mn dn) := FUnr3.out.cell 0 2 rfl rfl) | (go_at_call 23; refine ((ratSign_any _ _ _ _ _ _ _ pv qv _ HVr1.out).mono fun e w h => (⟨h.1.trans (congrArg (fun t => Ending.returned (.int .i64 t)) EC.out), h.2⟩ : e = .returned (.int .i64 x) ∧ _)).mono ?_; rintro e rw2 ⟨rfl, hb⟩; have hbb := hb; have FPr2 := Lib.hid (FPr1.out.later hbb); have FFfr2 := Lib.hid (FFfr1.out.later hbb); have FFgr2 := Lib.hid (FFgr1.out.later hbb); have FFhr2 := Lib.hid (FFhr1.out.later hbb); have FUsr2 := Lib.hid (FUsr1.out.later hbb); have FUtr2 := Lib.hid (FUtr1.out.later hbb); have FUvr2 := Lib.hid (FUvr1.out.later hbb); have FUmr2 := Lib.hid (FUmr1.out.later hbb); have FUnr2 := Lib.hid (FUnr1.out.later hbb); have HFr2 := Lib.hid (HFr1.out.keep hbb); have HGr2 := Lib.hid (HGr1.out.keep hbb); have HHr2 := Lib.hid (HHr1.out.keep hbb); have HSr2 := Lib.hid (HSr1.out.keep hbb); have HTr2 := Lib.hid (HTr1.out.keep hbb); have HVr2 := Lib.hid (HVr1.out.keep hbb); have HMr2 := Lib.hid (HMr1.out.keep hbb); have HNr2 := Lib.hid (HNr1.out.keep hbb); clear hb hbb; have r2c0 : rw2.cell? ⟨w1.heap.size, 0, none⟩ = some (.bool nf) := FFfr2.out.cell 0 0 rfl rfl; have r2c1 : rw2.cell? ⟨w1.heap.size, 1, none⟩ = some (.slice of lf cf) := FFfr2.out.cell 0 1 rfl rfl; have r2c2 : rw2.cell? ⟨w1.heap.size, 2, none⟩ = some (.slice bf mf df) := FFfr2.out.cell 0 2 rfl rfl; have r2c3 : rw2.cell? ⟨w2.heap.size, 0, none⟩ = some (.bool ng) := FFgr2.out.cell 0 0 rfl rfl; have r2c4 : rw2.cell? ⟨w2.heap.size, 1, none⟩ = some (.slice og lg cg) := FFgr2.out.cell 0 1 rfl rfl; have r2c5 : rw2.cell? ⟨w2.heap.size, 2, none⟩ = some (.slice bg mg dg) := FFgr2.out.cell 0 2 rfl rfl; have r2c6 : rw2.cell? ⟨w3.heap.size, 0, none⟩ = some (.bool nh) := FFhr2.out.cell 0 0 rfl rfl; have r2c7 : rw2.cell? ⟨w3.heap.size, 1, none⟩ = some (.slice oh lh ch) := FFhr2.out.cell 0 1 rfl rfl; have r2c8 : rw2.cell? ⟨w3.heap.size, 2, none⟩ = some (.slice bh mh dh) := FFhr2.out.cell 0 2 rfl rfl; have r2c9 : rw2.cell? ⟨w5.heap.size, 0, none⟩ = some (.bool ns) := FUsr2.out.cell 0 0 rfl rfl; have r2c10 : rw2.cell? ⟨w5.heap.size, 1, none⟩ = some (.slice os ls cs) := FUsr2.out.cell 0 1 rfl rfl; have r2c11 : rw2.cell? ⟨w5.heap.size, 2, none⟩ = some (.slice bs ms ds) := FUsr2.out.cell 0 2 rfl rfl; have r2c12 : rw2.cell? ⟨w6.heap.size, 0, none⟩ = some (.bool nt) := FUtr2.out.cell 0 0 rfl rfl; have r2c13 : rw2.cell? ⟨w6.heap.size, 1, none⟩ = some (.slice ot lt ct) := FUtr2.out.cell 0 1 rfl rfl; have r2c14 : rw2.cell? ⟨w6.heap.size, 2, none⟩ = some (.slice bt mt dt) := FUtr2.out.cell 0 2 rfl rfl; have r2c15 : rw2.cell? ⟨w7.heap.size, 0, none⟩ = some (.bool nv) := FUvr2.out.cell 0 0 rfl rfl; have r2c16 : rw2.cell? ⟨w7.heap.size, 1, none⟩ = some (.slice ov lv cv) := FUvr2.out.cell 0 1 rfl rfl; have r2c17 : rw2.cell? ⟨w7.heap.size, 2, none⟩ = some (.slice bv mv dv) := FUvr2.out.cell 0 2 rfl rfl; have r2c18 : rw2.cell? ⟨w8.heap.size, 0, none⟩ = some (.bool nm) := FUmr2.out.cell 0 0 rfl rfl; have r2c19 : rw2.cell? ⟨w8.heap.size, 1, none⟩ = some (.slice om lm cm) := FUmr2.out.cell 0 1 rfl rfl; have r2c20 : rw2.cell? ⟨w8.heap.size, 2, none⟩ = some (.slice bm mm dm) := FUmr2.out.cell 0 2 rfl rfl; have r2c21 : rw2.cell? ⟨w9.heap.size, 0, none⟩ = some (.bool nn) := FUnr2.out.cell 0 0 rfl rfl; have r2c22 : rw2.cell? ⟨w9.heap.size, 1, none⟩ = some (.slice on ln cn) := FUnr2.out.cell 0 1 rfl rfl; have r2c23 : rw2.cell? ⟨w9.heap.size, 2, none⟩ = some (.slice bn mn dn) := FUnr2.out.cell 0 2 rfl rfl) | (go_at_call 36; refine ((ratCmp_any ns nt os bs ot bt ls ms lt mt cs ds ct dt ps pt qs qt _ HSr0.out HTr0.out (by omega) (by omega) (by omega) (by omega)).mono fun e w h => (⟨h.1.trans (congrArg (fun t => Ending.returned (.int .i64 t)) EB.out), h.2⟩ : e = .returned (.int .i64 x) ∧ _)).mono ?_; rintro e rw1 ⟨rfl, hb⟩; have hbb := hb; have FPr1 := Lib.hid (FPr0.out.later hbb); have FFfr1 := Lib.hid (FFfr0.out.later hbb); have FFgr1 := Lib.hid (FFgr0.out.later hbb); have FFhr1 := Lib.hid (FFhr0.out.later hbb); have FUsr1 := Lib.hid (FUsr0.out.later hbb); have FUtr1 := Lib.hid (FUtr0.out.later hbb); have FUvr1 := Lib.hid (FUvr0.out.later hbb); have FUmr1 := Lib.hid (FUmr0.out.later hbb); have FUnr1 := Lib.hid (FUnr0.out.later hbb); have HFr1 := Lib.hid (HFr0.out.keep hbb); have HGr1 := Lib.hid (HGr0.out.keep hbb); have HHr1 := Lib.hid (HHr0.out.keep hbb); have HSr1 := Lib.hid (HSr0.out.keep hbb); have HTr1 := Lib.hid (HTr0.out.keep hbb); have HVr1 := Lib.hid (HVr0.out.keep hbb); have HMr1 := Lib.hid (HMr0.out.keep hbb); have HNr1 := Lib.hid (HNr0.out.keep hbb); clear hb hbb; have r1c0 : rw1.cell? ⟨w1.heap.size, 0, none⟩ = some (.bool nf) := FFfr1.out.cell 0 0 rfl rfl; have r1c1 : rw1.cell? ⟨w1.heap.size, 1, none⟩ = some (.slice of lf cf) := FFfr1.out.cell 0 1 rfl rfl; have r1c2 : rw1.cell? ⟨w1.heap.size, 2, none⟩ = some (.slice bf mf df) := FFfr1.out.cell 0 2 rfl rfl; have r1c3 : rw1.cell? ⟨w2.heap.size, 0, none⟩ = some (.bool ng) := FFgr1.out.cell 0 0 rfl rfl; have r1c4 : rw1.cell? ⟨w2.heap.size, 1, none⟩ = some (.slice og lg cg) := FFgr1.out.cell 0 1 rfl rfl; have r1c5 : rw1.cell? ⟨w2.heap.size, 2, none⟩ = some (.slice bg mg dg) := FFgr1.out.cell 0 2 rfl rfl; have r1c6 : rw1.cell? ⟨w3.heap.size, 0, none⟩ = some (.bool nh) := FFhr1.out.cell 0 0 rfl rfl; have r1c7 : rw1.cell? ⟨w3.heap.size, 1, none⟩ = some (.slice oh lh ch) := FFhr1.out.cell 0 1 rfl rfl; have r1c8 : rw1.cell? ⟨w3.heap.size, 2, none⟩ = some (.slice bh mh dh) := FFhr1.out.cell 0 2 rfl rfl; have r1c9 : rw1.cell? ⟨w5.heap.size, 0, none⟩ = some (.bool ns) := FUsr1.out.cell 0 0 rfl rfl; have r1c10 : rw1.cell? ⟨w5.heap.size, 1, none⟩ = some (.slice os ls cs) := FUsr1.out.cell 0 1 rfl rfl; have r1c11 : rw1.cell? ⟨w5.heap.size, 2, none⟩ = some (.slice bs ms ds) := FUsr1.out.cell 0 2 rfl rfl; have r1c12 : rw1.cell? ⟨w6.heap.size, 0, none⟩ = some (.bool nt) := FUtr1.out.cell 0 0 rfl rfl; have r1c13 : rw1.cell? ⟨w6.heap.size, 1, none⟩ = some (.slice ot lt ct) := FUtr1.out.cell 0 1 rfl rfl; have r1c14 : rw1.cell? ⟨w6.heap.size, 2, none⟩ = some (.slice bt mt dt) := FUtr1.out.cell 0 2 rfl rfl; have r1c15 : rw1.cell? ⟨w7.heap.size, 0, none⟩ = some (.bool nv) := FUvr1.out.cell 0 0 rfl rfl; have r1c16 : rw1.cell? ⟨w7.heap.size, 1, none⟩ = some (.slice ov lv cv) := FUvr1.out.cell 0 1 rfl rfl; have r1c17 : rw1.cell? ⟨w7.heap.size, 2, none⟩ = some (.slice bv mv dv) := FUvr1.out.cell 0 2 rfl rfl; have r1c18 : rw1.cell? ⟨w8.heap.size, 0, none⟩ = some (.bool nm) := FUmr1.out.cell 0 0 rfl rfl; have r1c19 : rw1.cell? ⟨w8.heap.size, 1, none⟩ = some (.slice om lm cm) := FUmr1.out.cell 0 1 rfl rfl; have r1c20 : rw1.cell? ⟨w8.heap.size, 2, none⟩ = some (.slice bm mm dm) := FUmr1.out.cell 0 2 rfl rfl; have r1c21 : rw1.cell? ⟨w9.heap.size, 0, none⟩ = some (.bool nn) := FUnr1.out.cell 0 0 rfl rfl; have r1c22 : rw1.cell? ⟨w9.heap.size, 1, none⟩ = some (.slice on ln cn) := FUnr1.out.cell 0 1 rfl rfl; have r1c23 : rw1.cell? ⟨w9.heap.size, 2, none⟩ = some (.slice bn mn dn) := FUnr1.out.cell 0 2 rfl rfl) | (go_at_call 36; refine ((ratCmp_any ng nf og bg of bf lg mg lf mf cg dg cf df pg pf qg qf V11.drew (YG.out.keep (Below.refl _ _).drew) (YF.out.keep (Below.refl _ _).drew) (by omega) (by omega) (by omega) (by omega)).mono fun e w h => (⟨h.1.trans (congrArg (fun t => Ending.returned (.int .i64 t)) EA.out), h.2⟩ : e = .returned (.int .i64 (-x)) ∧ _)).mono ?_; rintro e rw0 ⟨rfl, hb⟩; have hbb := below_of_drew hb; have FPr0 := Lib.hid (XP.out.later hbb); have FFfr0 := Lib.hid (XFf.out.later hbb); have FFgr0 := Lib.hid (XFg.out.later hbb); have FFhr0 := Lib.hid (XFh.out.later hbb); have FUsr0 := Lib.hid (XUs.out.later hbb); have FUtr0 := Lib.hid (XUt.out.later hbb); have FUvr0 := Lib.hid (XUv.out.later hbb); have FUmr0 := Lib.hid (XUm.out.later hbb); have FUnr0 := Lib.hid (XUn.out.later hbb); have HFr0 := Lib.hid (YF.out.keep hbb); have HGr0 := Lib.hid (YG.out.keep hbb); have HHr0 := Lib.hid (YH.out.keep hbb); have HSr0 := Lib.hid (YS.out.keep hbb); have HTr0 := Lib.hid (YT.out.keep hbb); have HVr0 := Lib.hid (YV.out.keep hbb); have HMr0 := Lib.hid (YM.out.keep hbb); have HNr0 := Lib.hid (YN.out.keep hbb); clear hb hbb; have r0c0 : rw0.cell? ⟨w1.heap.size, 0, none⟩ = some (.bool nf) := FFfr0.out.cell 0 0 rfl rfl; have r0c1 : rw0.cell? ⟨w1.heap.size, 1, none⟩ = some (.slice of lf cf) := FFfr0.out.cell 0 1 rfl rfl; have r0c2 : rw0.cell? ⟨w1.heap.size, 2, none⟩ = some (.slice bf mf df) := FFfr0.out.cell 0 2 rfl rfl; have r0c3 : rw0.cell? ⟨w2.heap.size, 0, none⟩ = some (.bool ng) := FFgr0.out.cell 0 0 rfl rfl; have r0c4 : rw0.cell? ⟨w2.heap.size, 1, none⟩ = some (.slice og lg cg) := FFgr0.out.cell 0 1 rfl rfl; have r0c5 : rw0.cell? ⟨w2.heap.size, 2, none⟩ = some (.slice bg mg dg) := FFgr0.out.cell 0 2 rfl rfl; have r0c6 : rw0.cell? ⟨w3.heap.size, 0, none⟩ = some (.bool nh) := FFhr0.out.cell 0 0 rfl rfl; have r0c7 : rw0.cell? ⟨w3.heap.size, 1, none⟩ = some (.slice oh lh ch) := FFhr0.out.cell 0 1 rfl rfl; have r0c8 : rw0.cell? ⟨w3.heap.size, 2, none⟩ = some (.slice bh mh dh) := FFhr0.out.cell 0 2 rfl rfl; have r0c9 : rw0.cell? ⟨w5.heap.size, 0, none⟩ = some (.bool ns) := FUsr0.out.cell 0 0 rfl rfl; have r0c10 : rw0.cell? ⟨w5.heap.size, 1, none⟩ = some (.slice os ls cs) := FUsr0.out.cell 0 1 rfl rfl; have r0c11 : rw0.cell? ⟨w5.heap.size, 2, none⟩ = some (.slice bs ms ds) := FUsr0.out.cell 0 2 rfl rfl; have r0c12 : rw0.cell? ⟨w6.heap.size, 0, none⟩ = some (.bool nt) := FUtr0.out.cell 0 0 rfl rfl; have r0c13 : rw0.cell? ⟨w6.heap.size, 1, none⟩ = some (.slice ot lt ct) := FUtr0.out.cell 0 1 rfl rfl; have r0c14 : rw0.cell? ⟨w6.heap.size, 2, none⟩ = some (.slice bt mt dt) := FUtr0.out.cell 0 2 rfl rfl; have r0c15 : rw0.cell? ⟨w7.heap.size, 0, none⟩ = some (.bool nv) := FUvr0.out.cell 0 0 rfl rfl; have r0c16 : rw0.cell? ⟨w7.heap.size, 1, none⟩ = some (.slice ov lv cv) := FUvr0.out.cell 0 1 rfl rfl; have r0c17 : rw0.cell? ⟨w7.heap.size, 2, none⟩ = some (.slice bv mv dv) := FUvr0.out.cell 0 2 rfl rfl; have r0c18 : rw0.cell? ⟨w8.heap.size, 0, none⟩ = some (.bool nm) := FUmr0.out.cell 0 0 rfl rfl; have r0c19 : rw0.cell? ⟨w8.heap.size, 1, none⟩ = some (.slice om lm cm) := FUmr0.out.cell 0 1 rfl rfl; have r0c20 : rw0.cell? ⟨w8.heap.size, 2, none⟩ = some (.slice bm mm dm) := FUmr0.out.cell 0 2 rfl rfl; have r0c21 : rw0.cell? ⟨w9.heap.size, 0, none⟩ = some (.bool nn) := FUnr0.out.cell 0 0 rfl rfl; have r0c22 : rw0.cell? ⟨w9.heap.size, 1, none⟩ = some (.slice on ln cn) := FUnr0.out.cell 0 1 rfl rfl; have r0c23 : rw0.cell? ⟨w9.heap.size, 2, none⟩ = some (.slice bn mn dn) := FUnr0.out.cell 0 2 rfl rfl))
          go_wp2
          go_ret
          exact ⟨rfl, FPr10.out.below⟩

set_option maxRecDepth 100000 in
theorem lifted (os : Os) (started : os.Started) (H : Type) (enc : TypeId × Value → H) :
    ReturnsInHanded {} Tryz.checked os 9 .any (Rows.numOrderSpec.pre6 enc Tryz.prog Tryz.f9 Rows.numOrderRow.domain false) (Rows.numOrderSpec.post enc Tryz.prog Tryz.f9 false true false false) := by
  refine returnsInHanded_of_change (C := Tryz.checked) own started (by kernel_rfl) Tryz.func9
    (ChangeSpec.witness6 (enc := enc) (C := Tryz.checked) false ⟨#[], #[.agg #[.bool false, .slice none 0 0], .agg #[.bool false, .slice none 0 0], .agg #[.bool false, .slice none 0 0], .agg #[.bool false, .slice none 0 0], .agg #[.bool false, .slice none 0 0], .agg #[.bool false, .slice none 0 0]], []⟩ 8 (by kernel_rfl) (by kernel_rfl) (by kernel_rfl) (by kernel_rfl)) ?_
  intro W base args ds gs before hval0 hW hcnd _
  have hval : ∀ (j : Nat) t v, Tryz.f9.params[j]? = some t → args[j]? = some v → Value.okWide Tryz.prog W .any base t v := hval0
  have hW' := hW
  obtain ⟨p, q, hA0, hV, rfl, hfz, hnd⟩ := hW
  have hA : DataW.TrodAll enc Tryz.prog W 0 (fun _ => true) true Tryz.f9.params.toList args.toList ds p := hA0
  have hAk := hA
  rw [Tryz.params9] at hA hval
  obtain ⟨v0, vs0, d0, ds0, p0, q0, hargs, rfl, rfl, h0, r0⟩ := trodAll_cons hA
  obtain ⟨v1, vs1, d1, ds1, p1, q1, rfl, rfl, rfl, h1, r1⟩ := trodAll_cons r0
  obtain ⟨v2, vs2, d2, ds2, p2, q2, rfl, rfl, rfl, h2, r2⟩ := trodAll_cons r1
  obtain ⟨v3, vs3, d3, ds3, p3, q3, rfl, rfl, rfl, h3, r3⟩ := trodAll_cons r2
  obtain ⟨v4, vs4, d4, ds4, p4, q4, rfl, rfl, rfl, h4, r4⟩ := trodAll_cons r3
  obtain ⟨v5, vs5, d5, ds5, p5, q5, rfl, rfl, rfl, h5, r5⟩ := trodAll_cons r4
  obtain ⟨rfl, rfl, rfl⟩ := trodAll_nil r5
  obtain rfl : args = #[v0, v1, v2, v3, v4, v5] := by cases args; simp_all
  obtain ⟨rfl, rfl⟩ := trodVars_none hV
  obtain ⟨s0, a0, l0, c0, xs0, rfl, hs0, hd0, hl0⟩ := open_raw (hval 0 24 v0 rfl rfl) h0
  obtain ⟨s1, a1, l1, c1, xs1, rfl, hs1, hd1, hl1⟩ := open_raw (hval 1 24 v1 rfl rfl) h1
  obtain ⟨s2, a2, l2, c2, xs2, rfl, hs2, hd2, hl2⟩ := open_raw (hval 2 24 v2 rfl rfl) h2
  obtain ⟨s3, a3, l3, c3, xs3, rfl, hs3, hd3, hl3⟩ := open_raw (hval 3 24 v3 rfl rfl) h3
  obtain ⟨s4, a4, l4, c4, xs4, rfl, hs4, hd4, hl4⟩ := open_raw (hval 4 24 v4 rfl rfl) h4
  obtain ⟨s5, a5, l5, c5, xs5, rfl, hs5, hd5, hl5⟩ := open_raw (hval 5 24 v5 rfl rfl) h5
  clear hA0 hval0
  rw [List.append_nil] at hW'
  refine (walk s0 s1 s2 s3 s4 s5 a0 a1 a2 a3 a4 a5 l0 l1 l2 l3 l4 l5 c0 c1 c2 c3 c4 c5 xs0 xs1 xs2 xs3 xs4 xs5 W hs0 hd0 hl0 hs1 hd1 hl1 hs2 hd2 hl2 hs3 hd3 hl3 hs4 hd4 hl4 hs5 hd5 hl5).mono fun e W' ⟨he, hg⟩ => ?_
  subst he
  exact ⟨_, rfl, post_law (by kernel_rfl) (by rw [Tryz.params9]; intro t ht; simp at ht; subst ht; exact ⟨by kernel_rfl, of_decide_eq_true (by kernel_rfl)⟩) hW' rfl rfl Tryz.underlying4 hAk rfl rfl rfl hg⟩

theorem over : Rows.numOrderRow.holds Tryz.pinned (OpenSpec.ofChange Rows.numOrderSpec) :=
  OpenClaim.holds_of_wide 9 Tryz.f9 rfl rfl rfl rfl rfl rfl rfl ⟨rfl, rfl, rfl, rfl, rfl⟩ rfl rfl rfl rfl rfl (by kernel_rfl) Tryz.func9 (by kernel_rfl)
    (of_decide_eq_true (by kernel_rfl)) (by unfold Func.isWrapper; first | (rw [if_pos (by decide +kernel)]; kernel_rfl) | (rw [if_neg (by decide +kernel)]; exact ⟨rfl, rfl⟩))
    (fun os started H enc _ => lifted os started H enc)

/-- the statement -/
theorem proved : Rows.NumOrderSaid :=
  over
end Go.Proofs.YtbihgllfllkkaaaGreat.numOrder
