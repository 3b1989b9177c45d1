/- For all integers a, b, c and d, NumRatSums(a, b, c, d) returns true, ends, and turns nothing that was there. For every input; no condition. -/
import Derived.Test.YtbihgllfllkkaaaGreatRows
import Derived.WalkKit
import Derived.ProofKit
import Derived.OpenShut
import Derived.Test.YtbihgllfllkkaaaGreatPart17
namespace Go.Proofs.YtbihgllfllkkaaaGreat.numRatSums
open Go.ChangeShapes Go.WideShapes Go.ChangeAt Go.RowKit Go.Proofs.YtbihgllfllkkaaaGreat
set_option linter.unusedVariables false

theorem own : ownKnob Tryz.prog.godebug = none := by kernel_rfl

set_option maxHeartbeats 16000000 in
set_option maxRecDepth 8000 in
theorem walk (s1 s2 s3 s4 : Bool) (a1 a2 a3 a4 : Option Addr) (l1 l2 l3 l4 c1 c2 c3 c4 : Nat) (xs1 xs2 xs3 xs4 : List Nat) (W : World) (hs1 : Sl .u16 W a1 l1 xs1) (hd1 : Dig B16 xs1) (hl1 : l1 ≤ 9223372036854775807) (hs2 : Sl .u16 W a2 l2 xs2) (hd2 : Dig B16 xs2) (hl2 : l2 ≤ 9223372036854775807) (hs3 : Sl .u16 W a3 l3 xs3) (hd3 : Dig B16 xs3) (hl3 : l3 ≤ 9223372036854775807) (hs4 : Sl .u16 W a4 l4 xs4) (hd4 : Dig B16 xs4) (hl4 : l4 ≤ 9223372036854775807) :
    Calls Tryz.prog 5 #[.agg #[.bool s1, .slice a1 l1 c1], .agg #[.bool s2, .slice a2 l2 c2], .agg #[.bool s3, .slice a3 l3 c3], .agg #[.bool s4, .slice a4 l4 c4]] W fun e w' => e = .returned (.bool true) ∧ Below W.heap.size W w' := by
  have hf : Fr W ((((W.alloc (.cells #[.bool s1, .slice a1 l1 c1] 24)).alloc (.cells #[.bool s2, .slice a2 l2 c2] 24)).alloc (.cells #[.bool s3, .slice a3 l3 c3] 24)).alloc (.cells #[.bool s4, .slice a4 l4 c4] 24)) [(24, #[.bool s1, .slice a1 l1 c1]), (24, #[.bool s2, .slice a2 l2 c2]), (24, #[.bool s3, .slice a3 l3 c3]), (24, #[.bool s4, .slice a4 l4 c4])] := ((((Fr.nil W).alloc rfl _ _).alloc (by simp) _ _).alloc (by simp) _ _).alloc (by simp) _ _
  obtain ⟨V, hV⟩ : ∃ V, V = ((((W.alloc (.cells #[.bool s1, .slice a1 l1 c1] 24)).alloc (.cells #[.bool s2, .slice a2 l2 c2] 24)).alloc (.cells #[.bool s3, .slice a3 l3 c3] 24)).alloc (.cells #[.bool s4, .slice a4 l4 c4] 24)) := ⟨_, rfl⟩
  have FP0 : Hid (Fr W V [(24, #[.bool s1, .slice a1 l1 c1]), (24, #[.bool s2, .slice a2 l2 c2]), (24, #[.bool s3, .slice a3 l3 c3]), (24, #[.bool s4, .slice a4 l4 c4])]) := by rw [hV]; exact hf
  have HS10 : Hid (Sl .u16 V a1 l1 xs1) := by rw [hV]; exact hs1.keep hf.below
  have HS20 : Hid (Sl .u16 V a2 l2 xs2) := by rw [hV]; exact hs2.keep hf.below
  have HS30 : Hid (Sl .u16 V a3 l3 xs3) := by rw [hV]; exact hs3.keep hf.below
  have HS40 : Hid (Sl .u16 V a4 l4 xs4) := by rw [hV]; exact hs4.keep hf.below
  clear hf hs1 hs2 hs3 hs4
  go_enter Tryz.func5, Tryz.ntmps5
  go_upto_region 1 with fail
  rw [← hV]
  clear hV
  have qq0 : V.cell? ⟨W.heap.size, 0, none⟩ = some (.bool s1) := FP0.out.cell 0 0 rfl rfl
  have qq1 : V.cell? ⟨W.heap.size, 1, none⟩ = some (.slice a1 l1 c1) := FP0.out.cell 0 1 rfl rfl
  have qq2 : V.cell? ⟨W.heap.size + 1, 0, none⟩ = some (.bool s2) := FP0.out.cell 1 0 rfl rfl
  have qq3 : V.cell? ⟨W.heap.size + 1, 1, none⟩ = some (.slice a2 l2 c2) := FP0.out.cell 1 1 rfl rfl
  have qq4 : V.cell? ⟨W.heap.size + 2, 0, none⟩ = some (.bool s3) := FP0.out.cell 2 0 rfl rfl
  have qq5 : V.cell? ⟨W.heap.size + 2, 1, none⟩ = some (.slice a3 l3 c3) := FP0.out.cell 2 1 rfl rfl
  have qq6 : V.cell? ⟨W.heap.size + 3, 0, none⟩ = some (.bool s4) := FP0.out.cell 3 0 rfl rfl
  have qq7 : V.cell? ⟨W.heap.size + 3, 1, none⟩ = some (.slice a4 l4 c4) := FP0.out.cell 3 1 rfl rfl
  go_wp2_with fail
  refine ((half_any s1 s2 a1 a2 l1 l2 c1 c2 12 xs1 xs2 _ _ _ HS10.out hd1 HS20.out hd2 rfl rfl (by omega) hl1 hl2).mono fun e w h => h.two).mono ?_
  rintro e w1 ⟨nf, of, lf, cf, bf, mf, df, spf, opf, lpf, cpf, sqf, oqf, lqf, cqf, pf, qf, okf, rfl, hlf, hmf, hq, hz, hb⟩
  clear qq0 qq1 qq2 qq3 qq4 qq5 qq6 qq7
  have FP1a := Lib.hid (FP0.out.later hb)
  have HS11a := Lib.hid (HS10.out.keep hb)
  have HS21a := Lib.hid (HS20.out.keep hb)
  have HS31a := Lib.hid (HS30.out.keep hb)
  have HS41a := Lib.hid (HS40.out.keep hb)
  have hf : Fr w1 ((w1.alloc (.cells #[.bool nf, .slice of lf cf, .slice bf mf df] 35)).alloc (.cells #[.bool spf, .slice opf lpf cpf, .bool sqf, .slice oqf lqf cqf] 43)) [(35, #[.bool nf, .slice of lf cf, .slice bf mf df]), (43, #[.bool spf, .slice opf lpf cpf, .bool sqf, .slice oqf lqf cqf])] := ((Fr.nil w1).alloc rfl _ _).alloc (by simp) _ _
  have FP1b := Lib.hid (FP1a.out.later hf.below)
  have HS11b := Lib.hid (HS11a.out.keep hf.below)
  have HS21b := Lib.hid (HS21a.out.keep hf.below)
  have HS31b := Lib.hid (HS31a.out.keep hf.below)
  have HS41b := Lib.hid (HS41a.out.keep hf.below)
  have FFf1 := Lib.hid hf
  have HF1 := Lib.hid (hq.keep hf.below)
  have hqpf : 0 < qf := hq.pos
  have HZF : Hid (okf = true → lpf ≤ 1024 ∧ lqf ≤ 1024 ∧ Z16 w1 spf opf lpf pf ∧ Z16 w1 sqf oqf lqf (qf : Int)) := hz
  have hwbf := hf.below
  have hw1 := hb
  clear hb hq hz hf
  have qq0 : ((w1.alloc (.cells #[.bool nf, .slice of lf cf, .slice bf mf df] 35)).alloc (.cells #[.bool spf, .slice opf lpf cpf, .bool sqf, .slice oqf lqf cqf] 43)).cell? ⟨W.heap.size, 0, none⟩ = some (.bool s1) := FP1b.out.cell 0 0 rfl rfl
  have qq1 : ((w1.alloc (.cells #[.bool nf, .slice of lf cf, .slice bf mf df] 35)).alloc (.cells #[.bool spf, .slice opf lpf cpf, .bool sqf, .slice oqf lqf cqf] 43)).cell? ⟨W.heap.size, 1, none⟩ = some (.slice a1 l1 c1) := FP1b.out.cell 0 1 rfl rfl
  have qq2 : ((w1.alloc (.cells #[.bool nf, .slice of lf cf, .slice bf mf df] 35)).alloc (.cells #[.bool spf, .slice opf lpf cpf, .bool sqf, .slice oqf lqf cqf] 43)).cell? ⟨W.heap.size + 1, 0, none⟩ = some (.bool s2) := FP1b.out.cell 1 0 rfl rfl
  have qq3 : ((w1.alloc (.cells #[.bool nf, .slice of lf cf, .slice bf mf df] 35)).alloc (.cells #[.bool spf, .slice opf lpf cpf, .bool sqf, .slice oqf lqf cqf] 43)).cell? ⟨W.heap.size + 1, 1, none⟩ = some (.slice a2 l2 c2) := FP1b.out.cell 1 1 rfl rfl
  have qq4 : ((w1.alloc (.cells #[.bool nf, .slice of lf cf, .slice bf mf df] 35)).alloc (.cells #[.bool spf, .slice opf lpf cpf, .bool sqf, .slice oqf lqf cqf] 43)).cell? ⟨W.heap.size + 2, 0, none⟩ = some (.bool s3) := FP1b.out.cell 2 0 rfl rfl
  have qq5 : ((w1.alloc (.cells #[.bool nf, .slice of lf cf, .slice bf mf df] 35)).alloc (.cells #[.bool spf, .slice opf lpf cpf, .bool sqf, .slice oqf lqf cqf] 43)).cell? ⟨W.heap.size + 2, 1, none⟩ = some (.slice a3 l3 c3) := FP1b.out.cell 2 1 rfl rfl
  have qq6 : ((w1.alloc (.cells #[.bool nf, .slice of lf cf, .slice bf mf df] 35)).alloc (.cells #[.bool spf, .slice opf lpf cpf, .bool sqf, .slice oqf lqf cqf] 43)).cell? ⟨W.heap.size + 3, 0, none⟩ = some (.bool s4) := FP1b.out.cell 3 0 rfl rfl
  have qq7 : ((w1.alloc (.cells #[.bool nf, .slice of lf cf, .slice bf mf df] 35)).alloc (.cells #[.bool spf, .slice opf lpf cpf, .bool sqf, .slice oqf lqf cqf] 43)).cell? ⟨W.heap.size + 3, 1, none⟩ = some (.slice a4 l4 c4) := FP1b.out.cell 3 1 rfl rfl
  go_wp2_with fail
  refine ((half_any s3 s4 a3 a4 l3 l4 c3 c4 12 xs3 xs4 _ _ _ HS31b.out hd3 HS41b.out hd4 rfl rfl (by omega) hl3 hl4).mono fun e w h => h.two).mono ?_
  rintro e w2 ⟨ng, og, lg, cg, bg, mg, dg, spg, opg, lpg, cpg, sqg, oqg, lqg, cqg, pg, qg, okg, rfl, hlg, hmg, hq, hz, hb⟩
  clear qq0 qq1 qq2 qq3 qq4 qq5 qq6 qq7
  have FP2a := Lib.hid (FP1b.out.later hb)
  have FFf2a := Lib.hid (FFf1.out.later hb)
  have HS12a := Lib.hid (HS11b.out.keep hb)
  have HS22a := Lib.hid (HS21b.out.keep hb)
  have HS32a := Lib.hid (HS31b.out.keep hb)
  have HS42a := Lib.hid (HS41b.out.keep hb)
  have HF2a := Lib.hid (HF1.out.keep hb)
  have hf : Fr w2 ((w2.alloc (.cells #[.bool ng, .slice og lg cg, .slice bg mg dg] 35)).alloc (.cells #[.bool spg, .slice opg lpg cpg, .bool sqg, .slice oqg lqg cqg] 43)) [(35, #[.bool ng, .slice og lg cg, .slice bg mg dg]), (43, #[.bool spg, .slice opg lpg cpg, .bool sqg, .slice oqg lqg cqg])] := ((Fr.nil w2).alloc rfl _ _).alloc (by simp) _ _
  have FP2b := Lib.hid (FP2a.out.later hf.below)
  have FFf2b := Lib.hid (FFf2a.out.later hf.below)
  have HS12b := Lib.hid (HS12a.out.keep hf.below)
  have HS22b := Lib.hid (HS22a.out.keep hf.below)
  have HS32b := Lib.hid (HS32a.out.keep hf.below)
  have HS42b := Lib.hid (HS42a.out.keep hf.below)
  have HF2b := Lib.hid (HF2a.out.keep hf.below)
  have FFg2 := Lib.hid hf
  have HG2 := Lib.hid (hq.keep hf.below)
  have hqpg : 0 < qg := hq.pos
  have HZG : Hid (okg = true → lpg ≤ 1024 ∧ lqg ≤ 1024 ∧ Z16 w2 spg opg lpg pg ∧ Z16 w2 sqg oqg lqg (qg : Int)) := hz
  have hwbg := hf.below
  have hw2 := hb
  clear hb hq hz hf
  cases okf with
  | false =>
    go_wp2_with fail
    refine (awake_any _).mono ?_
    rintro e w3 ⟨rfl, hb⟩
    have FP3a := Lib.hid (FP2b.out.later hb)
    have FFf3a := Lib.hid (FFf2b.out.later hb)
    have FFg3a := Lib.hid (FFg2.out.later hb)
    have HF3a := Lib.hid (HF2b.out.keep hb)
    have HG3a := Lib.hid (HG2.out.keep hb)
    clear hb
    go_wp2
    go_ret
    exact ⟨rfl, FP3a.out.below⟩
  | true =>
    cases okg with
    | false =>
      go_wp2_with fail
      refine (awake_any _).mono ?_
      rintro e w3 ⟨rfl, hb⟩
      have FP3a := Lib.hid (FP2b.out.later hb)
      have FFf3a := Lib.hid (FFf2b.out.later hb)
      have FFg3a := Lib.hid (FFg2.out.later hb)
      have HF3a := Lib.hid (HF2b.out.keep hb)
      have HG3a := Lib.hid (HG2.out.keep hb)
      clear hb
      go_wp2
      go_ret
      exact ⟨rfl, FP3a.out.below⟩
    | true =>
      have hzz := HZF.out rfl
      have hlpf := hzz.1
      have hlqf := hzz.2.1
      have HFPx := Lib.hid (((hzz.2.2.1.keep hwbf).keep hw2).keep hwbg)
      have HFQx := Lib.hid (((hzz.2.2.2.keep hwbf).keep hw2).keep hwbg)
      clear hzz HZF
      have hzz := HZG.out rfl
      have hlpg := hzz.1
      have hlqg := hzz.2.1
      have HGPx := Lib.hid (hzz.2.2.1.keep hwbg)
      have HGQx := Lib.hid (hzz.2.2.2.keep hwbg)
      clear hzz HZG hwbf hwbg hw2
      have qq0 : ((w2.alloc (.cells #[.bool ng, .slice og lg cg, .slice bg mg dg] 35)).alloc (.cells #[.bool spg, .slice opg lpg cpg, .bool sqg, .slice oqg lqg cqg] 43)).cell? ⟨w1.heap.size, 0, none⟩ = some (.bool nf) := FFf2b.out.cell 0 0 rfl rfl
      have qq1 : ((w2.alloc (.cells #[.bool ng, .slice og lg cg, .slice bg mg dg] 35)).alloc (.cells #[.bool spg, .slice opg lpg cpg, .bool sqg, .slice oqg lqg cqg] 43)).cell? ⟨w1.heap.size, 1, none⟩ = some (.slice of lf cf) := FFf2b.out.cell 0 1 rfl rfl
      have qq2 : ((w2.alloc (.cells #[.bool ng, .slice og lg cg, .slice bg mg dg] 35)).alloc (.cells #[.bool spg, .slice opg lpg cpg, .bool sqg, .slice oqg lqg cqg] 43)).cell? ⟨w1.heap.size, 2, none⟩ = some (.slice bf mf df) := FFf2b.out.cell 0 2 rfl rfl
      have qq3 : ((w2.alloc (.cells #[.bool ng, .slice og lg cg, .slice bg mg dg] 35)).alloc (.cells #[.bool spg, .slice opg lpg cpg, .bool sqg, .slice oqg lqg cqg] 43)).cell? ⟨w1.heap.size + 1, 0, none⟩ = some (.bool spf) := FFf2b.out.cell 1 0 rfl rfl
      have qq4 : ((w2.alloc (.cells #[.bool ng, .slice og lg cg, .slice bg mg dg] 35)).alloc (.cells #[.bool spg, .slice opg lpg cpg, .bool sqg, .slice oqg lqg cqg] 43)).cell? ⟨w1.heap.size + 1, 1, none⟩ = some (.slice opf lpf cpf) := FFf2b.out.cell 1 1 rfl rfl
      have qq5 : ((w2.alloc (.cells #[.bool ng, .slice og lg cg, .slice bg mg dg] 35)).alloc (.cells #[.bool spg, .slice opg lpg cpg, .bool sqg, .slice oqg lqg cqg] 43)).cell? ⟨w1.heap.size + 1, 2, none⟩ = some (.bool sqf) := FFf2b.out.cell 1 2 rfl rfl
      have qq6 : ((w2.alloc (.cells #[.bool ng, .slice og lg cg, .slice bg mg dg] 35)).alloc (.cells #[.bool spg, .slice opg lpg cpg, .bool sqg, .slice oqg lqg cqg] 43)).cell? ⟨w1.heap.size + 1, 3, none⟩ = some (.slice oqf lqf cqf) := FFf2b.out.cell 1 3 rfl rfl
      have qq7 : ((w2.alloc (.cells #[.bool ng, .slice og lg cg, .slice bg mg dg] 35)).alloc (.cells #[.bool spg, .slice opg lpg cpg, .bool sqg, .slice oqg lqg cqg] 43)).cell? ⟨w2.heap.size, 0, none⟩ = some (.bool ng) := FFg2.out.cell 0 0 rfl rfl
      have qq8 : ((w2.alloc (.cells #[.bool ng, .slice og lg cg, .slice bg mg dg] 35)).alloc (.cells #[.bool spg, .slice opg lpg cpg, .bool sqg, .slice oqg lqg cqg] 43)).cell? ⟨w2.heap.size, 1, none⟩ = some (.slice og lg cg) := FFg2.out.cell 0 1 rfl rfl
      have qq9 : ((w2.alloc (.cells #[.bool ng, .slice og lg cg, .slice bg mg dg] 35)).alloc (.cells #[.bool spg, .slice opg lpg cpg, .bool sqg, .slice oqg lqg cqg] 43)).cell? ⟨w2.heap.size, 2, none⟩ = some (.slice bg mg dg) := FFg2.out.cell 0 2 rfl rfl
      have qq10 : ((w2.alloc (.cells #[.bool ng, .slice og lg cg, .slice bg mg dg] 35)).alloc (.cells #[.bool spg, .slice opg lpg cpg, .bool sqg, .slice oqg lqg cqg] 43)).cell? ⟨w2.heap.size + 1, 0, none⟩ = some (.bool spg) := FFg2.out.cell 1 0 rfl rfl
      have qq11 : ((w2.alloc (.cells #[.bool ng, .slice og lg cg, .slice bg mg dg] 35)).alloc (.cells #[.bool spg, .slice opg lpg cpg, .bool sqg, .slice oqg lqg cqg] 43)).cell? ⟨w2.heap.size + 1, 1, none⟩ = some (.slice opg lpg cpg) := FFg2.out.cell 1 1 rfl rfl
      have qq12 : ((w2.alloc (.cells #[.bool ng, .slice og lg cg, .slice bg mg dg] 35)).alloc (.cells #[.bool spg, .slice opg lpg cpg, .bool sqg, .slice oqg lqg cqg] 43)).cell? ⟨w2.heap.size + 1, 2, none⟩ = some (.bool sqg) := FFg2.out.cell 1 2 rfl rfl
      have qq13 : ((w2.alloc (.cells #[.bool ng, .slice og lg cg, .slice bg mg dg] 35)).alloc (.cells #[.bool spg, .slice opg lpg cpg, .bool sqg, .slice oqg lqg cqg] 43)).cell? ⟨w2.heap.size + 1, 3, none⟩ = some (.slice oqg lqg cqg) := FFg2.out.cell 1 3 rfl rfl
      go_wp2_with fail
      refine (ratAdd_any nf ng of bf og bg lf mf lg mg cf df cg dg pf pg qf qg _ HF2b.out HG2.out (by omega) (by omega) (by omega) (by omega)).mono ?_
      rintro e w5 ⟨na, oa, la, ca, ba, ma, da, ea, Pa, Qa, rfl, hla, hma, hz, hb, ht⟩
      clear qq0 qq1 qq2 qq3 qq4 qq5 qq6 qq7 qq8 qq9 qq10 qq11 qq12 qq13
      have FP5a := Lib.hid (FP2b.out.later hb)
      have FFf5a := Lib.hid (FFf2b.out.later hb)
      have FFg5a := Lib.hid (FFg2.out.later hb)
      have HF5a := Lib.hid (HF2b.out.keep hb)
      have HG5a := Lib.hid (HG2.out.keep hb)
      have HFP5a := Lib.hid (HFPx.out.keep hb)
      have HFQ5a := Lib.hid (HFQx.out.keep hb)
      have HGP5a := Lib.hid (HGPx.out.keep hb)
      have HGQ5a := Lib.hid (HGQx.out.keep hb)
      have hf : Fr w5 (w5.alloc (.cells #[.bool na, .slice oa la ca, .slice ba ma da] 35)) [(35, #[.bool na, .slice oa la ca, .slice ba ma da])] := (Fr.nil w5).alloc rfl _ _
      have FP5b := Lib.hid (FP5a.out.later hf.below)
      have FFf5b := Lib.hid (FFf5a.out.later hf.below)
      have FFg5b := Lib.hid (FFg5a.out.later hf.below)
      have HF5b := Lib.hid (HF5a.out.keep hf.below)
      have HG5b := Lib.hid (HG5a.out.keep hf.below)
      have HFP5b := Lib.hid (HFP5a.out.keep hf.below)
      have HFQ5b := Lib.hid (HFQ5a.out.keep hf.below)
      have HGP5b := Lib.hid (HGP5a.out.keep hf.below)
      have HGQ5b := Lib.hid (HGQ5a.out.keep hf.below)
      have FUa5 := Lib.hid hf
      have HA5 := Lib.hid (hz.keep hf.below)
      have TA := Lib.hid ht
      clear hb hz hf ht
      have qq0 : (w5.alloc (.cells #[.bool na, .slice oa la ca, .slice ba ma da] 35)).cell? ⟨w1.heap.size, 0, none⟩ = some (.bool nf) := FFf5b.out.cell 0 0 rfl rfl
      have qq1 : (w5.alloc (.cells #[.bool na, .slice oa la ca, .slice ba ma da] 35)).cell? ⟨w1.heap.size, 1, none⟩ = some (.slice of lf cf) := FFf5b.out.cell 0 1 rfl rfl
      have qq2 : (w5.alloc (.cells #[.bool na, .slice oa la ca, .slice ba ma da] 35)).cell? ⟨w1.heap.size, 2, none⟩ = some (.slice bf mf df) := FFf5b.out.cell 0 2 rfl rfl
      have qq3 : (w5.alloc (.cells #[.bool na, .slice oa la ca, .slice ba ma da] 35)).cell? ⟨w1.heap.size + 1, 0, none⟩ = some (.bool spf) := FFf5b.out.cell 1 0 rfl rfl
      have qq4 : (w5.alloc (.cells #[.bool na, .slice oa la ca, .slice ba ma da] 35)).cell? ⟨w1.heap.size + 1, 1, none⟩ = some (.slice opf lpf cpf) := FFf5b.out.cell 1 1 rfl rfl
      have qq5 : (w5.alloc (.cells #[.bool na, .slice oa la ca, .slice ba ma da] 35)).cell? ⟨w1.heap.size + 1, 2, none⟩ = some (.bool sqf) := FFf5b.out.cell 1 2 rfl rfl
      have qq6 : (w5.alloc (.cells #[.bool na, .slice oa la ca, .slice ba ma da] 35)).cell? ⟨w1.heap.size + 1, 3, none⟩ = some (.slice oqf lqf cqf) := FFf5b.out.cell 1 3 rfl rfl
      have qq7 : (w5.alloc (.cells #[.bool na, .slice oa la ca, .slice ba ma da] 35)).cell? ⟨w2.heap.size, 0, none⟩ = some (.bool ng) := FFg5b.out.cell 0 0 rfl rfl
      have qq8 : (w5.alloc (.cells #[.bool na, .slice oa la ca, .slice ba ma da] 35)).cell? ⟨w2.heap.size, 1, none⟩ = some (.slice og lg cg) := FFg5b.out.cell 0 1 rfl rfl
      have qq9 : (w5.alloc (.cells #[.bool na, .slice oa la ca, .slice ba ma da] 35)).cell? ⟨w2.heap.size, 2, none⟩ = some (.slice bg mg dg) := FFg5b.out.cell 0 2 rfl rfl
      have qq10 : (w5.alloc (.cells #[.bool na, .slice oa la ca, .slice ba ma da] 35)).cell? ⟨w2.heap.size + 1, 0, none⟩ = some (.bool spg) := FFg5b.out.cell 1 0 rfl rfl
      have qq11 : (w5.alloc (.cells #[.bool na, .slice oa la ca, .slice ba ma da] 35)).cell? ⟨w2.heap.size + 1, 1, none⟩ = some (.slice opg lpg cpg) := FFg5b.out.cell 1 1 rfl rfl
      have qq12 : (w5.alloc (.cells #[.bool na, .slice oa la ca, .slice ba ma da] 35)).cell? ⟨w2.heap.size + 1, 2, none⟩ = some (.bool sqg) := FFg5b.out.cell 1 2 rfl rfl
      have qq13 : (w5.alloc (.cells #[.bool na, .slice oa la ca, .slice ba ma da] 35)).cell? ⟨w2.heap.size + 1, 3, none⟩ = some (.slice oqg lqg cqg) := FFg5b.out.cell 1 3 rfl rfl
      go_wp2_with fail
      refine (ratSub_any nf ng of bf og bg lf mf lg mg cf df cg dg pf pg qf qg _ HF5b.out HG5b.out (by omega) (by omega) (by omega) (by omega)).mono ?_
      rintro e w6 ⟨nb, ob, lb, cb, bb, mb, db, eb, Pb, Qb, rfl, hlb, hmb, hz, hb, ht⟩
      clear qq0 qq1 qq2 qq3 qq4 qq5 qq6 qq7 qq8 qq9 qq10 qq11 qq12 qq13
      have FP6a := Lib.hid (FP5b.out.later hb)
      have FFf6a := Lib.hid (FFf5b.out.later hb)
      have FFg6a := Lib.hid (FFg5b.out.later hb)
      have FUa6a := Lib.hid (FUa5.out.later hb)
      have HF6a := Lib.hid (HF5b.out.keep hb)
      have HG6a := Lib.hid (HG5b.out.keep hb)
      have HFP6a := Lib.hid (HFP5b.out.keep hb)
      have HFQ6a := Lib.hid (HFQ5b.out.keep hb)
      have HGP6a := Lib.hid (HGP5b.out.keep hb)
      have HGQ6a := Lib.hid (HGQ5b.out.keep hb)
      have HA6a := Lib.hid (HA5.out.keep hb)
      have hf : Fr w6 (w6.alloc (.cells #[.bool nb, .slice ob lb cb, .slice bb mb db] 35)) [(35, #[.bool nb, .slice ob lb cb, .slice bb mb db])] := (Fr.nil w6).alloc rfl _ _
      have FP6b := Lib.hid (FP6a.out.later hf.below)
      have FFf6b := Lib.hid (FFf6a.out.later hf.below)
      have FFg6b := Lib.hid (FFg6a.out.later hf.below)
      have FUa6b := Lib.hid (FUa6a.out.later hf.below)
      have HF6b := Lib.hid (HF6a.out.keep hf.below)
      have HG6b := Lib.hid (HG6a.out.keep hf.below)
      have HFP6b := Lib.hid (HFP6a.out.keep hf.below)
      have HFQ6b := Lib.hid (HFQ6a.out.keep hf.below)
      have HGP6b := Lib.hid (HGP6a.out.keep hf.below)
      have HGQ6b := Lib.hid (HGQ6a.out.keep hf.below)
      have HA6b := Lib.hid (HA6a.out.keep hf.below)
      have FUb6 := Lib.hid hf
      have HB6 := Lib.hid (hz.keep hf.below)
      have TB := Lib.hid ht
      clear hb hz hf ht
      have qq0 : (w6.alloc (.cells #[.bool nb, .slice ob lb cb, .slice bb mb db] 35)).cell? ⟨w1.heap.size, 0, none⟩ = some (.bool nf) := FFf6b.out.cell 0 0 rfl rfl
      have qq1 : (w6.alloc (.cells #[.bool nb, .slice ob lb cb, .slice bb mb db] 35)).cell? ⟨w1.heap.size, 1, none⟩ = some (.slice of lf cf) := FFf6b.out.cell 0 1 rfl rfl
      have qq2 : (w6.alloc (.cells #[.bool nb, .slice ob lb cb, .slice bb mb db] 35)).cell? ⟨w1.heap.size, 2, none⟩ = some (.slice bf mf df) := FFf6b.out.cell 0 2 rfl rfl
      have qq3 : (w6.alloc (.cells #[.bool nb, .slice ob lb cb, .slice bb mb db] 35)).cell? ⟨w1.heap.size + 1, 0, none⟩ = some (.bool spf) := FFf6b.out.cell 1 0 rfl rfl
      have qq4 : (w6.alloc (.cells #[.bool nb, .slice ob lb cb, .slice bb mb db] 35)).cell? ⟨w1.heap.size + 1, 1, none⟩ = some (.slice opf lpf cpf) := FFf6b.out.cell 1 1 rfl rfl
      have qq5 : (w6.alloc (.cells #[.bool nb, .slice ob lb cb, .slice bb mb db] 35)).cell? ⟨w1.heap.size + 1, 2, none⟩ = some (.bool sqf) := FFf6b.out.cell 1 2 rfl rfl
      have qq6 : (w6.alloc (.cells #[.bool nb, .slice ob lb cb, .slice bb mb db] 35)).cell? ⟨w1.heap.size + 1, 3, none⟩ = some (.slice oqf lqf cqf) := FFf6b.out.cell 1 3 rfl rfl
      have qq7 : (w6.alloc (.cells #[.bool nb, .slice ob lb cb, .slice bb mb db] 35)).cell? ⟨w2.heap.size, 0, none⟩ = some (.bool ng) := FFg6b.out.cell 0 0 rfl rfl
      have qq8 : (w6.alloc (.cells #[.bool nb, .slice ob lb cb, .slice bb mb db] 35)).cell? ⟨w2.heap.size, 1, none⟩ = some (.slice og lg cg) := FFg6b.out.cell 0 1 rfl rfl
      have qq9 : (w6.alloc (.cells #[.bool nb, .slice ob lb cb, .slice bb mb db] 35)).cell? ⟨w2.heap.size, 2, none⟩ = some (.slice bg mg dg) := FFg6b.out.cell 0 2 rfl rfl
      have qq10 : (w6.alloc (.cells #[.bool nb, .slice ob lb cb, .slice bb mb db] 35)).cell? ⟨w2.heap.size + 1, 0, none⟩ = some (.bool spg) := FFg6b.out.cell 1 0 rfl rfl
      have qq11 : (w6.alloc (.cells #[.bool nb, .slice ob lb cb, .slice bb mb db] 35)).cell? ⟨w2.heap.size + 1, 1, none⟩ = some (.slice opg lpg cpg) := FFg6b.out.cell 1 1 rfl rfl
      have qq12 : (w6.alloc (.cells #[.bool nb, .slice ob lb cb, .slice bb mb db] 35)).cell? ⟨w2.heap.size + 1, 2, none⟩ = some (.bool sqg) := FFg6b.out.cell 1 2 rfl rfl
      have qq13 : (w6.alloc (.cells #[.bool nb, .slice ob lb cb, .slice bb mb db] 35)).cell? ⟨w2.heap.size + 1, 3, none⟩ = some (.slice oqg lqg cqg) := FFg6b.out.cell 1 3 rfl rfl
      go_wp2_with fail
      refine (ratMul_any nf ng of bf og bg lf mf lg mg cf df cg dg pf pg qf qg _ HF6b.out HG6b.out (by omega) (by omega) (by omega) (by omega)).mono ?_
      rintro e w7 ⟨nm, om, lm, cm, bm, mm, dm, em, Pm, Qm, rfl, hlm, hmm, hz, hb, ht⟩
      clear qq0 qq1 qq2 qq3 qq4 qq5 qq6 qq7 qq8 qq9 qq10 qq11 qq12 qq13
      have FP7a := Lib.hid (FP6b.out.later hb)
      have FFf7a := Lib.hid (FFf6b.out.later hb)
      have FFg7a := Lib.hid (FFg6b.out.later hb)
      have FUa7a := Lib.hid (FUa6b.out.later hb)
      have FUb7a := Lib.hid (FUb6.out.later hb)
      have HF7a := Lib.hid (HF6b.out.keep hb)
      have HG7a := Lib.hid (HG6b.out.keep hb)
      have HFP7a := Lib.hid (HFP6b.out.keep hb)
      have HFQ7a := Lib.hid (HFQ6b.out.keep hb)
      have HGP7a := Lib.hid (HGP6b.out.keep hb)
      have HGQ7a := Lib.hid (HGQ6b.out.keep hb)
      have HA7a := Lib.hid (HA6b.out.keep hb)
      have HB7a := Lib.hid (HB6.out.keep hb)
      have hf : Fr w7 (w7.alloc (.cells #[.bool nm, .slice om lm cm, .slice bm mm dm] 35)) [(35, #[.bool nm, .slice om lm cm, .slice bm mm dm])] := (Fr.nil w7).alloc rfl _ _
      have FP7b := Lib.hid (FP7a.out.later hf.below)
      have FFf7b := Lib.hid (FFf7a.out.later hf.below)
      have FFg7b := Lib.hid (FFg7a.out.later hf.below)
      have FUa7b := Lib.hid (FUa7a.out.later hf.below)
      have FUb7b := Lib.hid (FUb7a.out.later hf.below)
      have HF7b := Lib.hid (HF7a.out.keep hf.below)
      have HG7b := Lib.hid (HG7a.out.keep hf.below)
      have HFP7b := Lib.hid (HFP7a.out.keep hf.below)
      have HFQ7b := Lib.hid (HFQ7a.out.keep hf.below)
      have HGP7b := Lib.hid (HGP7a.out.keep hf.below)
      have HGQ7b := Lib.hid (HGQ7a.out.keep hf.below)
      have HA7b := Lib.hid (HA7a.out.keep hf.below)
      have HB7b := Lib.hid (HB7a.out.keep hf.below)
      have FUm7 := Lib.hid hf
      have HM7 := Lib.hid (hz.keep hf.below)
      have TM := Lib.hid ht
      clear hb hz hf ht
      have qq0 : (w7.alloc (.cells #[.bool nm, .slice om lm cm, .slice bm mm dm] 35)).cell? ⟨w1.heap.size, 0, none⟩ = some (.bool nf) := FFf7b.out.cell 0 0 rfl rfl
      have qq1 : (w7.alloc (.cells #[.bool nm, .slice om lm cm, .slice bm mm dm] 35)).cell? ⟨w1.heap.size, 1, none⟩ = some (.slice of lf cf) := FFf7b.out.cell 0 1 rfl rfl
      have qq2 : (w7.alloc (.cells #[.bool nm, .slice om lm cm, .slice bm mm dm] 35)).cell? ⟨w1.heap.size, 2, none⟩ = some (.slice bf mf df) := FFf7b.out.cell 0 2 rfl rfl
      have qq3 : (w7.alloc (.cells #[.bool nm, .slice om lm cm, .slice bm mm dm] 35)).cell? ⟨w1.heap.size + 1, 0, none⟩ = some (.bool spf) := FFf7b.out.cell 1 0 rfl rfl
      have qq4 : (w7.alloc (.cells #[.bool nm, .slice om lm cm, .slice bm mm dm] 35)).cell? ⟨w1.heap.size + 1, 1, none⟩ = some (.slice opf lpf cpf) := FFf7b.out.cell 1 1 rfl rfl
      have qq5 : (w7.alloc (.cells #[.bool nm, .slice om lm cm, .slice bm mm dm] 35)).cell? ⟨w1.heap.size + 1, 2, none⟩ = some (.bool sqf) := FFf7b.out.cell 1 2 rfl rfl
      have qq6 : (w7.alloc (.cells #[.bool nm, .slice om lm cm, .slice bm mm dm] 35)).cell? ⟨w1.heap.size + 1, 3, none⟩ = some (.slice oqf lqf cqf) := FFf7b.out.cell 1 3 rfl rfl
      have qq7 : (w7.alloc (.cells #[.bool nm, .slice om lm cm, .slice bm mm dm] 35)).cell? ⟨w2.heap.size, 0, none⟩ = some (.bool ng) := FFg7b.out.cell 0 0 rfl rfl
      have qq8 : (w7.alloc (.cells #[.bool nm, .slice om lm cm, .slice bm mm dm] 35)).cell? ⟨w2.heap.size, 1, none⟩ = some (.slice og lg cg) := FFg7b.out.cell 0 1 rfl rfl
      have qq9 : (w7.alloc (.cells #[.bool nm, .slice om lm cm, .slice bm mm dm] 35)).cell? ⟨w2.heap.size, 2, none⟩ = some (.slice bg mg dg) := FFg7b.out.cell 0 2 rfl rfl
      have qq10 : (w7.alloc (.cells #[.bool nm, .slice om lm cm, .slice bm mm dm] 35)).cell? ⟨w2.heap.size + 1, 0, none⟩ = some (.bool spg) := FFg7b.out.cell 1 0 rfl rfl
      have qq11 : (w7.alloc (.cells #[.bool nm, .slice om lm cm, .slice bm mm dm] 35)).cell? ⟨w2.heap.size + 1, 1, none⟩ = some (.slice opg lpg cpg) := FFg7b.out.cell 1 1 rfl rfl
      have qq12 : (w7.alloc (.cells #[.bool nm, .slice om lm cm, .slice bm mm dm] 35)).cell? ⟨w2.heap.size + 1, 2, none⟩ = some (.bool sqg) := FFg7b.out.cell 1 2 rfl rfl
      have qq13 : (w7.alloc (.cells #[.bool nm, .slice om lm cm, .slice bm mm dm] 35)).cell? ⟨w2.heap.size + 1, 3, none⟩ = some (.slice oqg lqg cqg) := FFg7b.out.cell 1 3 rfl rfl
      go_wp2_with fail
      refine (ratQuo_all nf ng of bf og bg lf mf lg mg cf df cg dg pf pg qf qg _ HF7b.out HG7b.out (by omega) (by omega) (by omega) (by omega)).mono ?_
      rintro e w8 ⟨nv, ov, lv, cv, bv, mv, dv, ev, Pv, Qv, rfl, hlv, hmv, hz, hb, ht, ht0⟩
      clear qq0 qq1 qq2 qq3 qq4 qq5 qq6 qq7 qq8 qq9 qq10 qq11 qq12 qq13
      have FP8a := Lib.hid (FP7b.out.later hb)
      have FFf8a := Lib.hid (FFf7b.out.later hb)
      have FFg8a := Lib.hid (FFg7b.out.later hb)
      have FUa8a := Lib.hid (FUa7b.out.later hb)
      have FUb8a := Lib.hid (FUb7b.out.later hb)
      have FUm8a := Lib.hid (FUm7.out.later hb)
      have HF8a := Lib.hid (HF7b.out.keep hb)
      have HG8a := Lib.hid (HG7b.out.keep hb)
      have HFP8a := Lib.hid (HFP7b.out.keep hb)
      have HFQ8a := Lib.hid (HFQ7b.out.keep hb)
      have HGP8a := Lib.hid (HGP7b.out.keep hb)
      have HGQ8a := Lib.hid (HGQ7b.out.keep hb)
      have HA8a := Lib.hid (HA7b.out.keep hb)
      have HB8a := Lib.hid (HB7b.out.keep hb)
      have HM8a := Lib.hid (HM7.out.keep hb)
      have hf : Fr w8 (w8.alloc (.cells #[.bool nv, .slice ov lv cv, .slice bv mv dv] 35)) [(35, #[.bool nv, .slice ov lv cv, .slice bv mv dv])] := (Fr.nil w8).alloc rfl _ _
      have FP8b := Lib.hid (FP8a.out.later hf.below)
      have FFf8b := Lib.hid (FFf8a.out.later hf.below)
      have FFg8b := Lib.hid (FFg8a.out.later hf.below)
      have FUa8b := Lib.hid (FUa8a.out.later hf.below)
      have FUb8b := Lib.hid (FUb8a.out.later hf.below)
      have FUm8b := Lib.hid (FUm8a.out.later hf.below)
      have HF8b := Lib.hid (HF8a.out.keep hf.below)
      have HG8b := Lib.hid (HG8a.out.keep hf.below)
      have HFP8b := Lib.hid (HFP8a.out.keep hf.below)
      have HFQ8b := Lib.hid (HFQ8a.out.keep hf.below)
      have HGP8b := Lib.hid (HGP8a.out.keep hf.below)
      have HGQ8b := Lib.hid (HGQ8a.out.keep hf.below)
      have HA8b := Lib.hid (HA8a.out.keep hf.below)
      have HB8b := Lib.hid (HB8a.out.keep hf.below)
      have HM8b := Lib.hid (HM8a.out.keep hf.below)
      have FUv8 := Lib.hid hf
      have HV8 := Lib.hid (hz.keep hf.below)
      have TV := Lib.hid ht
      have TZV := Lib.hid ht0
      clear hb hz hf ht ht0
      go_upto_region 9 with fail
      obtain ⟨V8, hV⟩ : ∃ V, V = (w8.alloc (.cells #[.bool nv, .slice ov lv cv, .slice bv mv dv] 35)) := ⟨_, rfl⟩
      rw [← hV] at FP8b FFf8b FFg8b FUa8b FUb8b FUm8b FUv8 HF8b HG8b HFP8b HFQ8b HGP8b HGQ8b HA8b HB8b HM8b HV8 ⊢
      clear hV
      obtain ⟨t, ht⟩ : ∃ t, t = (pf * (qg : Int) - pg * (qf : Int)).sign := ⟨_, rfl⟩
      have HT := Lib.hid ht
      clear ht
      have hqf0 : (qf : Int) ≠ 0 := by omega
      have hqg0 : (qg : Int) ≠ 0 := by omega
      have qq0 : V8.cell? ⟨w1.heap.size, 0, none⟩ = some (.bool nf) := FFf8b.out.cell 0 0 rfl rfl
      have qq1 : V8.cell? ⟨w1.heap.size, 1, none⟩ = some (.slice of lf cf) := FFf8b.out.cell 0 1 rfl rfl
      have qq2 : V8.cell? ⟨w1.heap.size, 2, none⟩ = some (.slice bf mf df) := FFf8b.out.cell 0 2 rfl rfl
      have qq3 : V8.cell? ⟨w1.heap.size + 1, 0, none⟩ = some (.bool spf) := FFf8b.out.cell 1 0 rfl rfl
      have qq4 : V8.cell? ⟨w1.heap.size + 1, 1, none⟩ = some (.slice opf lpf cpf) := FFf8b.out.cell 1 1 rfl rfl
      have qq5 : V8.cell? ⟨w1.heap.size + 1, 2, none⟩ = some (.bool sqf) := FFf8b.out.cell 1 2 rfl rfl
      have qq6 : V8.cell? ⟨w1.heap.size + 1, 3, none⟩ = some (.slice oqf lqf cqf) := FFf8b.out.cell 1 3 rfl rfl
      have qq7 : V8.cell? ⟨w2.heap.size, 0, none⟩ = some (.bool ng) := FFg8b.out.cell 0 0 rfl rfl
      have qq8 : V8.cell? ⟨w2.heap.size, 1, none⟩ = some (.slice og lg cg) := FFg8b.out.cell 0 1 rfl rfl
      have qq9 : V8.cell? ⟨w2.heap.size, 2, none⟩ = some (.slice bg mg dg) := FFg8b.out.cell 0 2 rfl rfl
      have qq10 : V8.cell? ⟨w2.heap.size + 1, 0, none⟩ = some (.bool spg) := FFg8b.out.cell 1 0 rfl rfl
      have qq11 : V8.cell? ⟨w2.heap.size + 1, 1, none⟩ = some (.slice opg lpg cpg) := FFg8b.out.cell 1 1 rfl rfl
      have qq12 : V8.cell? ⟨w2.heap.size + 1, 2, none⟩ = some (.bool sqg) := FFg8b.out.cell 1 2 rfl rfl
      have qq13 : V8.cell? ⟨w2.heap.size + 1, 3, none⟩ = some (.slice oqg lqg cqg) := FFg8b.out.cell 1 3 rfl rfl
      have qq14 : V8.cell? ⟨w5.heap.size, 0, none⟩ = some (.bool na) := FUa8b.out.cell 0 0 rfl rfl
      have qq15 : V8.cell? ⟨w5.heap.size, 1, none⟩ = some (.slice oa la ca) := FUa8b.out.cell 0 1 rfl rfl
      have qq16 : V8.cell? ⟨w5.heap.size, 2, none⟩ = some (.slice ba ma da) := FUa8b.out.cell 0 2 rfl rfl
      have qq17 : V8.cell? ⟨w6.heap.size, 0, none⟩ = some (.bool nb) := FUb8b.out.cell 0 0 rfl rfl
      have qq18 : V8.cell? ⟨w6.heap.size, 1, none⟩ = some (.slice ob lb cb) := FUb8b.out.cell 0 1 rfl rfl
      have qq19 : V8.cell? ⟨w6.heap.size, 2, none⟩ = some (.slice bb mb db) := FUb8b.out.cell 0 2 rfl rfl
      have qq20 : V8.cell? ⟨w7.heap.size, 0, none⟩ = some (.bool nm) := FUm8b.out.cell 0 0 rfl rfl
      have qq21 : V8.cell? ⟨w7.heap.size, 1, none⟩ = some (.slice om lm cm) := FUm8b.out.cell 0 1 rfl rfl
      have qq22 : V8.cell? ⟨w7.heap.size, 2, none⟩ = some (.slice bm mm dm) := FUm8b.out.cell 0 2 rfl rfl
      go_region_held3 (fun w' => w'.cell? ⟨w1.heap.size, 0, none⟩ = some (.bool nf) ∧ w'.cell? ⟨w1.heap.size, 1, none⟩ = some (.slice of lf cf) ∧ w'.cell? ⟨w1.heap.size, 2, none⟩ = some (.slice bf mf df) ∧ w'.cell? ⟨w1.heap.size + 1, 0, none⟩ = some (.bool spf) ∧ w'.cell? ⟨w1.heap.size + 1, 1, none⟩ = some (.slice opf lpf cpf) ∧ w'.cell? ⟨w1.heap.size + 1, 2, none⟩ = some (.bool sqf) ∧ w'.cell? ⟨w1.heap.size + 1, 3, none⟩ = some (.slice oqf lqf cqf) ∧ w'.cell? ⟨w2.heap.size, 0, none⟩ = some (.bool ng) ∧ w'.cell? ⟨w2.heap.size, 1, none⟩ = some (.slice og lg cg) ∧ w'.cell? ⟨w2.heap.size, 2, none⟩ = some (.slice bg mg dg) ∧ w'.cell? ⟨w2.heap.size + 1, 0, none⟩ = some (.bool spg) ∧ w'.cell? ⟨w2.heap.size + 1, 1, none⟩ = some (.slice opg lpg cpg) ∧ w'.cell? ⟨w2.heap.size + 1, 2, none⟩ = some (.bool sqg) ∧ w'.cell? ⟨w2.heap.size + 1, 3, none⟩ = some (.slice oqg lqg cqg) ∧ w'.cell? ⟨w5.heap.size, 0, none⟩ = some (.bool na) ∧ w'.cell? ⟨w5.heap.size, 1, none⟩ = some (.slice oa la ca) ∧ w'.cell? ⟨w5.heap.size, 2, none⟩ = some (.slice ba ma da) ∧ w'.cell? ⟨w6.heap.size, 0, none⟩ = some (.bool nb) ∧ w'.cell? ⟨w6.heap.size, 1, none⟩ = some (.slice ob lb cb) ∧ w'.cell? ⟨w6.heap.size, 2, none⟩ = some (.slice bb mb db) ∧ w'.cell? ⟨w7.heap.size, 0, none⟩ = some (.bool nm) ∧ w'.cell? ⟨w7.heap.size, 1, none⟩ = some (.slice om lm cm) ∧ w'.cell? ⟨w7.heap.size, 2, none⟩ = some (.slice bm mm dm)) (go_keep)
        (first | (go_at_call 19; refine (same_any _ _ _ _ _ _ _ _ _ _ _ _ _ _ _ (lowP (pf * pg) ((qf : Int) * (qg : Int))) em Pm (lowQ (pf * pg) ((qf : Int) * (qg : Int))) Qm _ HMr6.out hlm hmm HK30.out HL30.out (by omega) (by omega) TM.out).mono ?_; rintro e rw7 ⟨rfl, hb⟩; have hbb := hb; have FPr7 := Lib.hid (FPr6.out.later hbb); have FFfr7 := Lib.hid (FFfr6.out.later hbb); have FFgr7 := Lib.hid (FFgr6.out.later hbb); have FUar7 := Lib.hid (FUar6.out.later hbb); have FUbr7 := Lib.hid (FUbr6.out.later hbb); have FUmr7 := Lib.hid (FUmr6.out.later hbb); have FUvr7 := Lib.hid (FUvr6.out.later hbb); have HFr7 := Lib.hid (HFr6.out.keep hbb); have HGr7 := Lib.hid (HGr6.out.keep hbb); have HFPr7 := Lib.hid (HFPr6.out.keep hbb); have HFQr7 := Lib.hid (HFQr6.out.keep hbb); have HGPr7 := Lib.hid (HGPr6.out.keep hbb); have HGQr7 := Lib.hid (HGQr6.out.keep hbb); have HAr7 := Lib.hid (HAr6.out.keep hbb); have HBr7 := Lib.hid (HBr6.out.keep hbb); have HMr7 := Lib.hid (HMr6.out.keep hbb); have HVr7 := Lib.hid (HVr6.out.keep hbb); have HK1r7 := Lib.hid (HK1r6.out.keep hbb); have HL1r7 := Lib.hid (HL1r6.out.keep hbb); have HK2r7 := Lib.hid (HK2r6.out.keep hbb); have HL2r7 := Lib.hid (HL2r6.out.keep hbb); have HK3r7 := Lib.hid (HK30.out.keep hbb); have HL3r7 := Lib.hid (HL30.out.keep hbb); clear hb hbb; have r7c0 : rw7.cell? ⟨w1.heap.size, 0, none⟩ = some (.bool nf) := FFfr7.out.cell 0 0 rfl rfl; have r7c1 : rw7.cell? ⟨w1.heap.size, 1, none⟩ = some (.slice of lf cf) := FFfr7.out.cell 0 1 rfl rfl; have r7c2 : rw7.cell? ⟨w1.heap.size, 2, none⟩ = some (.slice bf mf df) := FFfr7.out.cell 0 2 rfl rfl; have r7c3 : rw7.cell? ⟨w1.heap.size + 1, 0, none⟩ = some (.bool spf) := FFfr7.out.cell 1 0 rfl rfl; have r7c4 : rw7.cell? ⟨w1.heap.size + 1, 1, none⟩ = some (.slice opf lpf cpf) := FFfr7.out.cell 1 1 rfl rfl; have r7c5 : rw7.cell? ⟨w1.heap.size + 1, 2, none⟩ = some (.bool sqf) := FFfr7.out.cell 1 2 rfl rfl; have r7c6 : rw7.cell? ⟨w1.heap.size + 1, 3, none⟩ = some (.slice oqf lqf cqf) := FFfr7.out.cell 1 3 rfl rfl; have r7c7 : rw7.cell? ⟨w2.heap.size, 0, none⟩ = some (.bool ng) := FFgr7.out.cell 0 0 rfl rfl; have r7c8 : rw7.cell? ⟨w2.heap.size, 1, none⟩ = some (.slice og lg cg) := FFgr7.out.cell 0 1 rfl rfl; have r7c9 : rw7.cell? ⟨w2.heap.size, 2, none⟩ = some (.slice bg mg dg) := FFgr7.out.cell 0 2 rfl rfl; have r7c10 : rw7.cell? ⟨w2.heap.size + 1, 0, none⟩ = some (.bool spg) := FFgr7.out.cell 1 0 rfl rfl; have r7c11 : rw7.cell? ⟨w2.heap.size + 1, 1, none⟩ = some (.slice opg lpg cpg) := FFgr7.out.cell 1 1 rfl rfl; have r7c12 : rw7.cell? ⟨w2.heap.size + 1, 2, none⟩ = some (.bool sqg) := FFgr7.out.cell 1 2 rfl rfl; have r7c13 : rw7.cell? ⟨w2.heap.size + 1, 3, none⟩ = some (.slice oqg lqg cqg) := FFgr7.out.cell 1 3 rfl rfl; have r7c14 : rw7.cell? ⟨w5.heap.size, 0, none⟩ = some (.bool na) := FUar7.out.cell 0 0 rfl rfl; have r7c15 : rw7.cell? ⟨w5.heap.size, 1, none⟩ = some (.slice oa la ca) := FUar7.out.cell 0 1 rfl rfl; have r7c16 : rw7.cell? ⟨w5.heap.size, 2, none⟩ = some (.slice ba ma da) := FUar7.out.cell 0 2 rfl rfl; have r7c17 : rw7.cell? ⟨w6.heap.size, 0, none⟩ = some (.bool nb) := FUbr7.out.cell 0 0 rfl rfl; have r7c18 : rw7.cell? ⟨w6.heap.size, 1, none⟩ = some (.slice ob lb cb) := FUbr7.out.cell 0 1 rfl rfl; have r7c19 : rw7.cell? ⟨w6.heap.size, 2, none⟩ = some (.slice bb mb db) := FUbr7.out.cell 0 2 rfl rfl; have r7c20 : rw7.cell? ⟨w7.heap.size, 0, none⟩ = some (.bool nm) := FUmr7.out.cell 0 0 rfl rfl; have r7c21 : rw7.cell? ⟨w7.heap.size, 1, none⟩ = some (.slice om lm cm) := FUmr7.out.cell 0 1 rfl rfl; have r7c22 : rw7.cell? ⟨w7.heap.size, 2, none⟩ = some (.slice bm mm dm) := FUmr7.out.cell 0 2 rfl rfl) | (go_at_call 40; refine (refMul_any spf sqf spg sqg opf oqf opg oqg lpf lqf lpg lqg cpf cqf cpg cqg pf (qf : Int) pg (qg : Int) _ HFPr5.out HFQr5.out HGPr5.out HGQr5.out (by omega) (by omega) (by omega) (by omega) hqf0 hqg0).mono ?_; rintro e rw6 ⟨s3, u3, k3, d3, t3, v3, j3, h3, rfl, hB3, hC3, _, _, _, _, hz, hy, hb⟩; have hbb := hb; have FPr6 := Lib.hid (FPr5.out.later hbb); have FFfr6 := Lib.hid (FFfr5.out.later hbb); have FFgr6 := Lib.hid (FFgr5.out.later hbb); have FUar6 := Lib.hid (FUar5.out.later hbb); have FUbr6 := Lib.hid (FUbr5.out.later hbb); have FUmr6 := Lib.hid (FUmr5.out.later hbb); have FUvr6 := Lib.hid (FUvr5.out.later hbb); have HFr6 := Lib.hid (HFr5.out.keep hbb); have HGr6 := Lib.hid (HGr5.out.keep hbb); have HFPr6 := Lib.hid (HFPr5.out.keep hbb); have HFQr6 := Lib.hid (HFQr5.out.keep hbb); have HGPr6 := Lib.hid (HGPr5.out.keep hbb); have HGQr6 := Lib.hid (HGQr5.out.keep hbb); have HAr6 := Lib.hid (HAr5.out.keep hbb); have HBr6 := Lib.hid (HBr5.out.keep hbb); have HMr6 := Lib.hid (HMr5.out.keep hbb); have HVr6 := Lib.hid (HVr5.out.keep hbb); have HK1r6 := Lib.hid (HK1r5.out.keep hbb); have HL1r6 := Lib.hid (HL1r5.out.keep hbb); have HK2r6 := Lib.hid (HK2r5.out.keep hbb); have HL2r6 := Lib.hid (HL2r5.out.keep hbb); have HK30 := Lib.hid hz; have HL30 := Lib.hid hy; clear hz hy; clear hb hbb; have r6c0 : rw6.cell? ⟨w1.heap.size, 0, none⟩ = some (.bool nf) := FFfr6.out.cell 0 0 rfl rfl; have r6c1 : rw6.cell? ⟨w1.heap.size, 1, none⟩ = some (.slice of lf cf) := FFfr6.out.cell 0 1 rfl rfl; have r6c2 : rw6.cell? ⟨w1.heap.size, 2, none⟩ = some (.slice bf mf df) := FFfr6.out.cell 0 2 rfl rfl; have r6c3 : rw6.cell? ⟨w1.heap.size + 1, 0, none⟩ = some (.bool spf) := FFfr6.out.cell 1 0 rfl rfl; have r6c4 : rw6.cell? ⟨w1.heap.size + 1, 1, none⟩ = some (.slice opf lpf cpf) := FFfr6.out.cell 1 1 rfl rfl; have r6c5 : rw6.cell? ⟨w1.heap.size + 1, 2, none⟩ = some (.bool sqf) := FFfr6.out.cell 1 2 rfl rfl; have r6c6 : rw6.cell? ⟨w1.heap.size + 1, 3, none⟩ = some (.slice oqf lqf cqf) := FFfr6.out.cell 1 3 rfl rfl; have r6c7 : rw6.cell? ⟨w2.heap.size, 0, none⟩ = some (.bool ng) := FFgr6.out.cell 0 0 rfl rfl; have r6c8 : rw6.cell? ⟨w2.heap.size, 1, none⟩ = some (.slice og lg cg) := FFgr6.out.cell 0 1 rfl rfl; have r6c9 : rw6.cell? ⟨w2.heap.size, 2, none⟩ = some (.slice bg mg dg) := FFgr6.out.cell 0 2 rfl rfl; have r6c10 : rw6.cell? ⟨w2.heap.size + 1, 0, none⟩ = some (.bool spg) := FFgr6.out.cell 1 0 rfl rfl; have r6c11 : rw6.cell? ⟨w2.heap.size + 1, 1, none⟩ = some (.slice opg lpg cpg) := FFgr6.out.cell 1 1 rfl rfl; have r6c12 : rw6.cell? ⟨w2.heap.size + 1, 2, none⟩ = some (.bool sqg) := FFgr6.out.cell 1 2 rfl rfl; have r6c13 : rw6.cell? ⟨w2.heap.size + 1, 3, none⟩ = some (.slice oqg lqg cqg) := FFgr6.out.cell 1 3 rfl rfl; have r6c14 : rw6.cell? ⟨w5.heap.size, 0, none⟩ = some (.bool na) := FUar6.out.cell 0 0 rfl rfl; have r6c15 : rw6.cell? ⟨w5.heap.size, 1, none⟩ = some (.slice oa la ca) := FUar6.out.cell 0 1 rfl rfl; have r6c16 : rw6.cell? ⟨w5.heap.size, 2, none⟩ = some (.slice ba ma da) := FUar6.out.cell 0 2 rfl rfl; have r6c17 : rw6.cell? ⟨w6.heap.size, 0, none⟩ = some (.bool nb) := FUbr6.out.cell 0 0 rfl rfl; have r6c18 : rw6.cell? ⟨w6.heap.size, 1, none⟩ = some (.slice ob lb cb) := FUbr6.out.cell 0 1 rfl rfl; have r6c19 : rw6.cell? ⟨w6.heap.size, 2, none⟩ = some (.slice bb mb db) := FUbr6.out.cell 0 2 rfl rfl; have r6c20 : rw6.cell? ⟨w7.heap.size, 0, none⟩ = some (.bool nm) := FUmr6.out.cell 0 0 rfl rfl; have r6c21 : rw6.cell? ⟨w7.heap.size, 1, none⟩ = some (.slice om lm cm) := FUmr6.out.cell 0 1 rfl rfl; have r6c22 : rw6.cell? ⟨w7.heap.size, 2, none⟩ = some (.slice bm mm dm) := FUmr6.out.cell 0 2 rfl rfl) | (go_at_call 19; refine (same_any _ _ _ _ _ _ _ _ _ _ _ _ _ _ _ (lowP (pf * (qg : Int) - pg * (qf : Int)) ((qf : Int) * (qg : Int))) eb Pb (lowQ (pf * (qg : Int) - pg * (qf : Int)) ((qf : Int) * (qg : Int))) Qb _ HBr4.out hlb hmb HK20.out HL20.out (by omega) (by omega) TB.out).mono ?_; rintro e rw5 ⟨rfl, hb⟩; have hbb := hb; have FPr5 := Lib.hid (FPr4.out.later hbb); have FFfr5 := Lib.hid (FFfr4.out.later hbb); have FFgr5 := Lib.hid (FFgr4.out.later hbb); have FUar5 := Lib.hid (FUar4.out.later hbb); have FUbr5 := Lib.hid (FUbr4.out.later hbb); have FUmr5 := Lib.hid (FUmr4.out.later hbb); have FUvr5 := Lib.hid (FUvr4.out.later hbb); have HFr5 := Lib.hid (HFr4.out.keep hbb); have HGr5 := Lib.hid (HGr4.out.keep hbb); have HFPr5 := Lib.hid (HFPr4.out.keep hbb); have HFQr5 := Lib.hid (HFQr4.out.keep hbb); have HGPr5 := Lib.hid (HGPr4.out.keep hbb); have HGQr5 := Lib.hid (HGQr4.out.keep hbb); have HAr5 := Lib.hid (HAr4.out.keep hbb); have HBr5 := Lib.hid (HBr4.out.keep hbb); have HMr5 := Lib.hid (HMr4.out.keep hbb); have HVr5 := Lib.hid (HVr4.out.keep hbb); have HK1r5 := Lib.hid (HK1r4.out.keep hbb); have HL1r5 := Lib.hid (HL1r4.out.keep hbb); have HK2r5 := Lib.hid (HK20.out.keep hbb); have HL2r5 := Lib.hid (HL20.out.keep hbb); clear hb hbb; have r5c0 : rw5.cell? ⟨w1.heap.size, 0, none⟩ = some (.bool nf) := FFfr5.out.cell 0 0 rfl rfl; have r5c1 : rw5.cell? ⟨w1.heap.size, 1, none⟩ = some (.slice of lf cf) := FFfr5.out.cell 0 1 rfl rfl; have r5c2 : rw5.cell? ⟨w1.heap.size, 2, none⟩ = some (.slice bf mf df) := FFfr5.out.cell 0 2 rfl rfl; have r5c3 : rw5.cell? ⟨w1.heap.size + 1, 0, none⟩ = some (.bool spf) := FFfr5.out.cell 1 0 rfl rfl; have r5c4 : rw5.cell? ⟨w1.heap.size + 1, 1, none⟩ = some (.slice opf lpf cpf) := FFfr5.out.cell 1 1 rfl rfl; have r5c5 : rw5.cell? ⟨w1.heap.size + 1, 2, none⟩ = some (.bool sqf) := FFfr5.out.cell 1 2 rfl rfl; have r5c6 : rw5.cell? ⟨w1.heap.size + 1, 3, none⟩ = some (.slice oqf lqf cqf) := FFfr5.out.cell 1 3 rfl rfl; have r5c7 : rw5.cell? ⟨w2.heap.size, 0, none⟩ = some (.bool ng) := FFgr5.out.cell 0 0 rfl rfl; have r5c8 : rw5.cell? ⟨w2.heap.size, 1, none⟩ = some (.slice og lg cg) := FFgr5.out.cell 0 1 rfl rfl; have r5c9 : rw5.cell? ⟨w2.heap.size, 2, none⟩ = some (.slice bg mg dg) := FFgr5.out.cell 0 2 rfl rfl; have r5c10 : rw5.cell? ⟨w2.heap.size + 1, 0, none⟩ = some (.bool spg) := FFgr5.out.cell 1 0 rfl rfl; have r5c11 : rw5.cell? ⟨w2.heap.size + 1, 1, none⟩ = some (.slice opg lpg cpg) := FFgr5.out.cell 1 1 rfl rfl; have r5c12 : rw5.cell? ⟨w2.heap.size + 1, 2, none⟩ = some (.bool sqg) := FFgr5.out.cell 1 2 rfl rfl; have r5c13 : rw5.cell? ⟨w2.heap.size + 1, 3, none⟩ = some (.slice oqg lqg cqg) := FFgr5.out.cell 1 3 rfl rfl; have r5c14 : rw5.cell? ⟨w5.heap.size, 0, none⟩ = some (.bool na) := FUar5.out.cell 0 0 rfl rfl; have r5c15 : rw5.cell? ⟨w5.heap.size, 1, none⟩ = some (.slice oa la ca) := FUar5.out.cell 0 1 rfl rfl; have r5c16 : rw5.cell? ⟨w5.heap.size, 2, none⟩ = some (.slice ba ma da) := FUar5.out.cell 0 2 rfl rfl; have r5c17 : rw5.cell? ⟨w6.heap.size, 0, none⟩ = some (.bool nb) := FUbr5.out.cell 0 0 rfl rfl; have r5c18 : rw5.cell? ⟨w6.heap.size, 1, none⟩ = some (.slice ob lb cb) := FUbr5.out.cell 0 1 rfl rfl; have r5c19 : rw5.cell? ⟨w6.heap.size, 2, none⟩ = some (.slice bb mb db) := FUbr5.out.cell 0 2 rfl rfl; have r5c20 : rw5.cell? ⟨w7.heap.size, 0, none⟩ = some (.bool nm) := FUmr5.out.cell 0 0 rfl rfl; have r5c21 : rw5.cell? ⟨w7.heap.size, 1, none⟩ = some (.slice om lm cm) := FUmr5.out.cell 0 1 rfl rfl; have r5c22 : rw5.cell? ⟨w7.heap.size, 2, none⟩ = some (.slice bm mm dm) := FUmr5.out.cell 0 2 rfl rfl) | (go_at_call 39; refine (refSub_any spf sqf spg sqg opf oqf opg oqg lpf lqf lpg lqg cpf cqf cpg cqg pf (qf : Int) pg (qg : Int) _ HFPr3.out HFQr3.out HGPr3.out HGQr3.out (by omega) (by omega) (by omega) (by omega) hqf0 hqg0).mono ?_; rintro e rw4 ⟨s2, u2, k2, d2, t2, v2, j2, h2, rfl, hB2, hC2, _, _, _, _, hz, hy, hb⟩; have hbb := hb; have FPr4 := Lib.hid (FPr3.out.later hbb); have FFfr4 := Lib.hid (FFfr3.out.later hbb); have FFgr4 := Lib.hid (FFgr3.out.later hbb); have FUar4 := Lib.hid (FUar3.out.later hbb); have FUbr4 := Lib.hid (FUbr3.out.later hbb); have FUmr4 := Lib.hid (FUmr3.out.later hbb); have FUvr4 := Lib.hid (FUvr3.out.later hbb); have HFr4 := Lib.hid (HFr3.out.keep hbb); have HGr4 := Lib.hid (HGr3.out.keep hbb); have HFPr4 := Lib.hid (HFPr3.out.keep hbb); have HFQr4 := Lib.hid (HFQr3.out.keep hbb); have HGPr4 := Lib.hid (HGPr3.out.keep hbb); have HGQr4 := Lib.hid (HGQr3.out.keep hbb); have HAr4 := Lib.hid (HAr3.out.keep hbb); have HBr4 := Lib.hid (HBr3.out.keep hbb); have HMr4 := Lib.hid (HMr3.out.keep hbb); have HVr4 := Lib.hid (HVr3.out.keep hbb); have HK1r4 := Lib.hid (HK1r3.out.keep hbb); have HL1r4 := Lib.hid (HL1r3.out.keep hbb); have HK20 := Lib.hid hz; have HL20 := Lib.hid hy; clear hz hy; clear hb hbb; have r4c0 : rw4.cell? ⟨w1.heap.size, 0, none⟩ = some (.bool nf) := FFfr4.out.cell 0 0 rfl rfl; have r4c1 : rw4.cell? ⟨w1.heap.size, 1, none⟩ = some (.slice of lf cf) := FFfr4.out.cell 0 1 rfl rfl; have r4c2 : rw4.cell? ⟨w1.heap.size, 2, none⟩ = some (.slice bf mf df) := FFfr4.out.cell 0 2 rfl rfl; have r4c3 : rw4.cell? ⟨w1.heap.size + 1, 0, none⟩ = some (.bool spf) := FFfr4.out.cell 1 0 rfl rfl; have r4c4 : rw4.cell? ⟨w1.heap.size + 1, 1, none⟩ = some (.slice opf lpf cpf) := FFfr4.out.cell 1 1 rfl rfl; have r4c5 : rw4.cell? ⟨w1.heap.size + 1, 2, none⟩ = some (.bool sqf) := FFfr4.out.cell 1 2 rfl rfl; have r4c6 : rw4.cell? ⟨w1.heap.size + 1, 3, none⟩ = some (.slice oqf lqf cqf) := FFfr4.out.cell 1 3 rfl rfl; have r4c7 : rw4.cell? ⟨w2.heap.size, 0, none⟩ = some (.bool ng) := FFgr4.out.cell 0 0 rfl rfl; have r4c8 : rw4.cell? ⟨w2.heap.size, 1, none⟩ = some (.slice og lg cg) := FFgr4.out.cell 0 1 rfl rfl; have r4c9 : rw4.cell? ⟨w2.heap.size, 2, none⟩ = some (.slice bg mg dg) := FFgr4.out.cell 0 2 rfl rfl; have r4c10 : rw4.cell? ⟨w2.heap.size + 1, 0, none⟩ = some (.bool spg) := FFgr4.out.cell 1 0 rfl rfl; have r4c11 : rw4.cell? ⟨w2.heap.size + 1, 1, none⟩ = some (.slice opg lpg cpg) := FFgr4.out.cell 1 1 rfl rfl; have r4c12 : rw4.cell? ⟨w2.heap.size + 1, 2, none⟩ = some (.bool sqg) := FFgr4.out.cell 1 2 rfl rfl; have r4c13 : rw4.cell? ⟨w2.heap.size + 1, 3, none⟩ = some (.slice oqg lqg cqg) := FFgr4.out.cell 1 3 rfl rfl; have r4c14 : rw4.cell? ⟨w5.heap.size, 0, none⟩ = some (.bool na) := FUar4.out.cell 0 0 rfl rfl; have r4c15 : rw4.cell? ⟨w5.heap.size, 1, none⟩ = some (.slice oa la ca) := FUar4.out.cell 0 1 rfl rfl; have r4c16 : rw4.cell? ⟨w5.heap.size, 2, none⟩ = some (.slice ba ma da) := FUar4.out.cell 0 2 rfl rfl; have r4c17 : rw4.cell? ⟨w6.heap.size, 0, none⟩ = some (.bool nb) := FUbr4.out.cell 0 0 rfl rfl; have r4c18 : rw4.cell? ⟨w6.heap.size, 1, none⟩ = some (.slice ob lb cb) := FUbr4.out.cell 0 1 rfl rfl; have r4c19 : rw4.cell? ⟨w6.heap.size, 2, none⟩ = some (.slice bb mb db) := FUbr4.out.cell 0 2 rfl rfl; have r4c20 : rw4.cell? ⟨w7.heap.size, 0, none⟩ = some (.bool nm) := FUmr4.out.cell 0 0 rfl rfl; have r4c21 : rw4.cell? ⟨w7.heap.size, 1, none⟩ = some (.slice om lm cm) := FUmr4.out.cell 0 1 rfl rfl; have r4c22 : rw4.cell? ⟨w7.heap.size, 2, none⟩ = some (.slice bm mm dm) := FUmr4.out.cell 0 2 rfl rfl) | (go_at_call 19; refine (same_any _ _ _ _ _ _ _ _ _ _ _ _ _ _ _ (lowP (pf * (qg : Int) + pg * (qf : Int)) ((qf : Int) * (qg : Int))) ea Pa (lowQ (pf * (qg : Int) + pg * (qf : Int)) ((qf : Int) * (qg : Int))) Qa _ HAr2.out hla hma HK10.out HL10.out (by omega) (by omega) TA.out).mono ?_; rintro e rw3 ⟨rfl, hb⟩; have hbb := hb; have FPr3 := Lib.hid (FPr2.out.later hbb); have FFfr3 := Lib.hid (FFfr2.out.later hbb); have FFgr3 := Lib.hid (FFgr2.out.later hbb); have FUar3 := Lib.hid (FUar2.out.later hbb); have FUbr3 := Lib.hid (FUbr2.out.later hbb); have FUmr3 := Lib.hid (FUmr2.out.later hbb); have FUvr3 := Lib.hid (FUvr2.out.later hbb); have HFr3 := Lib.hid (HFr2.out.keep hbb); have HGr3 := Lib.hid (HGr2.out.keep hbb); have HFPr3 := Lib.hid (HFPr2.out.keep hbb); have HFQr3 := Lib.hid (HFQr2.out.keep hbb); have HGPr3 := Lib.hid (HGPr2.out.keep hbb); have HGQr3 := Lib.hid (HGQr2.out.keep hbb); have HAr3 := Lib.hid (HAr2.out.keep hbb); have HBr3 := Lib.hid (HBr2.out.keep hbb); have HMr3 := Lib.hid (HMr2.out.keep hbb); have HVr3 := Lib.hid (HVr2.out.keep hbb); have HK1r3 := Lib.hid (HK10.out.keep hbb); have HL1r3 := Lib.hid (HL10.out.keep hbb); clear hb hbb; have r3c0 : rw3.cell? ⟨w1.heap.size, 0, none⟩ = some (.bool nf) := FFfr3.out.cell 0 0 rfl rfl; have r3c1 : rw3.cell? ⟨w1.heap.size, 1, none⟩ = some (.slice of lf cf) := FFfr3.out.cell 0 1 rfl rfl; have r3c2 : rw3.cell? ⟨w1.heap.size, 2, none⟩ = some (.slice bf mf df) := FFfr3.out.cell 0 2 rfl rfl; have r3c3 : rw3.cell? ⟨w1.heap.size + 1, 0, none⟩ = some (.bool spf) := FFfr3.out.cell 1 0 rfl rfl; have r3c4 : rw3.cell? ⟨w1.heap.size + 1, 1, none⟩ = some (.slice opf lpf cpf) := FFfr3.out.cell 1 1 rfl rfl; have r3c5 : rw3.cell? ⟨w1.heap.size + 1, 2, none⟩ = some (.bool sqf) := FFfr3.out.cell 1 2 rfl rfl; have r3c6 : rw3.cell? ⟨w1.heap.size + 1, 3, none⟩ = some (.slice oqf lqf cqf) := FFfr3.out.cell 1 3 rfl rfl; have r3c7 : rw3.cell? ⟨w2.heap.size, 0, none⟩ = some (.bool ng) := FFgr3.out.cell 0 0 rfl rfl; have r3c8 : rw3.cell? ⟨w2.heap.size, 1, none⟩ = some (.slice og lg cg) := FFgr3.out.cell 0 1 rfl rfl; have r3c9 : rw3.cell? ⟨w2.heap.size, 2, none⟩ = some (.slice bg mg dg) := FFgr3.out.cell 0 2 rfl rfl; have r3c10 : rw3.cell? ⟨w2.heap.size + 1, 0, none⟩ = some (.bool spg) := FFgr3.out.cell 1 0 rfl rfl; have r3c11 : rw3.cell? ⟨w2.heap.size + 1, 1, none⟩ = some (.slice opg lpg cpg) := FFgr3.out.cell 1 1 rfl rfl; have r3c12 : rw3.cell? ⟨w2.heap.size + 1, 2, none⟩ = some (.bool sqg) := FFgr3.out.cell 1 2 rfl rfl; have r3c13 : rw3.cell? ⟨w2.heap.size + 1, 3, none⟩ = some (.slice oqg lqg cqg) := FFgr3.out.cell 1 3 rfl rfl; have r3c14 : rw3.cell? ⟨w5.heap.size, 0, none⟩ = some (.bool na) := FUar3.out.cell 0 0 rfl rfl; have r3c15 : rw3.cell? ⟨w5.heap.size, 1, none⟩ = some (.slice oa la ca) := FUar3.out.cell 0 1 rfl rfl; have r3c16 : rw3.cell? ⟨w5.heap.size, 2, none⟩ = some (.slice ba ma da) := FUar3.out.cell 0 2 rfl rfl; have r3c17 : rw3.cell? ⟨w6.heap.size, 0, none⟩ = some (.bool nb) := FUbr3.out.cell 0 0 rfl rfl; have r3c18 : rw3.cell? ⟨w6.heap.size, 1, none⟩ = some (.slice ob lb cb) := FUbr3.out.cell 0 1 rfl rfl; have r3c19 : rw3.cell? ⟨w6.heap.size, 2, none⟩ = some (.slice bb mb db) := FUbr3.out.cell 0 2 rfl rfl; have r3c20 : rw3.cell? ⟨w7.heap.size, 0, none⟩ = some (.bool nm) := FUmr3.out.cell 0 0 rfl rfl; have r3c21 : rw3.cell? ⟨w7.heap.size, 1, none⟩ = some (.slice om lm cm) := FUmr3.out.cell 0 1 rfl rfl; have r3c22 : rw3.cell? ⟨w7.heap.size, 2, none⟩ = some (.slice bm mm dm) := FUmr3.out.cell 0 2 rfl rfl) | (go_at_call 38; refine (refAdd_any spf sqf spg sqg opf oqf opg oqg lpf lqf lpg lqg cpf cqf cpg cqg pf (qf : Int) pg (qg : Int) _ HFPr1.out HFQr1.out HGPr1.out HGQr1.out (by omega) (by omega) (by omega) (by omega) hqf0 hqg0).mono ?_; rintro e rw2 ⟨s1, u1, k1, d1, t1, v1, j1, h1, rfl, hB1, hC1, _, _, _, _, hz, hy, hb⟩; have hbb := hb; have FPr2 := Lib.hid (FPr1.out.later hbb); have FFfr2 := Lib.hid (FFfr1.out.later hbb); have FFgr2 := Lib.hid (FFgr1.out.later hbb); have FUar2 := Lib.hid (FUar1.out.later hbb); have FUbr2 := Lib.hid (FUbr1.out.later hbb); have FUmr2 := Lib.hid (FUmr1.out.later hbb); have FUvr2 := Lib.hid (FUvr1.out.later hbb); have HFr2 := Lib.hid (HFr1.out.keep hbb); have HGr2 := Lib.hid (HGr1.out.keep hbb); have HFPr2 := Lib.hid (HFPr1.out.keep hbb); have HFQr2 := Lib.hid (HFQr1.out.keep hbb); have HGPr2 := Lib.hid (HGPr1.out.keep hbb); have HGQr2 := Lib.hid (HGQr1.out.keep hbb); have HAr2 := Lib.hid (HAr1.out.keep hbb); have HBr2 := Lib.hid (HBr1.out.keep hbb); have HMr2 := Lib.hid (HMr1.out.keep hbb); have HVr2 := Lib.hid (HVr1.out.keep hbb); have HK10 := Lib.hid hz; have HL10 := Lib.hid hy; clear hz hy; clear hb hbb; have r2c0 : rw2.cell? ⟨w1.heap.size, 0, none⟩ = some (.bool nf) := FFfr2.out.cell 0 0 rfl rfl; have r2c1 : rw2.cell? ⟨w1.heap.size, 1, none⟩ = some (.slice of lf cf) := FFfr2.out.cell 0 1 rfl rfl; have r2c2 : rw2.cell? ⟨w1.heap.size, 2, none⟩ = some (.slice bf mf df) := FFfr2.out.cell 0 2 rfl rfl; have r2c3 : rw2.cell? ⟨w1.heap.size + 1, 0, none⟩ = some (.bool spf) := FFfr2.out.cell 1 0 rfl rfl; have r2c4 : rw2.cell? ⟨w1.heap.size + 1, 1, none⟩ = some (.slice opf lpf cpf) := FFfr2.out.cell 1 1 rfl rfl; have r2c5 : rw2.cell? ⟨w1.heap.size + 1, 2, none⟩ = some (.bool sqf) := FFfr2.out.cell 1 2 rfl rfl; have r2c6 : rw2.cell? ⟨w1.heap.size + 1, 3, none⟩ = some (.slice oqf lqf cqf) := FFfr2.out.cell 1 3 rfl rfl; have r2c7 : rw2.cell? ⟨w2.heap.size, 0, none⟩ = some (.bool ng) := FFgr2.out.cell 0 0 rfl rfl; have r2c8 : rw2.cell? ⟨w2.heap.size, 1, none⟩ = some (.slice og lg cg) := FFgr2.out.cell 0 1 rfl rfl; have r2c9 : rw2.cell? ⟨w2.heap.size, 2, none⟩ = some (.slice bg mg dg) := FFgr2.out.cell 0 2 rfl rfl; have r2c10 : rw2.cell? ⟨w2.heap.size + 1, 0, none⟩ = some (.bool spg) := FFgr2.out.cell 1 0 rfl rfl; have r2c11 : rw2.cell? ⟨w2.heap.size + 1, 1, none⟩ = some (.slice opg lpg cpg) := FFgr2.out.cell 1 1 rfl rfl; have r2c12 : rw2.cell? ⟨w2.heap.size + 1, 2, none⟩ = some (.bool sqg) := FFgr2.out.cell 1 2 rfl rfl; have r2c13 : rw2.cell? ⟨w2.heap.size + 1, 3, none⟩ = some (.slice oqg lqg cqg) := FFgr2.out.cell 1 3 rfl rfl; have r2c14 : rw2.cell? ⟨w5.heap.size, 0, none⟩ = some (.bool na) := FUar2.out.cell 0 0 rfl rfl; have r2c15 : rw2.cell? ⟨w5.heap.size, 1, none⟩ = some (.slice oa la ca) := FUar2.out.cell 0 1 rfl rfl; have r2c16 : rw2.cell? ⟨w5.heap.size, 2, none⟩ = some (.slice ba ma da) := FUar2.out.cell 0 2 rfl rfl; have r2c17 : rw2.cell? ⟨w6.heap.size, 0, none⟩ = some (.bool nb) := FUbr2.out.cell 0 0 rfl rfl; have r2c18 : rw2.cell? ⟨w6.heap.size, 1, none⟩ = some (.slice ob lb cb) := FUbr2.out.cell 0 1 rfl rfl; have r2c19 : rw2.cell? ⟨w6.heap.size, 2, none⟩ = some (.slice bb mb db) := FUbr2.out.cell 0 2 rfl rfl; have r2c20 : rw2.cell? ⟨w7.heap.size, 0, none⟩ = some (.bool nm) := FUmr2.out.cell 0 0 rfl rfl; have r2c21 : rw2.cell? ⟨w7.heap.size, 1, none⟩ = some (.slice om lm cm) := FUmr2.out.cell 0 1 rfl rfl; have r2c22 : rw2.cell? ⟨w7.heap.size, 2, none⟩ = some (.slice bm mm dm) := FUmr2.out.cell 0 2 rfl rfl) | (go_at_call 37; refine ((refCmp_any spf sqf spg sqg opf oqf opg oqg lpf lqf lpg lqg cpf cqf cpg cqg pf (qf : Int) pg (qg : Int) _ HFPr0.out HFQr0.out HGPr0.out HGQr0.out (by omega) (by omega) (by omega) (by omega)).mono fun e w h => (⟨h.1.trans (congrArg (fun t => Ending.returned (.int .i64 t)) HT.out.symm), h.2⟩ : e = .returned (.int .i64 t) ∧ _)).mono ?_; rintro e rw1 ⟨rfl, hb⟩; have hbb := hb; have FPr1 := Lib.hid (FPr0.out.later hbb); have FFfr1 := Lib.hid (FFfr0.out.later hbb); have FFgr1 := Lib.hid (FFgr0.out.later hbb); have FUar1 := Lib.hid (FUar0.out.later hbb); have FUbr1 := Lib.hid (FUbr0.out.later hbb); have FUmr1 := Lib.hid (FUmr0.out.later hbb); have FUvr1 := Lib.hid (FUvr0.out.later hbb); have HFr1 := Lib.hid (HFr0.out.keep hbb); have HGr1 := Lib.hid (HGr0.out.keep hbb); have HFPr1 := Lib.hid (HFPr0.out.keep hbb); have HFQr1 := Lib.hid (HFQr0.out.keep hbb); have HGPr1 := Lib.hid (HGPr0.out.keep hbb); have HGQr1 := Lib.hid (HGQr0.out.keep hbb); have HAr1 := Lib.hid (HAr0.out.keep hbb); have HBr1 := Lib.hid (HBr0.out.keep hbb); have HMr1 := Lib.hid (HMr0.out.keep hbb); have HVr1 := Lib.hid (HVr0.out.keep hbb); clear hb hbb; have r1c0 : rw1.cell? ⟨w1.heap.size, 0, none⟩ = some (.bool nf) := FFfr1.out.cell 0 0 rfl rfl; have r1c1 : rw1.cell? ⟨w1.heap.size, 1, none⟩ = some (.slice of lf cf) := FFfr1.out.cell 0 1 rfl rfl; have r1c2 : rw1.cell? ⟨w1.heap.size, 2, none⟩ = some (.slice bf mf df) := FFfr1.out.cell 0 2 rfl rfl; have r1c3 : rw1.cell? ⟨w1.heap.size + 1, 0, none⟩ = some (.bool spf) := FFfr1.out.cell 1 0 rfl rfl; have r1c4 : rw1.cell? ⟨w1.heap.size + 1, 1, none⟩ = some (.slice opf lpf cpf) := FFfr1.out.cell 1 1 rfl rfl; have r1c5 : rw1.cell? ⟨w1.heap.size + 1, 2, none⟩ = some (.bool sqf) := FFfr1.out.cell 1 2 rfl rfl; have r1c6 : rw1.cell? ⟨w1.heap.size + 1, 3, none⟩ = some (.slice oqf lqf cqf) := FFfr1.out.cell 1 3 rfl rfl; have r1c7 : rw1.cell? ⟨w2.heap.size, 0, none⟩ = some (.bool ng) := FFgr1.out.cell 0 0 rfl rfl; have r1c8 : rw1.cell? ⟨w2.heap.size, 1, none⟩ = some (.slice og lg cg) := FFgr1.out.cell 0 1 rfl rfl; have r1c9 : rw1.cell? ⟨w2.heap.size, 2, none⟩ = some (.slice bg mg dg) := FFgr1.out.cell 0 2 rfl rfl; have r1c10 : rw1.cell? ⟨w2.heap.size + 1, 0, none⟩ = some (.bool spg) := FFgr1.out.cell 1 0 rfl rfl; have r1c11 : rw1.cell? ⟨w2.heap.size + 1, 1, none⟩ = some (.slice opg lpg cpg) := FFgr1.out.cell 1 1 rfl rfl; have r1c12 : rw1.cell? ⟨w2.heap.size + 1, 2, none⟩ = some (.bool sqg) := FFgr1.out.cell 1 2 rfl rfl; have r1c13 : rw1.cell? ⟨w2.heap.size + 1, 3, none⟩ = some (.slice oqg lqg cqg) := FFgr1.out.cell 1 3 rfl rfl; have r1c14 : rw1.cell? ⟨w5.heap.size, 0, none⟩ = some (.bool na) := FUar1.out.cell 0 0 rfl rfl; have r1c15 : rw1.cell? ⟨w5.heap.size, 1, none⟩ = some (.slice oa la ca) := FUar1.out.cell 0 1 rfl rfl; have r1c16 : rw1.cell? ⟨w5.heap.size, 2, none⟩ = some (.slice ba ma da) := FUar1.out.cell 0 2 rfl rfl; have r1c17 : rw1.cell? ⟨w6.heap.size, 0, none⟩ = some (.bool nb) := FUbr1.out.cell 0 0 rfl rfl; have r1c18 : rw1.cell? ⟨w6.heap.size, 1, none⟩ = some (.slice ob lb cb) := FUbr1.out.cell 0 1 rfl rfl; have r1c19 : rw1.cell? ⟨w6.heap.size, 2, none⟩ = some (.slice bb mb db) := FUbr1.out.cell 0 2 rfl rfl; have r1c20 : rw1.cell? ⟨w7.heap.size, 0, none⟩ = some (.bool nm) := FUmr1.out.cell 0 0 rfl rfl; have r1c21 : rw1.cell? ⟨w7.heap.size, 1, none⟩ = some (.slice om lm cm) := FUmr1.out.cell 0 1 rfl rfl; have r1c22 : rw1.cell? ⟨w7.heap.size, 2, none⟩ = some (.slice bm mm dm) := FUmr1.out.cell 0 2 rfl rfl) | (go_at_call 36; refine ((ratCmp_any nf ng of bf og bg lf mf lg mg cf df cg dg pf pg qf qg V8.drew (HF8b.out.keep (Below.refl _ _).drew) (HG8b.out.keep (Below.refl _ _).drew) (by omega) (by omega) (by omega) (by omega)).mono fun e w h => (⟨h.1.trans (congrArg (fun t => Ending.returned (.int .i64 t)) HT.out.symm), h.2⟩ : e = .returned (.int .i64 t) ∧ _)).mono ?_; rintro e rw0 ⟨rfl, hb⟩; have hbb := below_of_drew hb; have FPr0 := Lib.hid (FP8b.out.later hbb); have FFfr0 := Lib.hid (FFf8b.out.later hbb); have FFgr0 := Lib.hid (FFg8b.out.later hbb); have FUar0 := Lib.hid (FUa8b.out.later hbb); have FUbr0 := Lib.hid (FUb8b.out.later hbb); have FUmr0 := Lib.hid (FUm8b.out.later hbb); have FUvr0 := Lib.hid (FUv8.out.later hbb); have HFr0 := Lib.hid (HF8b.out.keep hbb); have HGr0 := Lib.hid (HG8b.out.keep hbb); have HFPr0 := Lib.hid (HFP8b.out.keep hbb); have HFQr0 := Lib.hid (HFQ8b.out.keep hbb); have HGPr0 := Lib.hid (HGP8b.out.keep hbb); have HGQr0 := Lib.hid (HGQ8b.out.keep hbb); have HAr0 := Lib.hid (HA8b.out.keep hbb); have HBr0 := Lib.hid (HB8b.out.keep hbb); have HMr0 := Lib.hid (HM8b.out.keep hbb); have HVr0 := Lib.hid (HV8.out.keep hbb); clear hb hbb; have r0c0 : rw0.cell? ⟨w1.heap.size, 0, none⟩ = some (.bool nf) := FFfr0.out.cell 0 0 rfl rfl; have r0c1 : rw0.cell? ⟨w1.heap.size, 1, none⟩ = some (.slice of lf cf) := FFfr0.out.cell 0 1 rfl rfl; have r0c2 : rw0.cell? ⟨w1.heap.size, 2, none⟩ = some (.slice bf mf df) := FFfr0.out.cell 0 2 rfl rfl; have r0c3 : rw0.cell? ⟨w1.heap.size + 1, 0, none⟩ = some (.bool spf) := FFfr0.out.cell 1 0 rfl rfl; have r0c4 : rw0.cell? ⟨w1.heap.size + 1, 1, none⟩ = some (.slice opf lpf cpf) := FFfr0.out.cell 1 1 rfl rfl; have r0c5 : rw0.cell? ⟨w1.heap.size + 1, 2, none⟩ = some (.bool sqf) := FFfr0.out.cell 1 2 rfl rfl; have r0c6 : rw0.cell? ⟨w1.heap.size + 1, 3, none⟩ = some (.slice oqf lqf cqf) := FFfr0.out.cell 1 3 rfl rfl; have r0c7 : rw0.cell? ⟨w2.heap.size, 0, none⟩ = some (.bool ng) := FFgr0.out.cell 0 0 rfl rfl; have r0c8 : rw0.cell? ⟨w2.heap.size, 1, none⟩ = some (.slice og lg cg) := FFgr0.out.cell 0 1 rfl rfl; have r0c9 : rw0.cell? ⟨w2.heap.size, 2, none⟩ = some (.slice bg mg dg) := FFgr0.out.cell 0 2 rfl rfl; have r0c10 : rw0.cell? ⟨w2.heap.size + 1, 0, none⟩ = some (.bool spg) := FFgr0.out.cell 1 0 rfl rfl; have r0c11 : rw0.cell? ⟨w2.heap.size + 1, 1, none⟩ = some (.slice opg lpg cpg) := FFgr0.out.cell 1 1 rfl rfl; have r0c12 : rw0.cell? ⟨w2.heap.size + 1, 2, none⟩ = some (.bool sqg) := FFgr0.out.cell 1 2 rfl rfl; have r0c13 : rw0.cell? ⟨w2.heap.size + 1, 3, none⟩ = some (.slice oqg lqg cqg) := FFgr0.out.cell 1 3 rfl rfl; have r0c14 : rw0.cell? ⟨w5.heap.size, 0, none⟩ = some (.bool na) := FUar0.out.cell 0 0 rfl rfl; have r0c15 : rw0.cell? ⟨w5.heap.size, 1, none⟩ = some (.slice oa la ca) := FUar0.out.cell 0 1 rfl rfl; have r0c16 : rw0.cell? ⟨w5.heap.size, 2, none⟩ = some (.slice ba ma da) := FUar0.out.cell 0 2 rfl rfl; have r0c17 : rw0.cell? ⟨w6.heap.size, 0, none⟩ = some (.bool nb) := FUbr0.out.cell 0 0 rfl rfl; have r0c18 : rw0.cell? ⟨w6.heap.size, 1, none⟩ = some (.slice ob lb cb) := FUbr0.out.cell 0 1 rfl rfl; have r0c19 : rw0.cell? ⟨w6.heap.size, 2, none⟩ = some (.slice bb mb db) := FUbr0.out.cell 0 2 rfl rfl; have r0c20 : rw0.cell? ⟨w7.heap.size, 0, none⟩ = some (.bool nm) := FUmr0.out.cell 0 0 rfl rfl; have r0c21 : rw0.cell? ⟨w7.heap.size, 1, none⟩ = some (.slice om lm cm) := FUmr0.out.cell 0 1 rfl rfl; have r0c22 : rw0.cell? ⟨w7.heap.size, 2, none⟩ = some (.slice bm mm dm) := FUmr0.out.cell 0 2 rfl rfl))
      by_cases hr0 : pg = 0
      · obtain ⟨h1, h2, h3⟩ := TZV.out hr0
        subst h1 h2 h3
        have HR0 := Lib.hid hr0
        have qq0 : rw7.cell? ⟨w2.heap.size, 0, none⟩ = some (.bool ng) := FFgr7.out.cell 0 0 rfl rfl
        have qq1 : rw7.cell? ⟨w2.heap.size, 1, none⟩ = some (.slice og lg cg) := FFgr7.out.cell 0 1 rfl rfl
        have qq2 : rw7.cell? ⟨w2.heap.size, 2, none⟩ = some (.slice bg mg dg) := FFgr7.out.cell 0 2 rfl rfl
        have qq3 : rw7.cell? ⟨w2.heap.size + 1, 0, none⟩ = some (.bool spg) := FFgr7.out.cell 1 0 rfl rfl
        have qq4 : rw7.cell? ⟨w2.heap.size + 1, 1, none⟩ = some (.slice opg lpg cpg) := FFgr7.out.cell 1 1 rfl rfl
        have qq5 : rw7.cell? ⟨w2.heap.size + 1, 2, none⟩ = some (.bool sqg) := FFgr7.out.cell 1 2 rfl rfl
        have qq6 : rw7.cell? ⟨w2.heap.size + 1, 3, none⟩ = some (.slice oqg lqg cqg) := FFgr7.out.cell 1 3 rfl rfl
        go_wp2_with fail
        refine ((refSignQ_any _ _ _ _ _ _ _ _ pg _ HGPr7.out).mono fun e w h => (⟨h.1.trans (congrArg (fun t => Ending.returned (.int .i64 t)) (by rw [HR0.out]; rfl)), h.2⟩ : e = .returned (.int .i64 0) ∧ _)).mono ?_
        rintro e w10 ⟨rfl, hb⟩
        clear qq0 qq1 qq2 qq3 qq4 qq5 qq6
        have FP10a := Lib.hid (FPr7.out.later hb)
        have FFf10a := Lib.hid (FFfr7.out.later hb)
        have FFg10a := Lib.hid (FFgr7.out.later hb)
        have FUv10a := Lib.hid (FUvr7.out.later hb)
        have HF10a := Lib.hid (HFr7.out.keep hb)
        have HG10a := Lib.hid (HGr7.out.keep hb)
        have HFP10a := Lib.hid (HFPr7.out.keep hb)
        have HFQ10a := Lib.hid (HFQr7.out.keep hb)
        have HGP10a := Lib.hid (HGPr7.out.keep hb)
        have HGQ10a := Lib.hid (HGQr7.out.keep hb)
        have HV10a := Lib.hid (HVr7.out.keep hb)
        clear hb
        have qq0 : w10.cell? ⟨w8.heap.size, 0, none⟩ = some (.bool nv) := FUv10a.out.cell 0 0 rfl rfl
        have qq1 : w10.cell? ⟨w8.heap.size, 1, none⟩ = some (.slice ov lv cv) := FUv10a.out.cell 0 1 rfl rfl
        have qq2 : w10.cell? ⟨w8.heap.size, 2, none⟩ = some (.slice bv mv dv) := FUv10a.out.cell 0 2 rfl rfl
        go_wp2_with fail
        refine ((ratString_any _ _ _ _ _ _ _ 0 1 _ HV10a.out (by omega) (by omega)).mono fun e w h => (⟨(h.1.trans (congrArg (fun l : List UInt8 => Ending.returned (.string ⟨l.toArray⟩)) textQ_zero)), h.2⟩ : e = .returned (.string { data := #[48] }) ∧ _)).mono ?_
        rintro e w11 ⟨rfl, hb⟩
        clear qq0 qq1 qq2
        have FP11a := Lib.hid (FP10a.out.later hb)
        have FFf11a := Lib.hid (FFf10a.out.later hb)
        have FFg11a := Lib.hid (FFg10a.out.later hb)
        have FUv11a := Lib.hid (FUv10a.out.later hb)
        have HF11a := Lib.hid (HF10a.out.keep hb)
        have HG11a := Lib.hid (HG10a.out.keep hb)
        have HFP11a := Lib.hid (HFP10a.out.keep hb)
        have HFQ11a := Lib.hid (HFQ10a.out.keep hb)
        have HGP11a := Lib.hid (HGP10a.out.keep hb)
        have HGQ11a := Lib.hid (HGQ10a.out.keep hb)
        have HV11a := Lib.hid (HV10a.out.keep hb)
        clear hb
        go_wp2_with fail
        refine (awake_any _).mono ?_
        rintro e w12 ⟨rfl, hb⟩
        have FP12a := Lib.hid (FP11a.out.later hb)
        have FFf12a := Lib.hid (FFf11a.out.later hb)
        have FFg12a := Lib.hid (FFg11a.out.later hb)
        have FUv12a := Lib.hid (FUv11a.out.later hb)
        have HF12a := Lib.hid (HF11a.out.keep hb)
        have HG12a := Lib.hid (HG11a.out.keep hb)
        have HFP12a := Lib.hid (HFP11a.out.keep hb)
        have HFQ12a := Lib.hid (HFQ11a.out.keep hb)
        have HGP12a := Lib.hid (HGP11a.out.keep hb)
        have HGQ12a := Lib.hid (HGQ11a.out.keep hb)
        have HV12a := Lib.hid (HV11a.out.keep hb)
        clear hb
        go_wp2
        go_ret
        exact ⟨rfl, FP12a.out.below⟩
      · have TV2 := Lib.hid (TV.out hr0)
        obtain ⟨u, hu⟩ : ∃ u, u = pg.sign := ⟨_, rfl⟩
        have hu0 : (u == 0) = false := by
          have : pg.sign ≠ 0 := fun h => hr0 (Int.sign_eq_zero_iff_zero.1 h)
          rw [hu]; simp [this]
        have HU := Lib.hid hu
        clear hu
        have qq0 : rw7.cell? ⟨w2.heap.size, 0, none⟩ = some (.bool ng) := FFgr7.out.cell 0 0 rfl rfl
        have qq1 : rw7.cell? ⟨w2.heap.size, 1, none⟩ = some (.slice og lg cg) := FFgr7.out.cell 0 1 rfl rfl
        have qq2 : rw7.cell? ⟨w2.heap.size, 2, none⟩ = some (.slice bg mg dg) := FFgr7.out.cell 0 2 rfl rfl
        have qq3 : rw7.cell? ⟨w2.heap.size + 1, 0, none⟩ = some (.bool spg) := FFgr7.out.cell 1 0 rfl rfl
        have qq4 : rw7.cell? ⟨w2.heap.size + 1, 1, none⟩ = some (.slice opg lpg cpg) := FFgr7.out.cell 1 1 rfl rfl
        have qq5 : rw7.cell? ⟨w2.heap.size + 1, 2, none⟩ = some (.bool sqg) := FFgr7.out.cell 1 2 rfl rfl
        have qq6 : rw7.cell? ⟨w2.heap.size + 1, 3, none⟩ = some (.slice oqg lqg cqg) := FFgr7.out.cell 1 3 rfl rfl
        go_wp2_with fail
        refine ((refSignQ_any _ _ _ _ _ _ _ _ pg _ HGPr7.out).mono fun e w h => (⟨h.1.trans (congrArg (fun t => Ending.returned (.int .i64 t)) HU.out.symm), h.2⟩ : e = .returned (.int .i64 u) ∧ _)).mono ?_
        rintro e w10 ⟨rfl, hb⟩
        clear qq0 qq1 qq2 qq3 qq4 qq5 qq6
        have FP10a := Lib.hid (FPr7.out.later hb)
        have FFf10a := Lib.hid (FFfr7.out.later hb)
        have FFg10a := Lib.hid (FFgr7.out.later hb)
        have FUv10a := Lib.hid (FUvr7.out.later hb)
        have HF10a := Lib.hid (HFr7.out.keep hb)
        have HG10a := Lib.hid (HGr7.out.keep hb)
        have HFP10a := Lib.hid (HFPr7.out.keep hb)
        have HFQ10a := Lib.hid (HFQr7.out.keep hb)
        have HGP10a := Lib.hid (HGPr7.out.keep hb)
        have HGQ10a := Lib.hid (HGQr7.out.keep hb)
        have HV10a := Lib.hid (HVr7.out.keep hb)
        clear hb
        have TVX := TV2
        go_upto_region 13 with fail
        have qq0 : w10.cell? ⟨w1.heap.size, 0, none⟩ = some (.bool nf) := FFf10a.out.cell 0 0 rfl rfl
        have qq1 : w10.cell? ⟨w1.heap.size, 1, none⟩ = some (.slice of lf cf) := FFf10a.out.cell 0 1 rfl rfl
        have qq2 : w10.cell? ⟨w1.heap.size, 2, none⟩ = some (.slice bf mf df) := FFf10a.out.cell 0 2 rfl rfl
        have qq3 : w10.cell? ⟨w1.heap.size + 1, 0, none⟩ = some (.bool spf) := FFf10a.out.cell 1 0 rfl rfl
        have qq4 : w10.cell? ⟨w1.heap.size + 1, 1, none⟩ = some (.slice opf lpf cpf) := FFf10a.out.cell 1 1 rfl rfl
        have qq5 : w10.cell? ⟨w1.heap.size + 1, 2, none⟩ = some (.bool sqf) := FFf10a.out.cell 1 2 rfl rfl
        have qq6 : w10.cell? ⟨w1.heap.size + 1, 3, none⟩ = some (.slice oqf lqf cqf) := FFf10a.out.cell 1 3 rfl rfl
        have qq7 : w10.cell? ⟨w2.heap.size, 0, none⟩ = some (.bool ng) := FFg10a.out.cell 0 0 rfl rfl
        have qq8 : w10.cell? ⟨w2.heap.size, 1, none⟩ = some (.slice og lg cg) := FFg10a.out.cell 0 1 rfl rfl
        have qq9 : w10.cell? ⟨w2.heap.size, 2, none⟩ = some (.slice bg mg dg) := FFg10a.out.cell 0 2 rfl rfl
        have qq10 : w10.cell? ⟨w2.heap.size + 1, 0, none⟩ = some (.bool spg) := FFg10a.out.cell 1 0 rfl rfl
        have qq11 : w10.cell? ⟨w2.heap.size + 1, 1, none⟩ = some (.slice opg lpg cpg) := FFg10a.out.cell 1 1 rfl rfl
        have qq12 : w10.cell? ⟨w2.heap.size + 1, 2, none⟩ = some (.bool sqg) := FFg10a.out.cell 1 2 rfl rfl
        have qq13 : w10.cell? ⟨w2.heap.size + 1, 3, none⟩ = some (.slice oqg lqg cqg) := FFg10a.out.cell 1 3 rfl rfl
        have qq14 : w10.cell? ⟨w8.heap.size, 0, none⟩ = some (.bool nv) := FUv10a.out.cell 0 0 rfl rfl
        have qq15 : w10.cell? ⟨w8.heap.size, 1, none⟩ = some (.slice ov lv cv) := FUv10a.out.cell 0 1 rfl rfl
        have qq16 : w10.cell? ⟨w8.heap.size, 2, none⟩ = some (.slice bv mv dv) := FUv10a.out.cell 0 2 rfl rfl
        go_region_held3 (fun w' => w'.cell? ⟨w1.heap.size, 0, none⟩ = some (.bool nf) ∧ w'.cell? ⟨w1.heap.size, 1, none⟩ = some (.slice of lf cf) ∧ w'.cell? ⟨w1.heap.size, 2, none⟩ = some (.slice bf mf df) ∧ w'.cell? ⟨w1.heap.size + 1, 0, none⟩ = some (.bool spf) ∧ w'.cell? ⟨w1.heap.size + 1, 1, none⟩ = some (.slice opf lpf cpf) ∧ w'.cell? ⟨w1.heap.size + 1, 2, none⟩ = some (.bool sqf) ∧ w'.cell? ⟨w1.heap.size + 1, 3, none⟩ = some (.slice oqf lqf cqf) ∧ w'.cell? ⟨w2.heap.size, 0, none⟩ = some (.bool ng) ∧ w'.cell? ⟨w2.heap.size, 1, none⟩ = some (.slice og lg cg) ∧ w'.cell? ⟨w2.heap.size, 2, none⟩ = some (.slice bg mg dg) ∧ w'.cell? ⟨w2.heap.size + 1, 0, none⟩ = some (.bool spg) ∧ w'.cell? ⟨w2.heap.size + 1, 1, none⟩ = some (.slice opg lpg cpg) ∧ w'.cell? ⟨w2.heap.size + 1, 2, none⟩ = some (.bool sqg) ∧ w'.cell? ⟨w2.heap.size + 1, 3, none⟩ = some (.slice oqg lqg cqg) ∧ w'.cell? ⟨w8.heap.size, 0, none⟩ = some (.bool nv) ∧ w'.cell? ⟨w8.heap.size, 1, none⟩ = some (.slice ov lv cv) ∧ w'.cell? ⟨w8.heap.size, 2, none⟩ = some (.slice bv mv dv)) (go_keep)
          (first | (go_at_call 16; refine (awake_any _).mono ?_; rintro e rw2 ⟨rfl, hb⟩; have hbb := hb; have FPr2 := Lib.hid (FPr1.out.later hbb); have FFfr2 := Lib.hid (FFfr1.out.later hbb); have FFgr2 := Lib.hid (FFgr1.out.later hbb); have FUvr2 := Lib.hid (FUvr1.out.later hbb); have HFr2 := Lib.hid (HFr1.out.keep hbb); have HGr2 := Lib.hid (HGr1.out.keep hbb); have HFPr2 := Lib.hid (HFPr1.out.keep hbb); have HFQr2 := Lib.hid (HFQr1.out.keep hbb); have HGPr2 := Lib.hid (HGPr1.out.keep hbb); have HGQr2 := Lib.hid (HGQr1.out.keep hbb); have HVr2 := Lib.hid (HVr1.out.keep hbb); have HK4r2 := Lib.hid (HK4r1.out.keep hbb); have HL4r2 := Lib.hid (HL4r1.out.keep hbb); clear hb hbb; have r2c0 : rw2.cell? ⟨w1.heap.size, 0, none⟩ = some (.bool nf) := FFfr2.out.cell 0 0 rfl rfl; have r2c1 : rw2.cell? ⟨w1.heap.size, 1, none⟩ = some (.slice of lf cf) := FFfr2.out.cell 0 1 rfl rfl; have r2c2 : rw2.cell? ⟨w1.heap.size, 2, none⟩ = some (.slice bf mf df) := FFfr2.out.cell 0 2 rfl rfl; have r2c3 : rw2.cell? ⟨w1.heap.size + 1, 0, none⟩ = some (.bool spf) := FFfr2.out.cell 1 0 rfl rfl; have r2c4 : rw2.cell? ⟨w1.heap.size + 1, 1, none⟩ = some (.slice opf lpf cpf) := FFfr2.out.cell 1 1 rfl rfl; have r2c5 : rw2.cell? ⟨w1.heap.size + 1, 2, none⟩ = some (.bool sqf) := FFfr2.out.cell 1 2 rfl rfl; have r2c6 : rw2.cell? ⟨w1.heap.size + 1, 3, none⟩ = some (.slice oqf lqf cqf) := FFfr2.out.cell 1 3 rfl rfl; have r2c7 : rw2.cell? ⟨w2.heap.size, 0, none⟩ = some (.bool ng) := FFgr2.out.cell 0 0 rfl rfl; have r2c8 : rw2.cell? ⟨w2.heap.size, 1, none⟩ = some (.slice og lg cg) := FFgr2.out.cell 0 1 rfl rfl; have r2c9 : rw2.cell? ⟨w2.heap.size, 2, none⟩ = some (.slice bg mg dg) := FFgr2.out.cell 0 2 rfl rfl; have r2c10 : rw2.cell? ⟨w2.heap.size + 1, 0, none⟩ = some (.bool spg) := FFgr2.out.cell 1 0 rfl rfl; have r2c11 : rw2.cell? ⟨w2.heap.size + 1, 1, none⟩ = some (.slice opg lpg cpg) := FFgr2.out.cell 1 1 rfl rfl; have r2c12 : rw2.cell? ⟨w2.heap.size + 1, 2, none⟩ = some (.bool sqg) := FFgr2.out.cell 1 2 rfl rfl; have r2c13 : rw2.cell? ⟨w2.heap.size + 1, 3, none⟩ = some (.slice oqg lqg cqg) := FFgr2.out.cell 1 3 rfl rfl; have r2c14 : rw2.cell? ⟨w8.heap.size, 0, none⟩ = some (.bool nv) := FUvr2.out.cell 0 0 rfl rfl; have r2c15 : rw2.cell? ⟨w8.heap.size, 1, none⟩ = some (.slice ov lv cv) := FUvr2.out.cell 0 1 rfl rfl; have r2c16 : rw2.cell? ⟨w8.heap.size, 2, none⟩ = some (.slice bv mv dv) := FUvr2.out.cell 0 2 rfl rfl) | (go_at_call 19; refine (same_any _ _ _ _ _ _ _ _ _ _ _ _ _ _ _ (lowP (pf * (qg : Int)) ((qf : Int) * pg)) ev Pv (lowQ (pf * (qg : Int)) ((qf : Int) * pg)) Qv _ HVr0.out hlv hmv HK40.out HL40.out (by omega) (by omega) TVX.out).mono ?_; rintro e rw1 ⟨rfl, hb⟩; have hbb := hb; have FPr1 := Lib.hid (FPr0.out.later hbb); have FFfr1 := Lib.hid (FFfr0.out.later hbb); have FFgr1 := Lib.hid (FFgr0.out.later hbb); have FUvr1 := Lib.hid (FUvr0.out.later hbb); have HFr1 := Lib.hid (HFr0.out.keep hbb); have HGr1 := Lib.hid (HGr0.out.keep hbb); have HFPr1 := Lib.hid (HFPr0.out.keep hbb); have HFQr1 := Lib.hid (HFQr0.out.keep hbb); have HGPr1 := Lib.hid (HGPr0.out.keep hbb); have HGQr1 := Lib.hid (HGQr0.out.keep hbb); have HVr1 := Lib.hid (HVr0.out.keep hbb); have HK4r1 := Lib.hid (HK40.out.keep hbb); have HL4r1 := Lib.hid (HL40.out.keep hbb); clear hb hbb; have r1c0 : rw1.cell? ⟨w1.heap.size, 0, none⟩ = some (.bool nf) := FFfr1.out.cell 0 0 rfl rfl; have r1c1 : rw1.cell? ⟨w1.heap.size, 1, none⟩ = some (.slice of lf cf) := FFfr1.out.cell 0 1 rfl rfl; have r1c2 : rw1.cell? ⟨w1.heap.size, 2, none⟩ = some (.slice bf mf df) := FFfr1.out.cell 0 2 rfl rfl; have r1c3 : rw1.cell? ⟨w1.heap.size + 1, 0, none⟩ = some (.bool spf) := FFfr1.out.cell 1 0 rfl rfl; have r1c4 : rw1.cell? ⟨w1.heap.size + 1, 1, none⟩ = some (.slice opf lpf cpf) := FFfr1.out.cell 1 1 rfl rfl; have r1c5 : rw1.cell? ⟨w1.heap.size + 1, 2, none⟩ = some (.bool sqf) := FFfr1.out.cell 1 2 rfl rfl; have r1c6 : rw1.cell? ⟨w1.heap.size + 1, 3, none⟩ = some (.slice oqf lqf cqf) := FFfr1.out.cell 1 3 rfl rfl; have r1c7 : rw1.cell? ⟨w2.heap.size, 0, none⟩ = some (.bool ng) := FFgr1.out.cell 0 0 rfl rfl; have r1c8 : rw1.cell? ⟨w2.heap.size, 1, none⟩ = some (.slice og lg cg) := FFgr1.out.cell 0 1 rfl rfl; have r1c9 : rw1.cell? ⟨w2.heap.size, 2, none⟩ = some (.slice bg mg dg) := FFgr1.out.cell 0 2 rfl rfl; have r1c10 : rw1.cell? ⟨w2.heap.size + 1, 0, none⟩ = some (.bool spg) := FFgr1.out.cell 1 0 rfl rfl; have r1c11 : rw1.cell? ⟨w2.heap.size + 1, 1, none⟩ = some (.slice opg lpg cpg) := FFgr1.out.cell 1 1 rfl rfl; have r1c12 : rw1.cell? ⟨w2.heap.size + 1, 2, none⟩ = some (.bool sqg) := FFgr1.out.cell 1 2 rfl rfl; have r1c13 : rw1.cell? ⟨w2.heap.size + 1, 3, none⟩ = some (.slice oqg lqg cqg) := FFgr1.out.cell 1 3 rfl rfl; have r1c14 : rw1.cell? ⟨w8.heap.size, 0, none⟩ = some (.bool nv) := FUvr1.out.cell 0 0 rfl rfl; have r1c15 : rw1.cell? ⟨w8.heap.size, 1, none⟩ = some (.slice ov lv cv) := FUvr1.out.cell 0 1 rfl rfl; have r1c16 : rw1.cell? ⟨w8.heap.size, 2, none⟩ = some (.slice bv mv dv) := FUvr1.out.cell 0 2 rfl rfl) | (go_at_call 41; refine (refQuo_any spf sqf spg sqg opf oqf opg oqg lpf lqf lpg lqg cpf cqf cpg cqg pf (qf : Int) pg (qg : Int) w10.drew (HFP10a.out.keep (Below.refl _ _).drew) (HFQ10a.out.keep (Below.refl _ _).drew) (HGP10a.out.keep (Below.refl _ _).drew) (HGQ10a.out.keep (Below.refl _ _).drew) (by omega) (by omega) (by omega) (by omega) hqf0 hr0).mono ?_; rintro e rw0 ⟨s4, u4, k4, d4, t4, v4, j4, h4, rfl, hB4, hC4, _, _, _, _, hz, hy, hb⟩; have hbb := below_of_drew hb; have FPr0 := Lib.hid (FP10a.out.later hbb); have FFfr0 := Lib.hid (FFf10a.out.later hbb); have FFgr0 := Lib.hid (FFg10a.out.later hbb); have FUvr0 := Lib.hid (FUv10a.out.later hbb); have HFr0 := Lib.hid (HF10a.out.keep hbb); have HGr0 := Lib.hid (HG10a.out.keep hbb); have HFPr0 := Lib.hid (HFP10a.out.keep hbb); have HFQr0 := Lib.hid (HFQ10a.out.keep hbb); have HGPr0 := Lib.hid (HGP10a.out.keep hbb); have HGQr0 := Lib.hid (HGQ10a.out.keep hbb); have HVr0 := Lib.hid (HV10a.out.keep hbb); have HK40 := Lib.hid hz; have HL40 := Lib.hid hy; clear hz hy; clear hb hbb; have r0c0 : rw0.cell? ⟨w1.heap.size, 0, none⟩ = some (.bool nf) := FFfr0.out.cell 0 0 rfl rfl; have r0c1 : rw0.cell? ⟨w1.heap.size, 1, none⟩ = some (.slice of lf cf) := FFfr0.out.cell 0 1 rfl rfl; have r0c2 : rw0.cell? ⟨w1.heap.size, 2, none⟩ = some (.slice bf mf df) := FFfr0.out.cell 0 2 rfl rfl; have r0c3 : rw0.cell? ⟨w1.heap.size + 1, 0, none⟩ = some (.bool spf) := FFfr0.out.cell 1 0 rfl rfl; have r0c4 : rw0.cell? ⟨w1.heap.size + 1, 1, none⟩ = some (.slice opf lpf cpf) := FFfr0.out.cell 1 1 rfl rfl; have r0c5 : rw0.cell? ⟨w1.heap.size + 1, 2, none⟩ = some (.bool sqf) := FFfr0.out.cell 1 2 rfl rfl; have r0c6 : rw0.cell? ⟨w1.heap.size + 1, 3, none⟩ = some (.slice oqf lqf cqf) := FFfr0.out.cell 1 3 rfl rfl; have r0c7 : rw0.cell? ⟨w2.heap.size, 0, none⟩ = some (.bool ng) := FFgr0.out.cell 0 0 rfl rfl; have r0c8 : rw0.cell? ⟨w2.heap.size, 1, none⟩ = some (.slice og lg cg) := FFgr0.out.cell 0 1 rfl rfl; have r0c9 : rw0.cell? ⟨w2.heap.size, 2, none⟩ = some (.slice bg mg dg) := FFgr0.out.cell 0 2 rfl rfl; have r0c10 : rw0.cell? ⟨w2.heap.size + 1, 0, none⟩ = some (.bool spg) := FFgr0.out.cell 1 0 rfl rfl; have r0c11 : rw0.cell? ⟨w2.heap.size + 1, 1, none⟩ = some (.slice opg lpg cpg) := FFgr0.out.cell 1 1 rfl rfl; have r0c12 : rw0.cell? ⟨w2.heap.size + 1, 2, none⟩ = some (.bool sqg) := FFgr0.out.cell 1 2 rfl rfl; have r0c13 : rw0.cell? ⟨w2.heap.size + 1, 3, none⟩ = some (.slice oqg lqg cqg) := FFgr0.out.cell 1 3 rfl rfl; have r0c14 : rw0.cell? ⟨w8.heap.size, 0, none⟩ = some (.bool nv) := FUvr0.out.cell 0 0 rfl rfl; have r0c15 : rw0.cell? ⟨w8.heap.size, 1, none⟩ = some (.slice ov lv cv) := FUvr0.out.cell 0 1 rfl rfl; have r0c16 : rw0.cell? ⟨w8.heap.size, 2, none⟩ = some (.slice bv mv dv) := FUvr0.out.cell 0 2 rfl rfl))
        go_wp2
        go_ret
        exact ⟨rfl, FPr2.out.below⟩

set_option maxRecDepth 100000 in
theorem lifted (os : Os) (started : os.Started) (H : Type) (enc : TypeId × Value → H) :
    ReturnsInHanded {} Tryz.checked os 5 .any (Rows.numRatSumsSpec.pre6 enc Tryz.prog Tryz.f5 Rows.numRatSumsRow.domain false) (Rows.numRatSumsSpec.post enc Tryz.prog Tryz.f5 false true false false) := by
  refine returnsInHanded_of_change (C := Tryz.checked) own started (by kernel_rfl) Tryz.func5
    (ChangeSpec.witness6 (enc := enc) (C := Tryz.checked) false ⟨#[], #[.agg #[.bool false, .slice none 0 0], .agg #[.bool false, .slice none 0 0], .agg #[.bool false, .slice none 0 0], .agg #[.bool false, .slice none 0 0]], []⟩ 8 (by kernel_rfl) (by kernel_rfl) (by kernel_rfl) (by kernel_rfl)) ?_
  intro W base args ds gs before hval0 hW hcnd _
  have hval : ∀ (j : Nat) t v, Tryz.f5.params[j]? = some t → args[j]? = some v → Value.okWide Tryz.prog W .any base t v := hval0
  have hW' := hW
  obtain ⟨p, q, hA0, hV, rfl, hfz, hnd⟩ := hW
  have hA : DataW.TrodAll enc Tryz.prog W 0 (fun _ => true) true Tryz.f5.params.toList args.toList ds p := hA0
  have hAk := hA
  rw [Tryz.params5] at hA hval
  obtain ⟨v0, vs0, d0, ds0, p0, q0, hargs, rfl, rfl, h0, r0⟩ := trodAll_cons hA
  obtain ⟨v1, vs1, d1, ds1, p1, q1, rfl, rfl, rfl, h1, r1⟩ := trodAll_cons r0
  obtain ⟨v2, vs2, d2, ds2, p2, q2, rfl, rfl, rfl, h2, r2⟩ := trodAll_cons r1
  obtain ⟨v3, vs3, d3, ds3, p3, q3, rfl, rfl, rfl, h3, r3⟩ := trodAll_cons r2
  obtain ⟨rfl, rfl, rfl⟩ := trodAll_nil r3
  obtain rfl : args = #[v0, v1, v2, v3] := by cases args; simp_all
  obtain ⟨rfl, rfl⟩ := trodVars_none hV
  obtain ⟨s0, a0, l0, c0, xs0, rfl, hs0, hd0, hl0⟩ := open_raw (hval 0 24 v0 rfl rfl) h0
  obtain ⟨s1, a1, l1, c1, xs1, rfl, hs1, hd1, hl1⟩ := open_raw (hval 1 24 v1 rfl rfl) h1
  obtain ⟨s2, a2, l2, c2, xs2, rfl, hs2, hd2, hl2⟩ := open_raw (hval 2 24 v2 rfl rfl) h2
  obtain ⟨s3, a3, l3, c3, xs3, rfl, hs3, hd3, hl3⟩ := open_raw (hval 3 24 v3 rfl rfl) h3
  clear hA0 hval0
  rw [List.append_nil] at hW'
  refine (walk s0 s1 s2 s3 a0 a1 a2 a3 l0 l1 l2 l3 c0 c1 c2 c3 xs0 xs1 xs2 xs3 W hs0 hd0 hl0 hs1 hd1 hl1 hs2 hd2 hl2 hs3 hd3 hl3).mono fun e W' ⟨he, hg⟩ => ?_
  subst he
  exact ⟨_, rfl, post_law (by kernel_rfl) (by rw [Tryz.params5]; intro t ht; simp at ht; subst ht; exact ⟨by kernel_rfl, of_decide_eq_true (by kernel_rfl)⟩) hW' rfl rfl Tryz.underlying4 hAk rfl rfl rfl hg⟩

theorem over : Rows.numRatSumsRow.holds Tryz.pinned (OpenSpec.ofChange Rows.numRatSumsSpec) :=
  OpenClaim.holds_of_wide 5 Tryz.f5 rfl rfl rfl rfl rfl rfl rfl ⟨rfl, rfl, rfl, rfl, rfl⟩ rfl rfl rfl rfl rfl (by kernel_rfl) Tryz.func5 (by kernel_rfl)
    (of_decide_eq_true (by kernel_rfl)) (by unfold Func.isWrapper; first | (rw [if_pos (by decide +kernel)]; kernel_rfl) | (rw [if_neg (by decide +kernel)]; exact ⟨rfl, rfl⟩))
    (fun os started H enc _ => lifted os started H enc)

/-- the statement -/
theorem proved : Rows.NumRatSumsSaid :=
  over
end Go.Proofs.YtbihgllfllkkaaaGreat.numRatSums
