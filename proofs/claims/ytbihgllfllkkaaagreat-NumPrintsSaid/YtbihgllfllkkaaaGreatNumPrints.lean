/- For all integers x and y and every number of places, NumPrints(x, y, places) returns true, ends, and turns nothing that was there. For every input; no condition. -/
import Derived.Test.YtbihgllfllkkaaaGreatRows
import Derived.WalkKit
import Derived.ProofKit
import Derived.OpenShut
import Derived.Test.YtbihgllfllkkaaaGreatPart17
namespace Go.Proofs.YtbihgllfllkkaaaGreat.numPrints
open Go.ChangeShapes Go.WideShapes Go.ChangeAt Go.RowKit Go.Proofs.YtbihgllfllkkaaaGreat
set_option linter.unusedVariables false

theorem own : ownKnob Tryz.prog.godebug = none := by kernel_rfl

set_option maxHeartbeats 16000000 in
set_option maxRecDepth 8000 in
theorem walk (s1 s2 : Bool) (a1 a2 : Option Addr) (l1 l2 c1 c2 : Nat) (xs1 xs2 : List Nat) (N : Int) (W : World) (hs1 : Sl .u16 W a1 l1 xs1) (hd1 : Dig B16 xs1) (hl1 : l1 ≤ 9223372036854775807) (hs2 : Sl .u16 W a2 l2 xs2) (hd2 : Dig B16 xs2) (hl2 : l2 ≤ 9223372036854775807) :
    Calls Tryz.prog 7 #[.agg #[.bool s1, .slice a1 l1 c1], .agg #[.bool s2, .slice a2 l2 c2], .int .i64 N] W fun e w' => e = .returned (.bool true) ∧ Below W.heap.size W w' := by
  have hf : Fr W ((W.alloc (.cells #[.bool s1, .slice a1 l1 c1] 24)).alloc (.cells #[.bool s2, .slice a2 l2 c2] 24)) [(24, #[.bool s1, .slice a1 l1 c1]), (24, #[.bool s2, .slice a2 l2 c2])] := ((Fr.nil W).alloc rfl _ _).alloc (by simp) _ _
  obtain ⟨V, hV⟩ : ∃ V, V = ((W.alloc (.cells #[.bool s1, .slice a1 l1 c1] 24)).alloc (.cells #[.bool s2, .slice a2 l2 c2] 24)) := ⟨_, rfl⟩
  have FP0 : Hid (Fr W V [(24, #[.bool s1, .slice a1 l1 c1]), (24, #[.bool s2, .slice a2 l2 c2])]) := by rw [hV]; exact hf
  have HS10 : Hid (Sl .u16 V a1 l1 xs1) := by rw [hV]; exact hs1.keep hf.below
  have HS20 : Hid (Sl .u16 V a2 l2 xs2) := by rw [hV]; exact hs2.keep hf.below
  clear hf hs1 hs2
  go_enter Tryz.func7, Tryz.ntmps7
  go_upto_region 1 with fail
  rw [← hV]
  clear hV
  have qq0 : V.cell? ⟨W.heap.size, 0, none⟩ = some (.bool s1) := FP0.out.cell 0 0 rfl rfl
  have qq1 : V.cell? ⟨W.heap.size, 1, none⟩ = some (.slice a1 l1 c1) := FP0.out.cell 0 1 rfl rfl
  have qq2 : V.cell? ⟨W.heap.size + 1, 0, none⟩ = some (.bool s2) := FP0.out.cell 1 0 rfl rfl
  have qq3 : V.cell? ⟨W.heap.size + 1, 1, none⟩ = some (.slice a2 l2 c2) := FP0.out.cell 1 1 rfl rfl
  go_wp2_with fail
  refine ((half_any s1 s2 a1 a2 l1 l2 c1 c2 24 xs1 xs2 _ _ _ HS10.out hd1 HS20.out hd2 rfl rfl (by omega) hl1 hl2).mono fun e w h => h.two).mono ?_
  rintro e w1 ⟨nf, of, lf, cf, bf, mf, df, spf, opf, lpf, cpf, sqf, oqf, lqf, cqf, pf, qf, okf, rfl, hlf, hmf, hq, hz, hb⟩
  clear qq0 qq1 qq2 qq3
  have FP1a := Lib.hid (FP0.out.later hb)
  have HS11a := Lib.hid (HS10.out.keep hb)
  have HS21a := Lib.hid (HS20.out.keep hb)
  have hf : Fr w1 ((w1.alloc (.cells #[.bool nf, .slice of lf cf, .slice bf mf df] 35)).alloc (.cells #[.bool spf, .slice opf lpf cpf, .bool sqf, .slice oqf lqf cqf] 43)) [(35, #[.bool nf, .slice of lf cf, .slice bf mf df]), (43, #[.bool spf, .slice opf lpf cpf, .bool sqf, .slice oqf lqf cqf])] := ((Fr.nil w1).alloc rfl _ _).alloc (by simp) _ _
  have FP1b := Lib.hid (FP1a.out.later hf.below)
  have HS11b := Lib.hid (HS11a.out.keep hf.below)
  have HS21b := Lib.hid (HS21a.out.keep hf.below)
  have FFf1 := Lib.hid hf
  have HF1 := Lib.hid (hq.keep hf.below)
  have hqpf : 0 < qf := hq.pos
  have HZF : Hid (okf = true → lpf ≤ 1024 ∧ lqf ≤ 1024 ∧ Z16 w1 spf opf lpf pf ∧ Z16 w1 sqf oqf lqf (qf : Int)) := hz
  have hwbf := hf.below
  have hw1 := hb
  clear hb hq hz hf
  cases okf with
  | false =>
    go_wp2_with fail
    refine (awake_any _).mono ?_
    rintro e w2 ⟨rfl, hb⟩
    have FP2a := Lib.hid (FP1b.out.later hb)
    have FFf2a := Lib.hid (FFf1.out.later hb)
    have HF2a := Lib.hid (HF1.out.keep hb)
    clear hb
    go_wp2
    go_ret
    exact ⟨rfl, FP2a.out.below⟩
  | true =>
    have hzz := HZF.out rfl
    have hlpf := hzz.1
    have hlqf := hzz.2.1
    have HFPx := Lib.hid (hzz.2.2.1.keep hwbf)
    have HFQx := Lib.hid (hzz.2.2.2.keep hwbf)
    clear hzz HZF hwbf hw1
    by_cases hN : N < 0 ∨ 64 < N
    · have HNN := Lib.hid hN
      have qq0 : ((w1.alloc (.cells #[.bool nf, .slice of lf cf, .slice bf mf df] 35)).alloc (.cells #[.bool spf, .slice opf lpf cpf, .bool sqf, .slice oqf lqf cqf] 43)).cell? ⟨w1.heap.size, 0, none⟩ = some (.bool nf) := FFf1.out.cell 0 0 rfl rfl
      have qq1 : ((w1.alloc (.cells #[.bool nf, .slice of lf cf, .slice bf mf df] 35)).alloc (.cells #[.bool spf, .slice opf lpf cpf, .bool sqf, .slice oqf lqf cqf] 43)).cell? ⟨w1.heap.size, 1, none⟩ = some (.slice of lf cf) := FFf1.out.cell 0 1 rfl rfl
      have qq2 : ((w1.alloc (.cells #[.bool nf, .slice of lf cf, .slice bf mf df] 35)).alloc (.cells #[.bool spf, .slice opf lpf cpf, .bool sqf, .slice oqf lqf cqf] 43)).cell? ⟨w1.heap.size, 2, none⟩ = some (.slice bf mf df) := FFf1.out.cell 0 2 rfl rfl
      have qq3 : ((w1.alloc (.cells #[.bool nf, .slice of lf cf, .slice bf mf df] 35)).alloc (.cells #[.bool spf, .slice opf lpf cpf, .bool sqf, .slice oqf lqf cqf] 43)).cell? ⟨w1.heap.size + 1, 0, none⟩ = some (.bool spf) := FFf1.out.cell 1 0 rfl rfl
      have qq4 : ((w1.alloc (.cells #[.bool nf, .slice of lf cf, .slice bf mf df] 35)).alloc (.cells #[.bool spf, .slice opf lpf cpf, .bool sqf, .slice oqf lqf cqf] 43)).cell? ⟨w1.heap.size + 1, 1, none⟩ = some (.slice opf lpf cpf) := FFf1.out.cell 1 1 rfl rfl
      have qq5 : ((w1.alloc (.cells #[.bool nf, .slice of lf cf, .slice bf mf df] 35)).alloc (.cells #[.bool spf, .slice opf lpf cpf, .bool sqf, .slice oqf lqf cqf] 43)).cell? ⟨w1.heap.size + 1, 2, none⟩ = some (.bool sqf) := FFf1.out.cell 1 2 rfl rfl
      have qq6 : ((w1.alloc (.cells #[.bool nf, .slice of lf cf, .slice bf mf df] 35)).alloc (.cells #[.bool spf, .slice opf lpf cpf, .bool sqf, .slice oqf lqf cqf] 43)).cell? ⟨w1.heap.size + 1, 3, none⟩ = some (.slice oqf lqf cqf) := FFf1.out.cell 1 3 rfl rfl
      go_wp2_with fail
      refine (decimal_bad _ _ _ _ _ _ _ N _ HNN.out).mono ?_
      rintro e w2 ⟨rfl, hb⟩
      clear qq0 qq1 qq2 qq3 qq4 qq5 qq6
      have FP2a := Lib.hid (FP1b.out.later hb)
      have FFf2a := Lib.hid (FFf1.out.later hb)
      have HF2a := Lib.hid (HF1.out.keep hb)
      have HFP2a := Lib.hid (HFPx.out.keep hb)
      have HFQ2a := Lib.hid (HFQx.out.keep hb)
      clear hb
      rcases hN with hN | hN
      · skip
        go_wp2_with fail
        refine (awake_any _).mono ?_
        rintro e w3 ⟨rfl, hb⟩
        have FP3a := Lib.hid (FP2a.out.later hb)
        have FFf3a := Lib.hid (FFf2a.out.later hb)
        have HF3a := Lib.hid (HF2a.out.keep hb)
        have HFP3a := Lib.hid (HFP2a.out.keep hb)
        have HFQ3a := Lib.hid (HFQ2a.out.keep hb)
        clear hb
        go_wp2
        go_ret
        exact ⟨rfl, FP3a.out.below⟩
      · have hN2 : ¬ N < 0 := by omega
        go_wp2_with fail
        refine (awake_any _).mono ?_
        rintro e w3 ⟨rfl, hb⟩
        have FP3a := Lib.hid (FP2a.out.later hb)
        have FFf3a := Lib.hid (FFf2a.out.later hb)
        have HF3a := Lib.hid (HF2a.out.keep hb)
        have HFP3a := Lib.hid (HFP2a.out.keep hb)
        have HFQ3a := Lib.hid (HFQ2a.out.keep hb)
        clear hb
        go_wp2
        go_ret
        exact ⟨rfl, FP3a.out.below⟩
    · obtain ⟨k, rfl⟩ : ∃ k : Nat, N = (k : Int) := ⟨N.toNat, by omega⟩
      have hk : k ≤ 64 := by omega
      have k1 : ¬ (k : Int) < 0 := by omega
      have k2 : ¬ (64 : Int) < (k : Int) := by omega
      clear hN
      have qq0 : ((w1.alloc (.cells #[.bool nf, .slice of lf cf, .slice bf mf df] 35)).alloc (.cells #[.bool spf, .slice opf lpf cpf, .bool sqf, .slice oqf lqf cqf] 43)).cell? ⟨w1.heap.size, 0, none⟩ = some (.bool nf) := FFf1.out.cell 0 0 rfl rfl
      have qq1 : ((w1.alloc (.cells #[.bool nf, .slice of lf cf, .slice bf mf df] 35)).alloc (.cells #[.bool spf, .slice opf lpf cpf, .bool sqf, .slice oqf lqf cqf] 43)).cell? ⟨w1.heap.size, 1, none⟩ = some (.slice of lf cf) := FFf1.out.cell 0 1 rfl rfl
      have qq2 : ((w1.alloc (.cells #[.bool nf, .slice of lf cf, .slice bf mf df] 35)).alloc (.cells #[.bool spf, .slice opf lpf cpf, .bool sqf, .slice oqf lqf cqf] 43)).cell? ⟨w1.heap.size, 2, none⟩ = some (.slice bf mf df) := FFf1.out.cell 0 2 rfl rfl
      have qq3 : ((w1.alloc (.cells #[.bool nf, .slice of lf cf, .slice bf mf df] 35)).alloc (.cells #[.bool spf, .slice opf lpf cpf, .bool sqf, .slice oqf lqf cqf] 43)).cell? ⟨w1.heap.size + 1, 0, none⟩ = some (.bool spf) := FFf1.out.cell 1 0 rfl rfl
      have qq4 : ((w1.alloc (.cells #[.bool nf, .slice of lf cf, .slice bf mf df] 35)).alloc (.cells #[.bool spf, .slice opf lpf cpf, .bool sqf, .slice oqf lqf cqf] 43)).cell? ⟨w1.heap.size + 1, 1, none⟩ = some (.slice opf lpf cpf) := FFf1.out.cell 1 1 rfl rfl
      have qq5 : ((w1.alloc (.cells #[.bool nf, .slice of lf cf, .slice bf mf df] 35)).alloc (.cells #[.bool spf, .slice opf lpf cpf, .bool sqf, .slice oqf lqf cqf] 43)).cell? ⟨w1.heap.size + 1, 2, none⟩ = some (.bool sqf) := FFf1.out.cell 1 2 rfl rfl
      have qq6 : ((w1.alloc (.cells #[.bool nf, .slice of lf cf, .slice bf mf df] 35)).alloc (.cells #[.bool spf, .slice opf lpf cpf, .bool sqf, .slice oqf lqf cqf] 43)).cell? ⟨w1.heap.size + 1, 3, none⟩ = some (.slice oqf lqf cqf) := FFf1.out.cell 1 3 rfl rfl
      go_wp2_with fail
      refine (decimal_all nf of bf lf mf cf df pf qf _ k _ HF1.out (by omega) (by omega) (by omega) rfl hk (divide_ok _ _ hqpf)).mono ?_
      rintro e w2 ⟨rfl, hb⟩
      clear qq0 qq1 qq2 qq3 qq4 qq5 qq6
      have FP2a := Lib.hid (FP1b.out.later hb)
      have FFf2a := Lib.hid (FFf1.out.later hb)
      have HF2a := Lib.hid (HF1.out.keep hb)
      have HFP2a := Lib.hid (HFPx.out.keep hb)
      have HFQ2a := Lib.hid (HFQx.out.keep hb)
      clear hb
      have qq0 : w2.cell? ⟨w1.heap.size, 0, none⟩ = some (.bool nf) := FFf2a.out.cell 0 0 rfl rfl
      have qq1 : w2.cell? ⟨w1.heap.size, 1, none⟩ = some (.slice of lf cf) := FFf2a.out.cell 0 1 rfl rfl
      have qq2 : w2.cell? ⟨w1.heap.size, 2, none⟩ = some (.slice bf mf df) := FFf2a.out.cell 0 2 rfl rfl
      have qq3 : w2.cell? ⟨w1.heap.size + 1, 0, none⟩ = some (.bool spf) := FFf2a.out.cell 1 0 rfl rfl
      have qq4 : w2.cell? ⟨w1.heap.size + 1, 1, none⟩ = some (.slice opf lpf cpf) := FFf2a.out.cell 1 1 rfl rfl
      have qq5 : w2.cell? ⟨w1.heap.size + 1, 2, none⟩ = some (.bool sqf) := FFf2a.out.cell 1 2 rfl rfl
      have qq6 : w2.cell? ⟨w1.heap.size + 1, 3, none⟩ = some (.slice oqf lqf cqf) := FFf2a.out.cell 1 3 rfl rfl
      go_wp2_with fail
      refine (dec16_any spf sqf opf oqf lpf lqf cpf cqf pf qf _ k _ HFP2a.out HFQ2a.out (by omega) (by omega) hqpf rfl hk).mono ?_
      rintro e w3 ⟨rfl, hb⟩
      clear qq0 qq1 qq2 qq3 qq4 qq5 qq6
      have FP3a := Lib.hid (FP2a.out.later hb)
      have FFf3a := Lib.hid (FFf2a.out.later hb)
      have HF3a := Lib.hid (HF2a.out.keep hb)
      have HFP3a := Lib.hid (HFP2a.out.keep hb)
      have HFQ3a := Lib.hid (HFQ2a.out.keep hb)
      clear hb
      go_wp2_with fail
      refine (awake_any _).mono ?_
      rintro e w4 ⟨rfl, hb⟩
      have FP4a := Lib.hid (FP3a.out.later hb)
      have FFf4a := Lib.hid (FFf3a.out.later hb)
      have HF4a := Lib.hid (HF3a.out.keep hb)
      have HFP4a := Lib.hid (HFP3a.out.keep hb)
      have HFQ4a := Lib.hid (HFQ3a.out.keep hb)
      clear hb
      go_wp2
      go_ret
      exact ⟨rfl, FP4a.out.below⟩

set_option maxRecDepth 100000 in
theorem lifted (os : Os) (started : os.Started) (H : Type) (enc : TypeId × Value → H) :
    ReturnsInHanded {} Tryz.checked os 7 .any (Rows.numPrintsSpec.pre6 enc Tryz.prog Tryz.f7 Rows.numPrintsRow.domain false) (Rows.numPrintsSpec.post enc Tryz.prog Tryz.f7 false true false false) := by
  refine returnsInHanded_of_change (C := Tryz.checked) own started (by kernel_rfl) Tryz.func7
    (ChangeSpec.witness6 (enc := enc) (C := Tryz.checked) false ⟨#[], #[.agg #[.bool false, .slice none 0 0], .agg #[.bool false, .slice none 0 0], .int .i64 0], []⟩ 8 (by kernel_rfl) (by kernel_rfl) (by kernel_rfl) (by kernel_rfl)) ?_
  intro W base args ds gs before hval0 hW hcnd _
  have hval : ∀ (j : Nat) t v, Tryz.f7.params[j]? = some t → args[j]? = some v → Value.okWide Tryz.prog W .any base t v := hval0
  have hW' := hW
  obtain ⟨p, q, hA0, hV, rfl, hfz, hnd⟩ := hW
  have hA : DataW.TrodAll enc Tryz.prog W 0 (fun _ => true) true Tryz.f7.params.toList args.toList ds p := hA0
  have hAk := hA
  rw [Tryz.params7] at hA hval
  obtain ⟨v0, vs0, d0, ds0, p0, q0, hargs, rfl, rfl, h0, r0⟩ := trodAll_cons hA
  obtain ⟨v1, vs1, d1, ds1, p1, q1, rfl, rfl, rfl, h1, r1⟩ := trodAll_cons r0
  obtain ⟨v2, vs2, d2, ds2, p2, q2, rfl, rfl, rfl, h2, r2⟩ := trodAll_cons r1
  obtain ⟨rfl, rfl, rfl⟩ := trodAll_nil r2
  obtain rfl : args = #[v0, v1, v2] := by cases args; simp_all
  obtain ⟨rfl, rfl⟩ := trodVars_none hV
  obtain ⟨s0, a0, l0, c0, xs0, rfl, hs0, hd0, hl0⟩ := open_raw (hval 0 24 v0 rfl rfl) h0
  obtain ⟨s1, a1, l1, c1, xs1, rfl, hs1, hd1, hl1⟩ := open_raw (hval 1 24 v1 rfl rfl) h1
  obtain ⟨a3, rfl, _, _, w3⟩ := open_int Tryz.underlying3 (hval 2 3 v2 rfl rfl) h2
  clear hA0 hval0
  rw [List.append_nil] at hW'
  refine (walk s0 s1 a0 a1 l0 l1 c0 c1 xs0 xs1 a3 W hs0 hd0 hl0 hs1 hd1 hl1).mono fun e W' ⟨he, hg⟩ => ?_
  subst he
  exact ⟨_, rfl, post_law (by kernel_rfl) (by rw [Tryz.params7]; intro t ht; simp at ht; rcases ht with rfl | rfl <;> exact ⟨by kernel_rfl, of_decide_eq_true (by kernel_rfl)⟩) hW' rfl rfl Tryz.underlying4 hAk rfl rfl rfl hg⟩

theorem over : Rows.numPrintsRow.holds Tryz.pinned (OpenSpec.ofChange Rows.numPrintsSpec) :=
  OpenClaim.holds_of_wide 7 Tryz.f7 rfl rfl rfl rfl rfl rfl rfl ⟨rfl, rfl, rfl, rfl, rfl⟩ rfl rfl rfl rfl rfl (by kernel_rfl) Tryz.func7 (by kernel_rfl)
    (of_decide_eq_true (by kernel_rfl)) (by unfold Func.isWrapper; first | (rw [if_pos (by decide +kernel)]; kernel_rfl) | (rw [if_neg (by decide +kernel)]; exact ⟨rfl, rfl⟩))
    (fun os started H enc _ => lifted os started H enc)

/-- the statement -/
theorem proved : Rows.NumPrintsSaid :=
  over
end Go.Proofs.YtbihgllfllkkaaaGreat.numPrints
