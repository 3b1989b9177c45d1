/- For every int n, NumWholes(n) returns true, ends, and turns nothing that was there. For every input; no condition. -/
import Derived.Test.YtdnnjjclklcihaaRows
import Derived.WalkKit
import Derived.ProofKit
import Derived.OpenShut
import Derived.Test.YtdnnjjclklcihaaPart10
namespace Go.Proofs.Ytdnnjjclklcihaa.numWholes
open Go.ChangeShapes Go.WideShapes Go.ChangeAt Go.RowKit Go.Proofs.Ytdnnjjclklcihaa
set_option linter.unusedVariables false

theorem own : ownKnob Try.prog.godebug = none := by kernel_rfl

theorem int_bl (z : Int) (h1 : -9223372036854775808 ≤ z) (h2 : z ≤ 9223372036854775807) : Bl 64 z := by
  unfold Bl
  rw [blen_le]
  have : (2 : Nat) ^ 64 = 18446744073709551616 := by decide
  omega
theorem len32 {w : World} {neg : Bool} {ao : Option Addr} {len : Nat} {z : Int} (h : Z32 w neg ao len z) (hb : Bl 64 z) : len ≤ 1000 := Nat.le_trans (fits_len h (hb.fits (by decide))) (by decide)
theorem len16 {w : World} {neg : Bool} {ao : Option Addr} {len : Nat} {z : Int} (h : Z16 w neg ao len z) (hb : Bl 64 z) : len ≤ 10000 := Nat.le_trans (fits_len16 h (hb.fits (by decide))) (by decide)
theorem one_bl : Bl 64 (1 : Int) := int_bl 1 (by omega) (by omega)

set_option maxHeartbeats 8000000 in
theorem walk (z : Int) (w0 : (Lit.int .i64 z).wf = true) (W : World) :
    Calls Try.prog 10 #[.int .i64 z] W fun e w' => e = .returned (.bool true) ∧ Below W.heap.size W w' := by
  obtain ⟨h1, h2⟩ : -9223372036854775808 ≤ z ∧ z ≤ 9223372036854775807 := by
    simp [Lit.wf, show IntKind.i64.min = -9223372036854775808 from rfl] at w0
    omega
  have KB := Lib.hid (int_bl z h1 h2)
  clear w0
  go_enter Try.func10, Try.ntmps10
  go_wp2_with fail
  refine (ratOf_any z _ h1 h2).mono ?_
  rintro e w1 ⟨nf, ao, la, ca, bo, lb, cb, rfl, hq, hb1⟩
  have hf : Fr w1 (w1.alloc (.cells #[.bool nf, .slice ao la ca, .slice bo lb cb] 67)) [(67, #[.bool nf, .slice ao la ca, .slice bo lb cb])] := (Fr.nil w1).alloc rfl _ _
  have hla : la ≤ 1000 := len32 hq.1 KB.out
  have hlb : lb = 0 := hq.bl0.2 rfl
  have hlb2 : lb ≤ 1000 := by omega
  clear hlb
  have FP := Lib.hid hb1
  have FF0 := Lib.hid hf
  have HQ0 := Lib.hid (hq.keep hf.below)
  clear hf hq hb1
  have qq0 : (w1.alloc (.cells #[.bool nf, .slice ao la ca, .slice bo lb cb] 67)).cell? ⟨w1.heap.size, 0, none⟩ = some (.bool nf) := FF0.out.cell 0 0 rfl rfl
  have qq1 : (w1.alloc (.cells #[.bool nf, .slice ao la ca, .slice bo lb cb] 67)).cell? ⟨w1.heap.size, 1, none⟩ = some (.slice ao la ca) := FF0.out.cell 0 1 rfl rfl
  have qq2 : (w1.alloc (.cells #[.bool nf, .slice ao la ca, .slice bo lb cb] 67)).cell? ⟨w1.heap.size, 2, none⟩ = some (.slice bo lb cb) := FF0.out.cell 0 2 rfl rfl
  go_wp2_with fail
  refine (ratString_any _ _ _ _ _ _ _ z 1 _ HQ0.out (by omega) (by omega)).mono ?_
  rintro e w2 ⟨rfl, hb⟩
  clear qq0 qq1 qq2
  have FF2 := Lib.hid (FF0.out.later hb)
  have HQ2 := Lib.hid (HQ0.out.keep hb)
  clear hb
  have qq0 : w2.cell? ⟨w1.heap.size, 0, none⟩ = some (.bool nf) := FF2.out.cell 0 0 rfl rfl
  have qq1 : w2.cell? ⟨w1.heap.size, 1, none⟩ = some (.slice ao la ca) := FF2.out.cell 0 1 rfl rfl
  have qq2 : w2.cell? ⟨w1.heap.size, 2, none⟩ = some (.slice bo lb cb) := FF2.out.cell 0 2 rfl rfl
  go_wp2_with fail
  refine (whole_any z _ h1 h2).mono ?_
  rintro e w3 ⟨s1, o1, l1, c1, s2, o2, l2, c2, rfl, hlc1, hcm1, hlc2, hcm2, hza, hzb, hb⟩
  clear qq0 qq1 qq2
  have HA := Lib.hid hza
  have HB := Lib.hid hzb
  have hl1 : l1 ≤ 100000000 := Nat.le_trans (len16 hza KB.out) (by omega)
  have hl2 : l2 ≤ 100000000 := Nat.le_trans (len16 hzb one_bl) (by omega)
  clear hlc1 hcm1 hlc2 hcm2 hza hzb
  have FF3 := Lib.hid (FF2.out.later hb)
  have HQ3 := Lib.hid (HQ2.out.keep hb)
  clear hb
  have qq0 : w3.cell? ⟨w1.heap.size, 0, none⟩ = some (.bool nf) := FF3.out.cell 0 0 rfl rfl
  have qq1 : w3.cell? ⟨w1.heap.size, 1, none⟩ = some (.slice ao la ca) := FF3.out.cell 0 1 rfl rfl
  have qq2 : w3.cell? ⟨w1.heap.size, 2, none⟩ = some (.slice bo lb cb) := FF3.out.cell 0 2 rfl rfl
  go_wp2_with fail
  refine (text16Q_any _ _ _ _ _ _ _ _ z 1 _ HA.out HB.out hl1 hl2).mono ?_
  rintro e w4 ⟨rfl, hb⟩
  clear qq0 qq1 qq2
  have FF4 := Lib.hid (FF3.out.later hb)
  have HQ4 := Lib.hid (HQ3.out.keep hb)
  have HA4 := Lib.hid (HA.out.keep hb)
  have HB4 := Lib.hid (HB.out.keep hb)
  clear hb
  have qq0 : w4.cell? ⟨w1.heap.size, 0, none⟩ = some (.bool nf) := FF4.out.cell 0 0 rfl rfl
  have qq1 : w4.cell? ⟨w1.heap.size, 1, none⟩ = some (.slice ao la ca) := FF4.out.cell 0 1 rfl rfl
  have qq2 : w4.cell? ⟨w1.heap.size, 2, none⟩ = some (.slice bo lb cb) := FF4.out.cell 0 2 rfl rfl
  go_wp2_with fail
  refine (ratNum_any _ _ _ _ _ _ _ z 1 _ HQ4.out (by omega)).mono ?_
  rintro e w5 ⟨nN, oN, lN, cN, rfl, hz, hb⟩
  clear qq0 qq1 qq2
  have HN := Lib.hid hz
  have hlN : lN ≤ 1000000000 := Nat.le_trans (len32 hz KB.out) (by omega)
  clear hz
  have FF5 := Lib.hid (FF4.out.later hb)
  have HQ5 := Lib.hid (HQ4.out.keep hb)
  have HA5 := Lib.hid (HA4.out.keep hb)
  have HB5 := Lib.hid (HB4.out.keep hb)
  clear hb
  have qq0 : w5.cell? ⟨w1.heap.size, 0, none⟩ = some (.bool nf) := FF5.out.cell 0 0 rfl rfl
  have qq1 : w5.cell? ⟨w1.heap.size, 1, none⟩ = some (.slice ao la ca) := FF5.out.cell 0 1 rfl rfl
  have qq2 : w5.cell? ⟨w1.heap.size, 2, none⟩ = some (.slice bo lb cb) := FF5.out.cell 0 2 rfl rfl
  go_wp2_with fail
  refine (refOf_any z _ (by omega) (by omega)).mono ?_
  rintro e w6 ⟨mN, xN, yN, zN, rfl, hlc, hlm, hz, hb⟩
  clear qq0 qq1 qq2
  have GN := Lib.hid hz
  have hyN : yN ≤ 1000000000 := Nat.le_trans (len16 hz KB.out) (by omega)
  clear hz hlc hlm
  have FF6 := Lib.hid (FF5.out.later hb)
  have HQ6 := Lib.hid (HQ5.out.keep hb)
  have HA6 := Lib.hid (HA5.out.keep hb)
  have HB6 := Lib.hid (HB5.out.keep hb)
  have HN6 := Lib.hid (HN.out.keep hb)
  clear hb
  go_wp2_with fail
  refine (is_any _ _ _ _ _ _ _ _ z _ HN6.out GN.out hlN hyN).mono ?_
  rintro e w7 ⟨rfl, hb⟩
  have FF7 := Lib.hid (FF6.out.later hb)
  have HQ7 := Lib.hid (HQ6.out.keep hb)
  have HA7 := Lib.hid (HA6.out.keep hb)
  have HB7 := Lib.hid (HB6.out.keep hb)
  have HN7 := Lib.hid (HN6.out.keep hb)
  have HNr7 := Lib.hid (GN.out.keep hb)
  clear hb
  have qq0 : w7.cell? ⟨w1.heap.size, 0, none⟩ = some (.bool nf) := FF7.out.cell 0 0 rfl rfl
  have qq1 : w7.cell? ⟨w1.heap.size, 1, none⟩ = some (.slice ao la ca) := FF7.out.cell 0 1 rfl rfl
  have qq2 : w7.cell? ⟨w1.heap.size, 2, none⟩ = some (.slice bo lb cb) := FF7.out.cell 0 2 rfl rfl
  go_wp2_with fail
  refine ((den_any _ _ _ _ _ _ _ z 1 _ HQ7.out (by omega)).mono fun e w h => (show OutI _ (1 : Int) e w from h)).mono ?_
  rintro e w8 ⟨nD, oD, lD, cD, rfl, hz, hb⟩
  clear qq0 qq1 qq2
  have HD := Lib.hid hz
  have hlD : lD ≤ 1000000000 := Nat.le_trans (len32 hz one_bl) (by omega)
  clear hz
  have FF8 := Lib.hid (FF7.out.later hb)
  have HQ8 := Lib.hid (HQ7.out.keep hb)
  have HA8 := Lib.hid (HA7.out.keep hb)
  have HB8 := Lib.hid (HB7.out.keep hb)
  clear hb
  have qq0 : w8.cell? ⟨w1.heap.size, 0, none⟩ = some (.bool nf) := FF8.out.cell 0 0 rfl rfl
  have qq1 : w8.cell? ⟨w1.heap.size, 1, none⟩ = some (.slice ao la ca) := FF8.out.cell 0 1 rfl rfl
  have qq2 : w8.cell? ⟨w1.heap.size, 2, none⟩ = some (.slice bo lb cb) := FF8.out.cell 0 2 rfl rfl
  go_wp2_with fail
  refine (refOf_any 1 _ (by omega) (by omega)).mono ?_
  rintro e w9 ⟨mD, xD, yD, zD, rfl, hlc, hlm, hz, hb⟩
  clear qq0 qq1 qq2
  have GD := Lib.hid hz
  have hyD : yD ≤ 1000000000 := Nat.le_trans (len16 hz one_bl) (by omega)
  clear hz hlc hlm
  have FF9 := Lib.hid (FF8.out.later hb)
  have HQ9 := Lib.hid (HQ8.out.keep hb)
  have HA9 := Lib.hid (HA8.out.keep hb)
  have HB9 := Lib.hid (HB8.out.keep hb)
  have HD9 := Lib.hid (HD.out.keep hb)
  clear hb
  go_wp2_with fail
  refine (is_any _ _ _ _ _ _ _ _ 1 _ HD9.out GD.out hlD hyD).mono ?_
  rintro e w10 ⟨rfl, hb⟩
  have FF10 := Lib.hid (FF9.out.later hb)
  have HQ10 := Lib.hid (HQ9.out.keep hb)
  have HA10 := Lib.hid (HA9.out.keep hb)
  have HB10 := Lib.hid (HB9.out.keep hb)
  have HD10 := Lib.hid (HD9.out.keep hb)
  have HDr10 := Lib.hid (GD.out.keep hb)
  clear hb
  have qq0 : w10.cell? ⟨w1.heap.size, 0, none⟩ = some (.bool nf) := FF10.out.cell 0 0 rfl rfl
  have qq1 : w10.cell? ⟨w1.heap.size, 1, none⟩ = some (.slice ao la ca) := FF10.out.cell 0 1 rfl rfl
  have qq2 : w10.cell? ⟨w1.heap.size, 2, none⟩ = some (.slice bo lb cb) := FF10.out.cell 0 2 rfl rfl
  go_wp2_with fail
  refine ((floor_any _ _ _ _ _ _ _ z 1 _ HQ10.out (by omega) (by omega) (one_bl.fits (by decide)) (by decide) (divide_easy _ _ (by decide) (by decide))).mono fun e w h => (show OutI _ z e w from by rw [show z / ((1 : Nat) : Int) = z from Int.ediv_one z] at h; exact h)).mono ?_
  rintro e w11 ⟨nL, oL, lL, cL, rfl, hz, hb⟩
  clear qq0 qq1 qq2
  have HL := Lib.hid hz
  have hlL : lL ≤ 1000000000 := Nat.le_trans (len32 hz KB.out) (by omega)
  clear hz
  have FF11 := Lib.hid (FF10.out.later hb)
  have HQ11 := Lib.hid (HQ10.out.keep hb)
  have HA11 := Lib.hid (HA10.out.keep hb)
  have HB11 := Lib.hid (HB10.out.keep hb)
  clear hb
  have qq0 : w11.cell? ⟨w1.heap.size, 0, none⟩ = some (.bool nf) := FF11.out.cell 0 0 rfl rfl
  have qq1 : w11.cell? ⟨w1.heap.size, 1, none⟩ = some (.slice ao la ca) := FF11.out.cell 0 1 rfl rfl
  have qq2 : w11.cell? ⟨w1.heap.size, 2, none⟩ = some (.slice bo lb cb) := FF11.out.cell 0 2 rfl rfl
  go_wp2_with fail
  refine (refOf_any z _ (by omega) (by omega)).mono ?_
  rintro e w12 ⟨mL, xL, yL, zL, rfl, hlc, hlm, hz, hb⟩
  clear qq0 qq1 qq2
  have GL := Lib.hid hz
  have hyL : yL ≤ 1000000000 := Nat.le_trans (len16 hz KB.out) (by omega)
  clear hz hlc hlm
  have FF12 := Lib.hid (FF11.out.later hb)
  have HQ12 := Lib.hid (HQ11.out.keep hb)
  have HA12 := Lib.hid (HA11.out.keep hb)
  have HB12 := Lib.hid (HB11.out.keep hb)
  have HL12 := Lib.hid (HL.out.keep hb)
  clear hb
  go_wp2_with fail
  refine (is_any _ _ _ _ _ _ _ _ z _ HL12.out GL.out hlL hyL).mono ?_
  rintro e w13 ⟨rfl, hb⟩
  have FF13 := Lib.hid (FF12.out.later hb)
  have HQ13 := Lib.hid (HQ12.out.keep hb)
  have HA13 := Lib.hid (HA12.out.keep hb)
  have HB13 := Lib.hid (HB12.out.keep hb)
  have HL13 := Lib.hid (HL12.out.keep hb)
  have HLr13 := Lib.hid (GL.out.keep hb)
  clear hb
  go_wp2_with fail
  refine (awake_any _).mono ?_
  rintro e w14 ⟨rfl, hb⟩
  have FF14 := Lib.hid (FF13.out.later hb)
  have HQ14 := Lib.hid (HQ13.out.keep hb)
  have HA14 := Lib.hid (HA13.out.keep hb)
  have HB14 := Lib.hid (HB13.out.keep hb)
  clear hb
  go_wp2
  go_ret
  exact ⟨rfl, below_then FP.out FF14.out.below⟩

set_option maxRecDepth 100000 in
theorem lifted (os : Os) (started : os.Started) (H : Type) (enc : TypeId × Value → H) :
    ReturnsInHanded {} Try.checked os 10 .any (Rows.numWholesSpec.pre6 enc Try.prog Try.f10 Rows.numWholesRow.domain false) (Rows.numWholesSpec.post enc Try.prog Try.f10 false true false false) := by
  refine returnsInHanded_of_change (C := Try.checked) own started (by kernel_rfl) Try.func10
    (ChangeSpec.witness6 (enc := enc) (C := Try.checked) false ⟨#[], #[.int .i64 0], []⟩ 8 (by kernel_rfl) (by kernel_rfl) (by kernel_rfl) (by kernel_rfl)) ?_
  intro W base args ds gs before hval0 hW hcnd _
  have hval : ∀ (j : Nat) t v, Try.f10.params[j]? = some t → args[j]? = some v → Value.okWide Try.prog W .any base t v := hval0
  have hW' := hW
  obtain ⟨p, q, hA0, hV, rfl, hfz, hnd⟩ := hW
  have hA : DataW.TrodAll enc Try.prog W 0 (fun _ => true) true Try.f10.params.toList args.toList ds p := hA0
  rw [Try.params10] at hA hval
  obtain ⟨v0, vs0, d0, ds0, p0, q0, hargs, rfl, rfl, h0, r0⟩ := trodAll_cons hA
  obtain ⟨rfl, rfl, rfl⟩ := trodAll_nil r0
  obtain rfl : args = #[v0] := by cases args; simp_all
  obtain ⟨rfl, rfl⟩ := trodVars_none hV
  obtain ⟨a0, rfl, rfl, rfl, w0⟩ := open_int Try.underlying3 (hval 0 3 v0 rfl rfl) h0
  clear hA0 hval0
  simp only [List.append_nil] at hW'
  refine (walk a0 w0 W).mono fun e W' ⟨he, hg⟩ => ?_
  subst he
  exact ⟨_, rfl, post_below (pa := []) (pv := []) hW' (fun _ _ _ => (trodAll_cons_mk (shut_bool Try.underlying4 _) trodAll_mk0)) (fun sp _ => (trodAll_cons_mk (shut_int Try.underlying3 w0) trodAll_mk0)) (fun _ _ => rfl) rfl hg⟩

theorem over : Rows.numWholesRow.holds Try.pinned (OpenSpec.ofChange Rows.numWholesSpec) :=
  OpenClaim.holds_of_wide 10 Try.f10 rfl rfl rfl rfl rfl rfl rfl ⟨rfl, rfl, rfl, rfl, rfl⟩ rfl rfl rfl rfl rfl (by kernel_rfl) Try.func10 (by kernel_rfl)
    (of_decide_eq_true (by kernel_rfl)) (by unfold Func.isWrapper; first | (rw [if_pos (by decide +kernel)]; kernel_rfl) | (rw [if_neg (by decide +kernel)]; exact ⟨rfl, rfl⟩))
    (fun os started H enc _ => lifted os started H enc)

/-- the statement -/
theorem proved : Rows.NumWholesSaid :=
  over
end Go.Proofs.Ytdnnjjclklcihaa.numWholes
