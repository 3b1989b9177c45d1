/- For every int n, NumNew(n) returns true, ends, and turns nothing that was there. For every input; no condition. -/
import Derived.Test.YtocjhjkhpkcfhaaRows
import Derived.Test.YtocjhjkhpkcfhaaLaw1
import Derived.Test.YtocjhjkhpkcfhaaPost
import Derived.WalkKit
import Derived.ProofKit
import Derived.OpenShut
namespace Go.Proofs.Ytocjhjkhpkcfhaa.numNew
open Go.ChangeShapes Go.WideShapes Go.ChangeAt Go.RowKit Go.Proofs.Ytocjhjkhpkcfhaa
set_option linter.unusedVariables false

theorem own : ownKnob Try.prog.godebug = none := by kernel_rfl

set_option maxHeartbeats 2000000 in
theorem walk (a0 : Int) (w0 : (Lit.int .i64 a0).wf = true) (W : World) :
    Calls Try.prog 3 #[.int .i64 a0] W fun e w' => e = .returned (.bool true) ∧ Below W.heap.size W w' := by
  obtain ⟨h1, h2⟩ : -9223372036854775808 ≤ a0 ∧ a0 ≤ 9223372036854775807 := by
    simp [Lit.wf, show IntKind.i64.min = -9223372036854775808 from rfl] at w0
    omega
  go_enter Try.func3, Try.ntmps3
  go_wp2_with fail
  refine (new_any a0 _ h1 h2).mono ?_
  rintro e w1 ⟨s1, o1, l1, c1, rfl, hz1, hb1⟩
  have HB1 := Lib.hid hb1
  have HZ1 := Lib.hid hz1
  clear hb1 hz1
  go_wp2_with fail
  refine (refOf_any a0 _ h1 h2).mono ?_
  rintro e w2 ⟨s2, o2, l2, c2, rfl, hlc2, hcm2, hz2, hb2⟩
  have HB2 := Lib.hid (below_then HB1.out hb2)
  have HX := Lib.hid (HZ1.out.keep hb2)
  have HY := Lib.hid hz2
  have hl1 : l1 ≤ 1000000000 := by
    have := HX.out.n32.len_le (k := 2) (by have : B32 ^ 2 = 18446744073709551616 := by decide
                                           omega)
    omega
  have hl2 : l2 ≤ 1000000000 := by
    have := HY.out.n16.len_le (k := 4) (by have : B16 ^ 4 = 18446744073709551616 := by decide
                                           omega)
    omega
  clear hb2 hz2
  have hfa : Fr w2 ((w2.alloc (.cells #[.bool s1, .slice o1 l1 c1] 24)).alloc (.cells #[.bool s2, .slice o2 l2 c2] 28))
      [(24, #[.bool s1, .slice o1 l1 c1]), (28, #[.bool s2, .slice o2 l2 c2])] := ((Fr.nil w2).alloc rfl _ _).alloc (by simp) _ _
  have HFA := Lib.hid hfa
  clear hfa
  go_wp2_with fail
  refine (toInt_any _ _ _ _ a0 _ (HX.out.keep HFA.out.below)).mono ?_
  rintro e w3 ⟨rfl, hb3⟩
  rw [if_pos ⟨h1, h2⟩]
  have HF3 := Lib.hid (HFA.out.later hb3)
  have HX3 := Lib.hid ((HX.out.keep HFA.out.below).keep hb3)
  have HY3 := Lib.hid ((HY.out.keep HFA.out.below).keep hb3)
  clear hb3 HX HY HFA
  have a0' : w3.cell? ⟨w2.heap.size, 0, none⟩ = some (.bool s1) := HF3.out.cell 0 0 rfl rfl
  have a1 : w3.cell? ⟨w2.heap.size, 1, none⟩ = some (.slice o1 l1 c1) := HF3.out.cell 0 1 rfl rfl
  have a2 : w3.cell? ⟨w2.heap.size + 1, 0, none⟩ = some (.bool s2) := HF3.out.cell 1 0 rfl rfl
  have a3 : w3.cell? ⟨w2.heap.size + 1, 1, none⟩ = some (.slice o2 l2 c2) := HF3.out.cell 1 1 rfl rfl
  have HW3 := Lib.hid ((Below.refl w3.heap.size w3).drew)
  go_wp2_with fail
  go_region_held3 (fun w' => w'.cell? ⟨w2.heap.size, 0, none⟩ = some (.bool s1) ∧ w'.cell? ⟨w2.heap.size, 1, none⟩ = some (.slice o1 l1 c1) ∧ w'.cell? ⟨w2.heap.size + 1, 0, none⟩ = some (.bool s2) ∧ w'.cell? ⟨w2.heap.size + 1, 1, none⟩ = some (.slice o2 l2 c2)) (go_keep)
    (first | (go_at_call 18; refine (is_any _ _ _ _ _ _ _ _ a0 w3.drew (HX3.out.keep HW3.out) (HY3.out.keep HW3.out) hl1 hl2).mono ?_; rintro e w4 ⟨rfl, hb⟩; have HF4 := Lib.hid (HF3.out.later (below_of_drew hb)); have HX4 := Lib.hid (HX3.out.keep (below_of_drew hb)); have HY4 := Lib.hid (HY3.out.keep (below_of_drew hb)); clear hb; have kk40 : w4.cell? ⟨w2.heap.size, 0, none⟩ = some (.bool s1) := HF4.out.cell 0 0 rfl rfl; have kk41 : w4.cell? ⟨w2.heap.size, 1, none⟩ = some (.slice o1 l1 c1) := HF4.out.cell 0 1 rfl rfl; have kk42 : w4.cell? ⟨w2.heap.size + 1, 0, none⟩ = some (.bool s2) := HF4.out.cell 1 0 rfl rfl; have kk43 : w4.cell? ⟨w2.heap.size + 1, 1, none⟩ = some (.slice o2 l2 c2) := HF4.out.cell 1 1 rfl rfl) | (go_at_call 19; refine (bitLen_any _ _ _ _ a0 _ HX4.out hl1).mono ?_; rintro e w5 ⟨rfl, hb⟩; have HF5 := Lib.hid (HF4.out.later (hb)); have HX5 := Lib.hid (HX4.out.keep (hb)); have HY5 := Lib.hid (HY4.out.keep (hb)); clear hb; have kk50 : w5.cell? ⟨w2.heap.size, 0, none⟩ = some (.bool s1) := HF5.out.cell 0 0 rfl rfl; have kk51 : w5.cell? ⟨w2.heap.size, 1, none⟩ = some (.slice o1 l1 c1) := HF5.out.cell 0 1 rfl rfl; have kk52 : w5.cell? ⟨w2.heap.size + 1, 0, none⟩ = some (.bool s2) := HF5.out.cell 1 0 rfl rfl; have kk53 : w5.cell? ⟨w2.heap.size + 1, 1, none⟩ = some (.slice o2 l2 c2) := HF5.out.cell 1 1 rfl rfl) | (go_at_call 20; refine (bitLen16_any _ _ _ _ a0 _ HY5.out hl2).mono ?_; rintro e w6 ⟨rfl, hb⟩; have HF6 := Lib.hid (HF5.out.later (hb)); have HX6 := Lib.hid (HX5.out.keep (hb)); have HY6 := Lib.hid (HY5.out.keep (hb)); clear hb; have kk60 : w6.cell? ⟨w2.heap.size, 0, none⟩ = some (.bool s1) := HF6.out.cell 0 0 rfl rfl; have kk61 : w6.cell? ⟨w2.heap.size, 1, none⟩ = some (.slice o1 l1 c1) := HF6.out.cell 0 1 rfl rfl; have kk62 : w6.cell? ⟨w2.heap.size + 1, 0, none⟩ = some (.bool s2) := HF6.out.cell 1 0 rfl rfl; have kk63 : w6.cell? ⟨w2.heap.size + 1, 1, none⟩ = some (.slice o2 l2 c2) := HF6.out.cell 1 1 rfl rfl) | (go_at_call 21; refine (sign_any _ _ _ _ a0 _ HX6.out).mono ?_; rintro e w7 ⟨rfl, hb⟩; have HF7 := Lib.hid (HF6.out.later (hb)); have HX7 := Lib.hid (HX6.out.keep (hb)); have HY7 := Lib.hid (HY6.out.keep (hb)); clear hb; have kk70 : w7.cell? ⟨w2.heap.size, 0, none⟩ = some (.bool s1) := HF7.out.cell 0 0 rfl rfl; have kk71 : w7.cell? ⟨w2.heap.size, 1, none⟩ = some (.slice o1 l1 c1) := HF7.out.cell 0 1 rfl rfl; have kk72 : w7.cell? ⟨w2.heap.size + 1, 0, none⟩ = some (.bool s2) := HF7.out.cell 1 0 rfl rfl; have kk73 : w7.cell? ⟨w2.heap.size + 1, 1, none⟩ = some (.slice o2 l2 c2) := HF7.out.cell 1 1 rfl rfl) | (go_at_call 22; refine (sign16_any _ _ _ _ a0 _ HY7.out).mono ?_; rintro e w8 ⟨rfl, hb⟩; have HF8 := Lib.hid (HF7.out.later (hb)); have HX8 := Lib.hid (HX7.out.keep (hb)); have HY8 := Lib.hid (HY7.out.keep (hb)); clear hb; have kk80 : w8.cell? ⟨w2.heap.size, 0, none⟩ = some (.bool s1) := HF8.out.cell 0 0 rfl rfl; have kk81 : w8.cell? ⟨w2.heap.size, 1, none⟩ = some (.slice o1 l1 c1) := HF8.out.cell 0 1 rfl rfl; have kk82 : w8.cell? ⟨w2.heap.size + 1, 0, none⟩ = some (.bool s2) := HF8.out.cell 1 0 rfl rfl; have kk83 : w8.cell? ⟨w2.heap.size + 1, 1, none⟩ = some (.slice o2 l2 c2) := HF8.out.cell 1 1 rfl rfl) | (go_at_call 23; refine (awake_any _).mono ?_; rintro e w9 ⟨rfl, hb⟩; have HF9 := Lib.hid (HF8.out.later (hb)); have HX9 := Lib.hid (HX8.out.keep (hb)); have HY9 := Lib.hid (HY8.out.keep (hb)); clear hb; have kk90 : w9.cell? ⟨w2.heap.size, 0, none⟩ = some (.bool s1) := HF9.out.cell 0 0 rfl rfl; have kk91 : w9.cell? ⟨w2.heap.size, 1, none⟩ = some (.slice o1 l1 c1) := HF9.out.cell 0 1 rfl rfl; have kk92 : w9.cell? ⟨w2.heap.size + 1, 0, none⟩ = some (.bool s2) := HF9.out.cell 1 0 rfl rfl; have kk93 : w9.cell? ⟨w2.heap.size + 1, 1, none⟩ = some (.slice o2 l2 c2) := HF9.out.cell 1 1 rfl rfl))
  go_wp2
  go_ret
  exact ⟨rfl, below_then HB2.out HF9.out.below⟩

set_option maxRecDepth 100000 in
theorem lifted (os : Os) (started : os.Started) (H : Type) (enc : TypeId × Value → H) :
    ReturnsInHanded {} Try.checked os 3 .any (Rows.numNewSpec.pre6 enc Try.prog Try.f3 Rows.numNewRow.domain false) (Rows.numNewSpec.post enc Try.prog Try.f3 false true false false) := by
  refine returnsInHanded_of_change (C := Try.checked) own started (by kernel_rfl) Try.func3
    (ChangeSpec.witness6 (enc := enc) (C := Try.checked) false ⟨#[], #[.int .i64 0], []⟩ 8 (by kernel_rfl) (by kernel_rfl) (by kernel_rfl) (by kernel_rfl)) ?_
  intro W base args ds gs before hval0 hW hcnd _
  have hval : ∀ (j : Nat) t v, Try.f3.params[j]? = some t → args[j]? = some v → Value.okWide Try.prog W .any base t v := hval0
  have hW' := hW
  obtain ⟨p, q, hA0, hV, rfl, hfz, hnd⟩ := hW
  have hA : DataW.TrodAll enc Try.prog W 0 (fun _ => true) true Try.f3.params.toList args.toList ds p := hA0
  rw [Try.params3] at hA hval
  obtain ⟨v0, vs0, d0, ds0, p0, q0, hargs, rfl, rfl, h0, r0⟩ := trodAll_cons hA
  obtain ⟨rfl, rfl, rfl⟩ := trodAll_nil r0
  obtain rfl : args = #[v0] := by cases args; simp_all
  obtain ⟨rfl, rfl⟩ := trodVars_none hV
  obtain ⟨a0, rfl, rfl, rfl, w0⟩ := open_int Try.underlying3 (hval 0 3 v0 rfl rfl) h0
  clear hA0 hval0
  simp only [List.append_nil] at hW'
  refine (walk a0 w0 W).mono fun e W' ⟨he, hg⟩ => ?_
  subst he
  exact ⟨_, rfl, post_below (pa := []) (pv := []) hW' (fun _ _ _ => (trodAll_cons_mk (shut_bool Try.underlying4 _) trodAll_mk0)) (fun sp _ => (trodAll_cons_mk (shut_int Try.underlying3 w0) trodAll_mk0)) (fun _ _ => rfl) rfl hg⟩

theorem over : Rows.numNewRow.holds Try.pinned (OpenSpec.ofChange Rows.numNewSpec) :=
  OpenClaim.holds_of_wide 3 Try.f3 rfl rfl rfl rfl rfl rfl rfl ⟨rfl, rfl, rfl, rfl, rfl⟩ rfl rfl rfl rfl rfl (by kernel_rfl) Try.func3 (by kernel_rfl)
    (of_decide_eq_true (by kernel_rfl)) (by unfold Func.isWrapper; first | (rw [if_pos (by decide +kernel)]; kernel_rfl) | (rw [if_neg (by decide +kernel)]; exact ⟨rfl, rfl⟩))
    (fun os started H enc _ => lifted os started H enc)

/-- the statement -/
theorem proved : Rows.NumNewSaid :=
  over
end Go.Proofs.Ytocjhjkhpkcfhaa.numNew
