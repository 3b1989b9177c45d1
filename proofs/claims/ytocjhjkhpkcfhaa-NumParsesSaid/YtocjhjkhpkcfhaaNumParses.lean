/- For every string s, NumParses(s) returns true, ends, and turns nothing that was there. For every input; no condition. -/
import Derived.Test.YtocjhjkhpkcfhaaRows
import Derived.Test.YtocjhjkhpkcfhaaLaw2
import Derived.Test.YtocjhjkhpkcfhaaPost
import Derived.WalkKit
import Derived.ProofKit
import Derived.OpenShut
namespace Go.Proofs.Ytocjhjkhpkcfhaa.numParses
open Go.ChangeShapes Go.WideShapes Go.ChangeAt Go.RowKit Go.Proofs.Ytocjhjkhpkcfhaa
open Go.ChangeMaps (open_string shut_string)
set_option linter.unusedVariables false

theorem own : ownKnob Try.prog.godebug = none := by kernel_rfl

set_option maxHeartbeats 4000000 in
theorem walk (xs : List UInt8) (W : World) :
    Calls Try.prog 4 #[.string ⟨⟨xs⟩⟩] W fun e w' => e = .returned (.bool true) ∧ Below W.heap.size W w' := by
  rw [show (⟨⟨xs⟩⟩ : ByteArray) = ⟨xs.toArray⟩ from rfl]
  by_cases hlong : 6000 < xs.length
  · have t1 : (6000 : Int) < (xs.length : Int) := by omega
    clear hlong
    go_enter Try.func4, Try.ntmps4
    go_wp2_with fail
    refine (awake_any _).mono ?_
    rintro e w1 ⟨rfl, hb⟩
    have HB := Lib.hid hb
    clear hb
    go_wp2
    go_ret
    exact ⟨rfl, HB.out⟩
  · have t1 : ¬ (6000 : Int) < (xs.length : Int) := by omega
    have hl : xs.length ≤ 6000 := by omega
    clear hlong
    go_enter Try.func4, Try.ntmps4
    go_wp2_with fail
    refine ((parse_any xs _ (by omega)).mono fun e w h => h.one).mono ?_
    rintro e w1 ⟨na, ao, la, ca, er, z', rfl, hz1, hb1, hx⟩
    have HB1 := Lib.hid hb1
    have HZ1 := Lib.hid hz1
    have HX := Lib.hid hx
    clear hb1 hz1 hx
    have hf1 : Fr w1 (w1.alloc (.cells #[.bool na, .slice ao la ca] 24)) [(24, #[.bool na, .slice ao la ca])] := (Fr.nil w1).alloc rfl _ _
    have HF1 := Lib.hid hf1
    clear hf1
    go_wp2_with fail
    refine (refParse_any xs _ (by omega)).mono ?_
    rintro e w2 ⟨nb, bo, lb, cb, fr, rfl, hb2, hy⟩
    have HF2 := Lib.hid (HF1.out.later hb2)
    have HZ2 := Lib.hid ((HZ1.out.keep HF1.out.below).keep hb2)
    clear hb2
    have hf3 : Fr w2 (w2.alloc (.cells #[.bool nb, .slice bo lb cb] 28)) [(28, #[.bool nb, .slice bo lb cb])] := (Fr.nil w2).alloc rfl _ _
    have HF3 := Lib.hid hf3
    have HF4 := Lib.hid (HF2.out.later hf3.below)
    have HZ4 := Lib.hid (HZ2.out.keep hf3.below)
    have c0 : (w2.alloc (.cells #[.bool nb, .slice bo lb cb] 28)).cell? ⟨w1.heap.size, 0, none⟩ = some (.bool na) := HF4.out.cell 0 0 rfl rfl
    have c1 : (w2.alloc (.cells #[.bool nb, .slice bo lb cb] 28)).cell? ⟨w1.heap.size, 1, none⟩ = some (.slice ao la ca) := HF4.out.cell 0 1 rfl rfl
    clear hf3
    rcases hy with ⟨hn, rfl⟩ | ⟨hn, hfit, rfl⟩ | ⟨hn, hfit, rfl, hlc, hcm, hzb⟩
    · obtain ⟨rfl, rfl⟩ : er = 4 ∧ z' = 0 := by
        rcases HX.out with ⟨_, h2, h3⟩ | ⟨h1, _⟩ | ⟨h1, _⟩
        · exact ⟨h2, h3⟩
        · rw [hn] at h1; cases h1
        · rw [hn] at h1; cases h1
      have hla : la ≤ 1000000000 := Nat.le_trans (HZ4.out.n32.len_le (k := 0) (by decide)) (by omega)
      clear hn
      go_wp2_with fail
      refine (string_any _ _ _ _ 0 _ HZ4.out hla).mono ?_
      rintro e w3 ⟨rfl, hb3⟩
      rw [numZ_0]
      have HF5 := Lib.hid (HF4.out.later hb3)
      clear hb3
      go_wp2_with fail
      refine (awake_any _).mono ?_
      rintro e w4 ⟨rfl, hb4⟩
      have HF6 := Lib.hid (HF5.out.later hb4)
      clear hb4
      go_wp2
      go_ret
      exact ⟨rfl, below_then HB1.out HF6.out.below⟩
    · obtain ⟨rfl, rfl⟩ : er = 3 ∧ z' = 0 := by
        rcases HX.out with ⟨h1, _⟩ | ⟨_, _, h2, h3⟩ | ⟨_, h1, _⟩
        · rw [hn] at h1; cases h1
        · exact ⟨h2, h3⟩
        · exact absurd h1 hfit
      have hla : la ≤ 1000000000 := Nat.le_trans (HZ4.out.n32.len_le (k := 0) (by decide)) (by omega)
      clear hn hfit
      go_wp2_with fail
      refine (string_any _ _ _ _ 0 _ HZ4.out hla).mono ?_
      rintro e w3 ⟨rfl, hb3⟩
      rw [numZ_0]
      have HF5 := Lib.hid (HF4.out.later hb3)
      clear hb3
      go_wp2_with fail
      refine (awake_any _).mono ?_
      rintro e w4 ⟨rfl, hb4⟩
      have HF6 := Lib.hid (HF5.out.later hb4)
      clear hb4
      go_wp2
      go_ret
      exact ⟨rfl, below_then HB1.out HF6.out.below⟩
    · obtain ⟨rfl, rfl⟩ : er = 0 ∧ z' = numZ xs := by
        rcases HX.out with ⟨h1, _⟩ | ⟨_, h1, _⟩ | ⟨_, _, h2, h3⟩
        · rw [hn] at h1; cases h1
        · exact absurd hfit h1
        · exact ⟨h2, h3⟩
      have hla : la ≤ 1000000000 := Nat.le_trans (fits_len HZ4.out hfit) (by omega)
      have hlb : lb ≤ 1000000000 := Nat.le_trans (fits_len16 hzb hfit) (by omega)
      have HZB := Lib.hid (hzb.keep HF3.out.below)
      have HFIT := Lib.hid hfit
      clear hn hfit hzb
      go_wp2_with fail
      refine (told_fit _ _ _ _ _ _ _ _ (numZ xs) _ HZ4.out HZB.out hla hlb HFIT.out).mono ?_
      rintro e w3 ⟨rfl, hb3⟩
      have HF5 := Lib.hid (HF4.out.later hb3)
      clear hb3
      go_wp2_with fail
      refine (awake_any _).mono ?_
      rintro e w4 ⟨rfl, hb4⟩
      have HF6 := Lib.hid (HF5.out.later hb4)
      clear hb4
      go_wp2
      go_ret
      exact ⟨rfl, below_then HB1.out HF6.out.below⟩

set_option maxRecDepth 100000 in
theorem lifted (os : Os) (started : os.Started) (H : Type) (enc : TypeId × Value → H) :
    ReturnsInHanded {} Try.checked os 4 .any (Rows.numParsesSpec.pre6 enc Try.prog Try.f4 Rows.numParsesRow.domain false) (Rows.numParsesSpec.post enc Try.prog Try.f4 false true false false) := by
  refine returnsInHanded_of_change (C := Try.checked) own started (by kernel_rfl) Try.func4
    (ChangeSpec.witness6 (enc := enc) (C := Try.checked) false ⟨#[], #[.string ⟨#[]⟩], []⟩ 8 (by kernel_rfl) (by kernel_rfl) (by kernel_rfl) (by kernel_rfl)) ?_
  intro W base args ds gs before hval0 hW hcnd _
  have hval : ∀ (j : Nat) t v, Try.f4.params[j]? = some t → args[j]? = some v → Value.okWide Try.prog W .any base t v := hval0
  have hW' := hW
  obtain ⟨p, q, hA0, hV, rfl, hfz, hnd⟩ := hW
  have hA : DataW.TrodAll enc Try.prog W 0 (fun _ => true) true Try.f4.params.toList args.toList ds p := hA0
  rw [Try.params4] at hA hval
  obtain ⟨v0, vs0, d0, ds0, p0, q0, hargs, rfl, rfl, h0, r0⟩ := trodAll_cons hA
  obtain ⟨rfl, rfl, rfl⟩ := trodAll_nil r0
  obtain rfl : args = #[v0] := by cases args; simp_all
  obtain ⟨rfl, rfl⟩ := trodVars_none hV
  obtain ⟨a0, rfl, rfl, rfl, w0⟩ := open_string Try.underlying9 (hval 0 9 v0 rfl rfl) h0
  clear hA0 hval0
  simp only [List.append_nil] at hW'
  obtain ⟨⟨xs⟩⟩ := a0
  refine (walk xs W).mono fun e W' ⟨he, hg⟩ => ?_
  subst he
  exact ⟨_, rfl, post_below (pa := []) (pv := []) hW' (fun _ _ _ => (trodAll_cons_mk (shut_bool Try.underlying4 _) trodAll_mk0)) (fun sp _ => (trodAll_cons_mk (shut_string Try.underlying9 w0) trodAll_mk0)) (fun _ _ => rfl) rfl hg⟩

theorem over : Rows.numParsesRow.holds Try.pinned (OpenSpec.ofChange Rows.numParsesSpec) :=
  OpenClaim.holds_of_wide 4 Try.f4 rfl rfl rfl rfl rfl rfl rfl ⟨rfl, rfl, rfl, rfl, rfl⟩ rfl rfl rfl rfl rfl (by kernel_rfl) Try.func4 (by kernel_rfl)
    (of_decide_eq_true (by kernel_rfl)) (by unfold Func.isWrapper; first | (rw [if_pos (by decide +kernel)]; kernel_rfl) | (rw [if_neg (by decide +kernel)]; exact ⟨rfl, rfl⟩))
    (fun os started H enc _ => lifted os started H enc)

/-- the statement -/
theorem proved : Rows.NumParsesSaid :=
  over
end Go.Proofs.Ytocjhjkhpkcfhaa.numParses
