/- For every string s, NumDecimals(s) returns true, ends, and turns nothing that was there. For every input; no condition. -/
import Derived.Test.YtcgnmihabkgecaaGreatRows
import Derived.WalkKit
import Derived.ProofKit
import Derived.OpenShut
import Derived.Test.YtcgnmihabkgecaaGreatPart19
namespace Go.Proofs.YtcgnmihabkgecaaGreat.numDecimals
open Go.ChangeShapes Go.WideShapes Go.ChangeAt Go.RowKit Go.Proofs.YtcgnmihabkgecaaGreat
open Go.ChangeMaps (open_string shut_string)
set_option linter.unusedVariables false

theorem own : ownKnob Tryz.prog.godebug = none := by kernel_rfl

set_option maxHeartbeats 4000000 in
theorem walk (xs : List UInt8) (W : World) :
    Calls Tryz.prog 4 #[.string ⟨⟨xs⟩⟩] W fun e w' => e = .returned (.bool true) ∧ Below W.heap.size W w' := by
  rw [show (⟨⟨xs⟩⟩ : ByteArray) = ⟨xs.toArray⟩ from rfl]
  by_cases hlong : 5200 < xs.length
  · have t1 : (5200 : Int) < (xs.length : Int) := by omega
    clear hlong
    go_enter Tryz.func4, Tryz.ntmps4
    go_wp2_with fail
    refine (awake_any _).mono ?_
    rintro e w1 ⟨rfl, hb⟩
    have HB := Lib.hid hb
    clear hb
    go_wp2
    go_ret
    exact ⟨rfl, HB.out⟩
  · have t1 : ¬ (5200 : Int) < (xs.length : Int) := by omega
    have hl : xs.length ≤ 5200 := by omega
    obtain ⟨a, b, hx, hc⟩ := dotText_any (bare xs)
    have H1 := Lib.hid fun w => parseDec_any xs a b w hx hc (by omega)
    have H2 := Lib.hid fun w => refDec_any xs a b w hx hc (by omega)
    clear hlong hx hc
    go_enter Tryz.func4, Tryz.ntmps4
    go_wp2_with fail
    refine (H1.out _).mono ?_
    rintro e w1 ⟨na, ao, la, ca, bo, lb, cb, er, p, q, rfl, hla, hlb, hq, hb1, hs⟩
    have HB1 := Lib.hid hb1
    have HS := Lib.hid hs
    have hf1 : Fr w1 (w1.alloc (.cells #[.bool na, .slice ao la ca, .slice bo lb cb] 27)) [(27, #[.bool na, .slice ao la ca, .slice bo lb cb])] := (Fr.nil w1).alloc rfl _ _
    have HF1 := Lib.hid hf1
    have HQ1 := Lib.hid (hq.keep hf1.below)
    clear hb1 hq hf1 hs
    go_wp2_with fail
    refine (H2.out _).mono ?_
    rintro e w2 ⟨s1, o1, l1, c1, s2, o2, l2, c2, er', p', q', rfl, hb2, hs2, hz⟩
    obtain ⟨h1, h2, h3⟩ := hs2.same HS.out
    subst h1 h2 h3
    have HF2 := Lib.hid (HF1.out.later hb2)
    have HQ2 := Lib.hid (HQ1.out.keep hb2)
    have hf3 : Fr w2 (w2.alloc (.cells #[.bool s1, .slice o1 l1 c1, .bool s2, .slice o2 l2 c2] 35)) [(35, #[.bool s1, .slice o1 l1 c1, .bool s2, .slice o2 l2 c2])] := (Fr.nil w2).alloc rfl _ _
    have HF3 := Lib.hid hf3
    have HF4 := Lib.hid (HF2.out.later hf3.below)
    have HQ4 := Lib.hid (HQ2.out.keep hf3.below)
    have c0 : (w2.alloc (.cells #[.bool s1, .slice o1 l1 c1, .bool s2, .slice o2 l2 c2] 35)).cell? ⟨w1.heap.size, 0, none⟩ = some (.bool na) := HF4.out.cell 0 0 rfl rfl
    have c1' : (w2.alloc (.cells #[.bool s1, .slice o1 l1 c1, .bool s2, .slice o2 l2 c2] 35)).cell? ⟨w1.heap.size, 1, none⟩ = some (.slice ao la ca) := HF4.out.cell 0 1 rfl rfl
    have c2' : (w2.alloc (.cells #[.bool s1, .slice o1 l1 c1, .bool s2, .slice o2 l2 c2] 35)).cell? ⟨w1.heap.size, 2, none⟩ = some (.slice bo lb cb) := HF4.out.cell 0 2 rfl rfl
    by_cases he : er' = 0
    · subst he
      obtain ⟨hl1, hl2, hz1, hz2⟩ := hz rfl
      have HT : Hid (ToldQ p' q' 0 p' q') := .inl ⟨hs2.fits, rfl, rfl, rfl⟩
      have HZ1 := Lib.hid (hz1.keep hf3.below)
      have HZ2 := Lib.hid (hz2.keep hf3.below)
      have d0 : (w2.alloc (.cells #[.bool s1, .slice o1 l1 c1, .bool s2, .slice o2 l2 c2] 35)).cell? ⟨w2.heap.size, 0, none⟩ = some (.bool s1) := hf3.cell 0 0 rfl rfl
      have d1 : (w2.alloc (.cells #[.bool s1, .slice o1 l1 c1, .bool s2, .slice o2 l2 c2] 35)).cell? ⟨w2.heap.size, 1, none⟩ = some (.slice o1 l1 c1) := hf3.cell 0 1 rfl rfl
      have d2 : (w2.alloc (.cells #[.bool s1, .slice o1 l1 c1, .bool s2, .slice o2 l2 c2] 35)).cell? ⟨w2.heap.size, 2, none⟩ = some (.bool s2) := hf3.cell 0 2 rfl rfl
      have d3 : (w2.alloc (.cells #[.bool s1, .slice o1 l1 c1, .bool s2, .slice o2 l2 c2] 35)).cell? ⟨w2.heap.size, 3, none⟩ = some (.slice o2 l2 c2) := hf3.cell 0 3 rfl rfl
      clear hb2 hs2 hz hz1 hz2 hf3 HS
      go_wp2_with fail
      refine (same_any _ _ _ _ _ _ _ _ _ _ _ _ _ _ _ p' 0 p' q' q' _ HQ4.out hla hlb HZ1.out HZ2.out (by omega) (by omega) HT.out).mono ?_
      rintro e w3 ⟨rfl, hb3⟩
      have HF5 := Lib.hid (HF4.out.later hb3)
      clear hb3
      go_wp2_with fail
      refine (awake_any _).mono ?_
      rintro e w4 ⟨rfl, hb4⟩
      have HF6 := Lib.hid (HF5.out.later hb4)
      clear hb4
      go_wp2
      go_ret
      exact ⟨rfl, below_then HB1.out HF6.out.below⟩
    · obtain ⟨h1, h2⟩ := hs2.bad he
      subst h1 h2
      have t2 : (er' != 0) = true := by simpa using he
      have t3 : (er' == er') = true := by simp
      clear hb2 hs2 hz hf3 he HS
      go_wp2_with fail
      refine ((ratString_any _ _ _ _ _ _ _ 0 1 _ HQ4.out (by omega) (by omega)).mono fun e w h => (textQ_zero ▸ h : StrPost [48] _ e w)).mono ?_
      rintro e w3 ⟨rfl, hb3⟩
      have HF5 := Lib.hid (HF4.out.later hb3)
      clear hb3
      go_wp2_with fail
      refine (awake_any _).mono ?_
      rintro e w4 ⟨rfl, hb4⟩
      have HF6 := Lib.hid (HF5.out.later hb4)
      clear hb4
      go_wp2
      go_ret
      exact ⟨rfl, below_then HB1.out HF6.out.below⟩

set_option maxRecDepth 100000 in
theorem lifted (os : Os) (started : os.Started) (H : Type) (enc : TypeId × Value → H) :
    ReturnsInHanded {} Tryz.checked os 4 .any (Rows.numDecimalsSpec.pre6 enc Tryz.prog Tryz.f4 Rows.numDecimalsRow.domain false) (Rows.numDecimalsSpec.post enc Tryz.prog Tryz.f4 false true false false) := by
  refine returnsInHanded_of_change (C := Tryz.checked) own started (by kernel_rfl) Tryz.func4
    (ChangeSpec.witness6 (enc := enc) (C := Tryz.checked) false ⟨#[], #[.string ⟨#[]⟩], []⟩ 8 (by kernel_rfl) (by kernel_rfl) (by kernel_rfl) (by kernel_rfl)) ?_
  intro W base args ds gs before hval0 hW hcnd _
  have hval : ∀ (j : Nat) t v, Tryz.f4.params[j]? = some t → args[j]? = some v → Value.okWide Tryz.prog W .any base t v := hval0
  have hW' := hW
  obtain ⟨p, q, hA0, hV, rfl, hfz, hnd⟩ := hW
  have hA : DataW.TrodAll enc Tryz.prog W 0 (fun _ => true) true Tryz.f4.params.toList args.toList ds p := hA0
  rw [Tryz.params4] at hA hval
  obtain ⟨v0, vs0, d0, ds0, p0, q0, hargs, rfl, rfl, h0, r0⟩ := trodAll_cons hA
  obtain ⟨rfl, rfl, rfl⟩ := trodAll_nil r0
  obtain rfl : args = #[v0] := by cases args; simp_all
  obtain ⟨rfl, rfl⟩ := trodVars_none hV
  obtain ⟨a0, rfl, rfl, rfl, w0⟩ := open_string Tryz.underlying9 (hval 0 9 v0 rfl rfl) h0
  clear hA0 hval0
  simp only [List.append_nil] at hW'
  obtain ⟨⟨xs⟩⟩ := a0
  refine (walk xs W).mono fun e W' ⟨he, hg⟩ => ?_
  subst he
  exact ⟨_, rfl, post_below (pa := []) (pv := []) hW' (fun _ _ _ => (trodAll_cons_mk (shut_bool Tryz.underlying4 _) trodAll_mk0)) (fun sp _ => (trodAll_cons_mk (shut_string Tryz.underlying9 w0) trodAll_mk0)) (fun _ _ => rfl) rfl hg⟩

theorem over : Rows.numDecimalsRow.holds Tryz.pinned (OpenSpec.ofChange Rows.numDecimalsSpec) :=
  OpenClaim.holds_of_wide 4 Tryz.f4 rfl rfl rfl rfl rfl rfl rfl ⟨rfl, rfl, rfl, rfl, rfl⟩ rfl rfl rfl rfl rfl (by kernel_rfl) Tryz.func4 (by kernel_rfl)
    (of_decide_eq_true (by kernel_rfl)) (by unfold Func.isWrapper; first | (rw [if_pos (by decide +kernel)]; kernel_rfl) | (rw [if_neg (by decide +kernel)]; exact ⟨rfl, rfl⟩))
    (fun os started H enc _ => lifted os started H enc)

/-- the statement -/
theorem proved : Rows.NumDecimalsSaid :=
  over
end Go.Proofs.YtcgnmihabkgecaaGreat.numDecimals
