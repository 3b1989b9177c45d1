/- The specification: numeral, parse. -/
import Derived.Test.YtdnnjjclklcihaaParse
set_option linter.unusedVariables false
namespace Go.Proofs.Ytdnnjjclklcihaa
open Go.RowKit Go.Proofs

def numB (xs : List UInt8) : Bool := hasDigs xs && (decide (xs.length = 1) || decide (xs.head? ≠ some 48))

set_option maxHeartbeats 800000 in
theorem numeral16_any (xs : List UInt8) (w : World) (hl : xs.length ≤ 1000000000) :
    Calls Try.prog 107 #[.string ⟨xs.toArray⟩] w fun e w' => e = .returned (.bool (numB xs)) ∧ w = w' := by
  by_cases hz : xs.length = 0
  · have : xs = [] := List.eq_nil_of_length_eq_zero hz
    subst this
    go_enter Try.func107, Try.ntmps107
    go_wp2
    go_ret
    exact ⟨rfl, rfl⟩
  · obtain ⟨x, t, rfl⟩ : ∃ x t, xs = x :: t := by
      cases xs with
      | nil => simp at hz
      | cons x t => exact ⟨x, t, rfl⟩
    clear hz
    obtain ⟨xs, hxs⟩ : ∃ xs, xs = x :: t := ⟨_, rfl⟩
    rw [← hxs] at hl ⊢
    have hlen : xs.length = t.length + 1 := by rw [hxs]; rfl
    have h00 : 0 < xs.length := by omega
    have hx0 : xs[0]'h00 = x := by subst hxs; rfl
    have hhead : xs.head? = some x := by rw [hxs]; rfl
    have hs0 : 0 < (⟨xs.toArray⟩ : ByteArray).size := by rw [str_size]; exact h00
    have hc0 : ((⟨xs.toArray⟩ : ByteArray)[0]'hs0).toNat = x.toNat := congrArg UInt8.toNat hx0
    have HH := Lib.hid hhead
    clear hxs hhead hx0 hlen
    by_cases hbad : 1 < xs.length ∧ x.toNat = 48
    · have HE : Hid (numB xs = false) := by
        show _ = _
        unfold numB
        rw [HH.out, Bool.and_eq_false_iff]
        right
        have : x = 48 := UInt8.toNat_inj.1 hbad.2
        simp [this]
        omega
      have t1 : (1 : Int) < (xs.length : Int) := by omega
      have t0 : ¬ ((xs.length : Int) = 0) := by omega
      have t0b : ((xs.length : Int) == 0) = false := by simpa using t0
      have t0c : ¬ xs = [] := fun e => by rw [e] at h00; simp at h00
      have t2 : ((((⟨xs.toArray⟩ : ByteArray)[0]'hs0).toNat : Nat) : Int) = 48 := by rw [hc0]; omega
      have t3 : (((((⟨xs.toArray⟩ : ByteArray)[0]'hs0).toNat : Nat) : Int) == 48) = true := by rw [hc0, hbad.2]; rfl
      clear hbad hc0
      rw [HE.out]
      go_enter Try.func107, Try.ntmps107
      go_wp2
      go_ret
      exact ⟨rfl, rfl⟩
    · have HFA : Hid (hasDigs xs = false → numB xs = false) := fun h => by unfold numB; rw [h]; rfl
      have HTR : Hid (xs.all isDig = true → numB xs = true) := fun h => by
        unfold numB hasDigs
        rw [h, HH.out]
        have hne : xs ≠ [] := fun e => by rw [e] at h00; simp at h00
        by_cases h1 : xs.length = 1
        · simp [h1, hne]
        · have : x ≠ 48 := fun e => hbad ⟨by omega, by rw [e]; rfl⟩
          simp [hne, this]
      have t0 : ¬ ((xs.length : Int) = 0) := by omega
      have t0b : ((xs.length : Int) == 0) = false := by simpa using t0
      have t0c : ¬ xs = [] := fun e => by rw [e] at h00; simp at h00
      have hcase : xs.length = 1 ∨ (1 < xs.length ∧ x.toNat ≠ 48) := by omega
      clear hbad
      rcases hcase with h1 | ⟨h1, h2⟩
      · have t1 : ¬ (1 : Int) < (xs.length : Int) := by omega
        clear hc0
        go_enter Try.func107, Try.ntmps107
        go_wp2
        go_loop [3] (fun t => ∃ i : Nat, i ≤ xs.length ∧ t = .int .i64 i ∧ (xs.take i).all isDig = true) (fun t => xs.length - (intOf t).toNat)
        case atStart => exact ⟨0, by omega, rfl, by simp⟩
        case round =>
          obtain ⟨i, hi, rfl, hall⟩ := hrel
          have HA := Lib.hid hall
          clear hall
          by_cases hil : i < xs.length
          · have t1 : (i : Int) < (xs.length : Int) := by omega
            have hs : i < (⟨xs.toArray⟩ : ByteArray).size := by rw [str_size]; exact hil
            obtain ⟨c, hc⟩ : ∃ c : Nat, c = xs[i].toNat := ⟨_, rfl⟩
            have hc2 : ((⟨xs.toArray⟩ : ByteArray)[i]'hs).toNat = c := hc.symm
            have HC := Lib.hid hc
            clear hc
            by_cases h1 : c < 48
            · have t2 : ¬ (48 : Int) ≤ ((((⟨xs.toArray⟩ : ByteArray)[i]'hs).toNat : Nat) : Int) := by rw [hc2]; omega
              have HX : Hid (numB xs = false) := HFA.out (hasDigs_false hil (by unfold isDig; rw [← HC.out]; simp; omega))
              clear hc2
              go_wp2
              go_ret
              exact ⟨ret_bool HX.out.symm, rfl⟩
            · have t2 : (48 : Int) ≤ ((((⟨xs.toArray⟩ : ByteArray)[i]'hs).toNat : Nat) : Int) := by rw [hc2]; omega
              by_cases h2 : c ≤ 57
              · have t3 : ((((⟨xs.toArray⟩ : ByteArray)[i]'hs).toNat : Nat) : Int) ≤ 57 := by rw [hc2]; omega
                have HX : Hid (isDig xs[i] = true) := by show _ = _; unfold isDig; rw [← HC.out]; simp; omega
                clear hc2
                go_wp2
                go_round
                case rel => exact ⟨i + 1, by omega, by go_num, by first | exact all_take_succ hil HA.out HX.out | exact List.all_eq_true.1 (all_take_succ hil HA.out HX.out)⟩
                case measure => simp [intOf]; omega
              · have t3 : ¬ ((((⟨xs.toArray⟩ : ByteArray)[i]'hs).toNat : Nat) : Int) ≤ 57 := by rw [hc2]; omega
                have HX : Hid (numB xs = false) := HFA.out (hasDigs_false hil (by unfold isDig; rw [← HC.out]; simp; omega))
                clear hc2
                go_wp2
                go_ret
                exact ⟨ret_bool HX.out.symm, rfl⟩
          · have t1 : ¬ (i : Int) < (xs.length : Int) := by omega
            have HX : Hid (numB xs = true) := by
              show _ = _
              have := HA.out
              rw [List.take_of_length_le (by omega)] at this
              exact HTR.out this
            go_wp2
            go_ret
            exact ⟨ret_bool HX.out.symm, rfl⟩
      · have t1 : (1 : Int) < (xs.length : Int) := by omega
        have t2 : ¬ ((((⟨xs.toArray⟩ : ByteArray)[0]'hs0).toNat : Nat) : Int) = 48 := by rw [hc0]; omega
        clear hc0 h2
        go_enter Try.func107, Try.ntmps107
        go_wp2
        go_loop [3] (fun t => ∃ i : Nat, i ≤ xs.length ∧ t = .int .i64 i ∧ (xs.take i).all isDig = true) (fun t => xs.length - (intOf t).toNat)
        case atStart => exact ⟨0, by omega, rfl, by simp⟩
        case round =>
          obtain ⟨i, hi, rfl, hall⟩ := hrel
          have HA := Lib.hid hall
          clear hall
          by_cases hil : i < xs.length
          · have t1 : (i : Int) < (xs.length : Int) := by omega
            have hs : i < (⟨xs.toArray⟩ : ByteArray).size := by rw [str_size]; exact hil
            obtain ⟨c, hc⟩ : ∃ c : Nat, c = xs[i].toNat := ⟨_, rfl⟩
            have hc2 : ((⟨xs.toArray⟩ : ByteArray)[i]'hs).toNat = c := hc.symm
            have HC := Lib.hid hc
            clear hc
            by_cases h1 : c < 48
            · have t2 : ¬ (48 : Int) ≤ ((((⟨xs.toArray⟩ : ByteArray)[i]'hs).toNat : Nat) : Int) := by rw [hc2]; omega
              have HX : Hid (numB xs = false) := HFA.out (hasDigs_false hil (by unfold isDig; rw [← HC.out]; simp; omega))
              clear hc2
              go_wp2
              go_ret
              exact ⟨ret_bool HX.out.symm, rfl⟩
            · have t2 : (48 : Int) ≤ ((((⟨xs.toArray⟩ : ByteArray)[i]'hs).toNat : Nat) : Int) := by rw [hc2]; omega
              by_cases h2 : c ≤ 57
              · have t3 : ((((⟨xs.toArray⟩ : ByteArray)[i]'hs).toNat : Nat) : Int) ≤ 57 := by rw [hc2]; omega
                have HX : Hid (isDig xs[i] = true) := by show _ = _; unfold isDig; rw [← HC.out]; simp; omega
                clear hc2
                go_wp2
                go_round
                case rel => exact ⟨i + 1, by omega, by go_num, by first | exact all_take_succ hil HA.out HX.out | exact List.all_eq_true.1 (all_take_succ hil HA.out HX.out)⟩
                case measure => simp [intOf]; omega
              · have t3 : ¬ ((((⟨xs.toArray⟩ : ByteArray)[i]'hs).toNat : Nat) : Int) ≤ 57 := by rw [hc2]; omega
                have HX : Hid (numB xs = false) := HFA.out (hasDigs_false hil (by unfold isDig; rw [← HC.out]; simp; omega))
                clear hc2
                go_wp2
                go_ret
                exact ⟨ret_bool HX.out.symm, rfl⟩
          · have t1 : ¬ (i : Int) < (xs.length : Int) := by omega
            have HX : Hid (numB xs = true) := by
              show _ = _
              have := HA.out
              rw [List.take_of_length_le (by omega)] at this
              exact HTR.out this
            go_wp2
            go_ret
            exact ⟨ret_bool HX.out.symm, rfl⟩
end Go.Proofs.Ytdnnjjclklcihaa
