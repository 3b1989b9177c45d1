/- Texts: hasDigits, isPositive, isNumeral. -/
import Derived.Test.YtdnnjjclklcihaaIntB
import Derived.Test.YtdnnjjclklcihaaShelf
set_option linter.unusedVariables false
namespace Go.Proofs.Ytdnnjjclklcihaa
open Go.RowKit Go.Proofs

def isDig (c : UInt8) : Bool := decide (48 ≤ c.toNat) && decide (c.toNat ≤ 57)
def hasDigs (xs : List UInt8) : Bool := xs.all isDig && decide (xs ≠ [])

theorem all_take_succ {xs : List UInt8} {i : Nat} (hi : i < xs.length) (h : (xs.take i).all isDig = true) (hd : isDig xs[i] = true) : (xs.take (i + 1)).all isDig = true := by
  rw [List.take_succ_eq_append_getElem hi, List.all_append, h]
  simp [hd]

theorem hasDigs_false {xs : List UInt8} {i : Nat} (hi : i < xs.length) (hd : isDig xs[i] = false) : hasDigs xs = false := by
  unfold hasDigs
  rw [Bool.and_eq_false_iff]
  left
  rw [List.all_eq_false]
  exact ⟨xs[i], List.getElem_mem hi, by simp [hd]⟩

theorem str_size (xs : List UInt8) : (⟨xs.toArray⟩ : ByteArray).size = xs.length := by simp [ByteArray.size]
theorem str_get (xs : List UInt8) (i : Nat) (hi : i < xs.length) (h : i < (⟨xs.toArray⟩ : ByteArray).size) : (⟨xs.toArray⟩ : ByteArray)[i]'h = xs[i] := rfl

set_option maxHeartbeats 400000 in
theorem hasDigits_any (xs : List UInt8) (w : World) (hl : xs.length ≤ 1000000000) :
    Calls Try.prog 126 #[.string ⟨xs.toArray⟩] w fun e w' => e = .returned (.bool (hasDigs xs)) ∧ w = w' := by
  go_enter Try.func126, Try.ntmps126
  go_wp2
  go_loop [3] (fun t => ∃ i : Nat, i ≤ xs.length ∧ t = .int .i64 i ∧ (xs.take i).all isDig = true) (fun t => xs.length - (intOf t).toNat)
  case atStart => exact ⟨0, by omega, rfl, by simp⟩
  case round =>
    obtain ⟨i, hi, rfl, hall⟩ := hrel
    have HA := Lib.hid hall
    clear hall
    by_cases hil : i < xs.length
    · have t1 : (i : Int) < (xs.length : Int) := by omega
      have hs : i < (⟨xs.toArray⟩ : ByteArray).size := by rw [str_size]; exact hil
      obtain ⟨c, hc⟩ : ∃ c : Nat, c = xs[i].toNat := ⟨_, rfl⟩
      have hc2 : ((⟨xs.toArray⟩ : ByteArray)[i]'hs).toNat = c := hc.symm
      have HC := Lib.hid hc
      clear hc
      by_cases h1 : c < 48
      · have t2 : ¬ (48 : Int) ≤ ((((⟨xs.toArray⟩ : ByteArray)[i]'hs).toNat : Nat) : Int) := by rw [hc2]; omega
        have HX : Hid (hasDigs xs = false) := hasDigs_false hil (by unfold isDig; rw [← HC.out]; simp; omega)
        clear hc2
        go_wp2
        go_ret
        exact ⟨ret_bool HX.out.symm, rfl⟩
      · have t2 : (48 : Int) ≤ ((((⟨xs.toArray⟩ : ByteArray)[i]'hs).toNat : Nat) : Int) := by rw [hc2]; omega
        by_cases h2 : c ≤ 57
        · have t3 : ((((⟨xs.toArray⟩ : ByteArray)[i]'hs).toNat : Nat) : Int) ≤ 57 := by rw [hc2]; omega
          have HX : Hid (isDig xs[i] = true) := by show _ = _; unfold isDig; rw [← HC.out]; simp; omega
          clear hc2
          go_wp2
          go_round
          case rel => exact ⟨i + 1, by omega, by go_num, all_take_succ hil HA.out HX.out⟩
          case measure => simp [intOf]; omega
        · have t3 : ¬ ((((⟨xs.toArray⟩ : ByteArray)[i]'hs).toNat : Nat) : Int) ≤ 57 := by rw [hc2]; omega
          have HX : Hid (hasDigs xs = false) := hasDigs_false hil (by unfold isDig; rw [← HC.out]; simp; omega)
          clear hc2
          go_wp2
          go_ret
          exact ⟨ret_bool HX.out.symm, rfl⟩
    · have t1 : ¬ (i : Int) < (xs.length : Int) := by omega
      have HX : Hid (xs.all isDig = true) := by
        show _ = _
        have := HA.out
        rwa [List.take_of_length_le (by omega)] at this
      go_wp2
      go_ret
      refine ⟨ret_bool ?_, rfl⟩
      unfold hasDigs
      rw [HX.out]
      cases xs <;> simp

def isPos (xs : List UInt8) : Bool := hasDigs xs && decide (xs.head? ≠ some 48)

theorem hasDigs_ne {xs : List UInt8} (h : hasDigs xs = true) : xs ≠ [] := by
  unfold hasDigs at h
  simp at h
  exact h.2

set_option maxHeartbeats 400000 in
theorem isPositive_any (xs : List UInt8) (w : World) (hl : xs.length ≤ 1000000000) :
    Calls Try.prog 103 #[.string ⟨xs.toArray⟩] w fun e w' => e = .returned (.bool (isPos xs)) ∧ w = w' := by
  cases h : hasDigs xs with
  | false =>
    have HE : Hid (isPos xs = false) := by show _ = _; unfold isPos; rw [h]; rfl
    rw [HE.out]
    go_enter Try.func103, Try.ntmps103
    go_wp2_with fail
    refine (hasDigits_any xs _ hl).mono ?_
    rw [h]
    rintro e w1 ⟨rfl, rfl⟩
    clear h
    go_wp2
    go_ret
    exact ⟨rfl, rfl⟩
  | true =>
    obtain ⟨x, t, rfl⟩ : ∃ x t, xs = x :: t := by
      cases xs with
      | nil => exact absurd rfl (hasDigs_ne h)
      | cons x t => exact ⟨x, t, rfl⟩
    go_enter Try.func103, Try.ntmps103
    go_wp2_with fail
    refine (hasDigits_any _ _ hl).mono ?_
    rw [h]
    rintro e w1 ⟨rfl, rfl⟩
    have H := Lib.hid h
    clear h
    go_wp2
    go_ret
    refine ⟨ret_bool ?_, rfl⟩
    unfold isPos
    rw [H.out]
    show (((x.toNat : Nat) : Int) != 48) = _
    by_cases hx : x = 48
    · subst hx; rfl
    · have : x.toNat ≠ 48 := fun h => hx (UInt8.toNat_inj.1 h)
      simp [hx]
      omega

def isNum (xs : List UInt8) : Bool := decide (xs = [48]) || isPos (Lib.trimPrefix xs [45])

set_option maxHeartbeats 400000 in
theorem isNumeral_any (xs : List UInt8) (w : World) (hl : xs.length ≤ 1000000000) :
    Calls Try.prog 70 #[.string ⟨xs.toArray⟩] w fun e w' => e = .returned (.bool (isNum xs)) ∧ w = w' := by
  by_cases h0 : xs = [48]
  · subst h0
    go_enter Try.func70, Try.ntmps70
    go_wp2
    go_ret
    exact ⟨rfl, rfl⟩
  · have HE : Hid (isNum xs = isPos (Lib.trimPrefix xs [45])) := by show _ = _; unfold isNum; rw [decide_eq_false h0]; rfl
    rw [HE.out]
    have hle := Lib.trimPrefix_le xs [45]
    go_enter Try.func70, Try.ntmps70
    go_wp2_with fail
    refine (Try.strings_TrimPrefix _ _ _).mono ?_
    rintro e w1 ⟨rfl, rfl⟩
    go_wp2_with fail
    refine (isPositive_any (Lib.trimPrefix xs [45]) _ (by omega)).mono ?_
    rintro e w1 ⟨rfl, rfl⟩
    have H0 := Lib.hid h0
    clear h0
    go_wp2
    go_ret
    refine ⟨ret_bool ?_, rfl⟩
    have : (xs == [48]) = false := by simpa using H0.out
    rw [this, Bool.false_or]
end Go.Proofs.Ytdnnjjclklcihaa
