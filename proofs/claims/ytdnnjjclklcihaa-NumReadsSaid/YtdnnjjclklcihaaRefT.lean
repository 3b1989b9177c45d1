/- The specification: toInt. -/
import Derived.Test.YtdnnjjclklcihaaLaw4
set_option linter.unusedVariables false
namespace Go.Proofs.Ytdnnjjclklcihaa
open Go.RowKit Go.Proofs

theorem val_drop_le {B : Nat} (hB : 0 < B) (xs : List Nat) (i : Nat) (hi : i ≤ xs.length) : val B (xs.drop i) ≤ val B xs := by
  rw [val_split B xs i hi]
  have : 1 * val B (xs.drop i) ≤ B ^ i * val B (xs.drop i) := Nat.mul_le_mul_right _ (Nat.pow_pos hB)
  omega

set_option maxHeartbeats 800000 in
theorem toInt16_fit (ao : Option Addr) (len cap n : Nat) (w : World) (h : N16 w ao len n) (hl : len ≤ 1000000000) (hn : n ≤ 9223372036854775807) :
    Calls Try.prog 76 #[.slice ao len cap] w fun e w' => e = .returned (.tuple #[.int .i64 (n : Int), .bool true]) ∧ w = w' := by
  have H := Lib.hid h
  obtain ⟨xs, ⟨hx, b, off, h0, hc⟩, hd, ht, hv⟩ := h
  have HX := Lib.hid hx
  have HD := Lib.hid hd
  have HV := Lib.hid hv
  have H0 := Lib.hid h0
  have HC := Lib.hid hc
  have hbl : blen n ≤ 63 := blen_le.2 (by have : (2 : Nat) ^ 63 = 9223372036854775808 := by decide
                                          omega)
  clear hx hd ht hv h0 hc
  go_enter Try.func76, Try.ntmps76
  go_wp2_with fail
  refine (bitLen16_raw _ _ _ _ _ H.out hl).mono ?_
  rintro e w1 ⟨rfl, rfl⟩
  obtain ⟨k, hk⟩ : ∃ k, k = blen n := ⟨_, rfl⟩
  rw [← hk] at hbl ⊢
  have t0 : ¬ (63 : Int) < (k : Int) := by omega
  clear hk
  go_wp2_with fail
  go_loop [4, 5] (fun xv iv => ∃ i : Nat, i ≤ len ∧ iv = .int .i64 ((i : Int) - 1) ∧ xv = .int .i64 ((val B16 (xs.drop i) : Nat) : Int)) (fun _ iv => (intOf iv + 1).toNat)
  case atStart => exact ⟨len, Nat.le_refl _, rfl, by rw [List.drop_of_length_le (by have := HX.out; omega)]; rfl⟩
  case round =>
    obtain ⟨i, hi, rfl, rfl⟩ := hrel
    by_cases hi0 : i = 0
    · subst hi0
      go_wp2
      go_ret2
      refine ⟨?_, rfl⟩
      have := HV.out
      simp only [List.drop_zero]
      rw [this]
      rfl
    · obtain ⟨j, rfl⟩ : ∃ j, i = j + 1 := ⟨i - 1, by omega⟩
      obtain rfl := H0.out (by omega)
      have e1 : (((j + 1 : Nat) : Int) - 1) = (j : Int) := by omega
      rw [e1]
      clear e1
      have c1 := HC.out j (by omega)
      have hjx : j < xs.length := by have := HX.out; omega
      have b1 : (0 : Int) ≤ (j : Int) := by omega
      have b2 : (j : Int) < (len : Int) := by omega
      have hstep : val B16 (xs.drop j) = xs[j]?.getD 0 + B16 * val B16 (xs.drop (j + 1)) := by rw [drop_eq_cons xs j hjx, val_cons]
      have hle := val_drop_le B16_pos xs j (by omega)
      rw [HV.out] at hle
      have hxb := HD.out.get B16_pos j
      rw [B16_eq] at hxb
      obtain ⟨x, hxe⟩ : ∃ x, x = xs[j]?.getD 0 := ⟨_, rfl⟩
      obtain ⟨v, hve⟩ : ∃ v, v = val B16 (xs.drop (j + 1)) := ⟨_, rfl⟩
      obtain ⟨u, hue⟩ : ∃ u, u = val B16 (xs.drop j) := ⟨_, rfl⟩
      rw [← hxe] at c1 hxb hstep
      rw [← hve] at hstep ⊢
      rw [← hue] at hstep hle
      rw [B16_eq] at hstep
      have HU := Lib.hid hue
      have hv2 : v * 65536 + x = u := by omega
      have b3 : v * 65536 + x ≤ 9223372036854775807 := by omega
      clear hxe hve hue hstep hle
      go_wp2
      go_round
      case rel => exact ⟨j, by omega, rfl, congrArg (Value.int _) (by rw [← HU.out]; omega)⟩
      case measure => simp [intOf]

set_option maxHeartbeats 400000 in
theorem toInt16_out (ao : Option Addr) (len cap n : Nat) (w : World) (h : N16 w ao len n) (hl : len ≤ 1000000000) (hn : 9223372036854775807 < n) :
    Calls Try.prog 76 #[.slice ao len cap] w fun e w' => e = .returned (.tuple #[.int .i64 0, .bool false]) ∧ w = w' := by
  have H := Lib.hid h
  have hbl : 63 < blen n := by
    rcases Nat.lt_or_ge 63 (blen n) with h1 | h1
    · exact h1
    · have := blen_le.1 h1
      have e : (2 : Nat) ^ 63 = 9223372036854775808 := by decide
      omega
  clear h hn
  go_enter Try.func76, Try.ntmps76
  go_wp2_with fail
  refine (bitLen16_raw _ _ _ _ _ H.out hl).mono ?_
  rintro e w1 ⟨rfl, rfl⟩
  obtain ⟨k, hk⟩ : ∃ k, k = blen n := ⟨_, rfl⟩
  rw [← hk] at hbl ⊢
  have t0 : (63 : Int) < (k : Int) := by omega
  clear hk
  go_wp2
  go_ret2
  exact ⟨rfl, rfl⟩
end Go.Proofs.Ytdnnjjclklcihaa
