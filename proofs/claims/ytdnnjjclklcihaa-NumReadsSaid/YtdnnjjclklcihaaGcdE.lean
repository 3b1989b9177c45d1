/- commonWord; commonDivisor of numbers of at most two digits. -/
import Derived.Test.YtdnnjjclklcihaaInt3
set_option linter.unusedVariables false
namespace Go.Proofs.Ytdnnjjclklcihaa
open Go.RowKit

set_option maxHeartbeats 800000 in
theorem commonWord_any (A B : Int) (a b : Nat) (W : World) (hA : A = (a : Int)) (hB : B = (b : Int)) (ha : a < 18446744073709551616) (hb : b < 18446744073709551616) :
    Calls Try.prog 121 #[.int .u64 A, .int .u64 B] W (fun e w' => e = .returned (.int .u64 (Nat.gcd a b : Nat)) ∧ Drew W w') := by
  subst hA hB
  go_enter Try.func121, Try.ntmps121
  go_wp2
  go_loopw [0, 1] (fun xv yv wr => ∃ x y : Nat, xv = .int .u64 (x : Int) ∧ yv = .int .u64 (y : Int) ∧ x < 18446744073709551616 ∧ y < 18446744073709551616 ∧ Nat.gcd x y = Nat.gcd a b ∧ Drew W wr) (fun xv yv _ => (intOf yv).toNat)
  case atStart => exact ⟨a, b, rfl, rfl, ha, hb, rfl, Drew.refl _⟩
  case round =>
    obtain ⟨x, y, rfl, rfl, hx, hy, hg, hw⟩ := hrel
    have HG := Lib.hid hg
    have HW := Lib.hid hw
    clear hg hw
    by_cases hy0 : y = 0
    · subst hy0
      go_wp2
      go_ret
      have := HG.out
      rw [Nat.gcd_zero_right] at this
      exact ⟨ret_int (by rw [this]), HW.out⟩
    · have t1 : (0 : Int) < (y : Int) := by omega
      have hr : (x : Int).tmod (y : Int) = ((x % y : Nat) : Int) := (Int.ofNat_tmod _ _).symm
      have hr2 : x % y < y := Nat.mod_lt _ (by omega)
      have HR := Lib.hid hr
      clear hr
      go_wp2
      go_quiet (fail)
      go_wp2
      go_roundw
      case rel =>
        refine ⟨y, x % y, rfl, by first | rfl | exact congrArg (Value.int _) (by omega), hy, by omega, ?_, HW.out.more _⟩
        rw [← HG.out, Nat.gcd_comm x y, Nat.gcd_rec y x, Nat.gcd_comm]
      case measure => simp only [intOf]; omega

/-- duplicate, said of the number -/
def DupN (len n : Nat) (W : World) (e : Ending) (w' : World) : Prop := ∃ ao cap, e = .returned (.slice ao len cap) ∧ N32 w' ao len n ∧ Below W.heap.size W w'

theorem duplicate_n (ao : Option Addr) (len cap n : Nat) (W : World) (h : N32 W ao len n) (hl : len ≤ 1000000000) :
    Calls Try.prog 79 #[.slice ao len cap] W (DupN len n W) := by
  obtain ⟨xs, hs, hd, ht, hv⟩ := h
  refine (duplicate_any ao len cap xs W hs hl).mono fun e w' h => ?_
  rcases h with ⟨h1, h2, h3⟩ | ⟨h1, h2, h3, h4, h5⟩
  · subst h1 h3
    exact ⟨none, 0, h2, ⟨xs, ⟨hs.len, 0, 0, fun h => absurd h (Nat.lt_irrefl _), fun i hi => absurd hi (Nat.not_lt_zero _)⟩, hd, ht, hv⟩, Below.refl _ _⟩
  · exact ⟨_, len, h2, ⟨xs, h3.whole hs.len, hd, ht, hv⟩, h4⟩

def GcdOk (m n : Nat) : Prop := ∀ (ao bo : Option Addr) (la lb ca cb : Nat) (W : World), N32 W ao la m → N32 W bo lb n → la ≤ 1000000000 → lb ≤ 1000000000 →
  Calls Try.prog 91 #[.slice ao la ca, .slice bo lb cb] W (Out32 W (Nat.gcd m n))

theorem small2 {m : Nat} (h : m < 18446744073709551616) : m < B32 ^ 2 := by
  have : B32 ^ 2 = 18446744073709551616 := by decide
  omega

theorem blen_small {m : Nat} (h : m < 18446744073709551616) : blen m ≤ 64 := blen_le.2 h

set_option maxHeartbeats 2000000 in
theorem gcd_easy (m n : Nat) (hm : m < 18446744073709551616) (hn : n < 18446744073709551616) : GcdOk m n := by
  intro ao bo la lb ca cb W ha hb hla hlb
  have hla2 : la ≤ 2 := ha.len_le (small2 hm)
  have hlb2 : lb ≤ 2 := hb.len_le (small2 hn)
  have HA := Lib.hid ha
  have HB := Lib.hid hb
  clear ha hb
  have hbm : (blen m : Int) ≤ 64 := by have := blen_small hm; omega
  have hbn : (blen n : Int) ≤ 64 := by have := blen_small hn; omega
  go_enter Try.func91, Try.ntmps91
  go_wp2_with fail
  refine (duplicate_n _ _ _ m _ HA.out hla).mono ?_
  rintro e w1 ⟨ao1, ca1, rfl, ha1, hb1⟩
  have HA1 := Lib.hid ha1
  have HW1 := Lib.hid hb1
  clear ha1 hb1
  go_wp2_with fail
  refine (duplicate_n _ _ _ n _ (HB.out.keep HW1.out) hlb).mono ?_
  rintro e w2 ⟨bo2, cb2, rfl, hb2, hw2⟩
  have HA2 := Lib.hid (HA1.out.keep hw2)
  have HB2 := Lib.hid hb2
  have HW2 := Lib.hid (below_then HW1.out hw2)
  clear hb2 hw2
  go_wp2_with fail
  refine (compare_any _ _ _ _ _ _ m n _ HA2.out HB2.out hla hlb).mono ?_
  rintro e w3 ⟨rfl, hd3⟩
  have HA3 := Lib.hid (HA2.out.keep hd3.below)
  have HB3 := Lib.hid (HB2.out.keep hd3.below)
  have HW3 := Lib.hid (HW2.out.trans (hd3.below))
  clear hd3
  by_cases hmn : m < n
  · rw [cmpN_lt hmn]
    have hlb0 : lb ≠ 0 := by have := HB3.out.zero; omega
    have hlbi : ((lb : Int) == 0) = false := by simp; omega
    go_wp2_with fail
    refine wp_loop_once ?_
    by_cases hl0 : la = 0
    · obtain rfl : m = 0 := HA3.out.zero.2 hl0
      subst hl0
      go_wp2_with (go_at_call 68; refine (bitLength_any _ _ _ n _ HB3.out hlb).mono ?_; rintro e w4 ⟨rfl, rfl⟩)
      go_ret
      exact ⟨bo2, lb, cb2, rfl, by rw [Nat.gcd_zero_left]; exact HB3.out, HW3.out⟩
    · have b1 : (0 : Int) < (la : Int) := by omega
      have b2 : ((la : Int) == 0) = false := by simp; omega
      go_wp2_with fail
      refine (bitLength_any _ _ _ n _ HB3.out hlb).mono ?_
      rintro e w4 ⟨rfl, rfl⟩
      go_wp2_with fail
      refine (toWord_any _ _ _ n _ HB3.out hlb2).mono ?_
      rintro e w5 ⟨rfl, rfl⟩
      go_wp2_with fail
      refine (toWord_any _ _ _ m _ HA3.out hla2).mono ?_
      rintro e w6 ⟨rfl, rfl⟩
      go_wp2_with fail
      refine (commonWord_any _ _ n m _ rfl rfl hn hm).mono ?_
      rintro e w7 ⟨rfl, hd7⟩
      go_wp2_with fail
      refine (fromWord_any _ (Nat.gcd n m) _ rfl (Nat.le_trans (Nat.gcd_le_left m (by omega)) (by omega))).mono ?_
      rintro e w8 ⟨ro, rl, rc, rfl, hr, hb8⟩
      go_wp2
      go_ret
      exact ⟨ro, rl, rc, rfl, by rw [Nat.gcd_comm]; exact hr, below_then (HW3.out.trans hd7.below) hb8⟩
  · by_cases he : m = n
    · rw [cmpN_eq he]
      clear he
      by_cases hl0 : lb = 0
      · obtain rfl : n = 0 := HB3.out.zero.2 hl0
        subst hl0
        go_wp2_with fail
        refine wp_loop_once ?_
        go_wp2
        go_ret
        exact ⟨ao1, la, ca1, rfl, by rw [Nat.gcd_zero_right]; exact HA3.out, HW3.out⟩
      · have b1 : (0 : Int) < (lb : Int) := by omega
        have b2 : ((lb : Int) == 0) = false := by simp; omega
        go_wp2_with fail
        refine wp_loop_once ?_
        go_wp2_with fail
        refine (bitLength_any _ _ _ m _ HA3.out hla).mono ?_
        rintro e w4 ⟨rfl, rfl⟩
        go_wp2_with fail
        refine (toWord_any _ _ _ m _ HA3.out hla2).mono ?_
        rintro e w5 ⟨rfl, rfl⟩
        go_wp2_with fail
        refine (toWord_any _ _ _ n _ HB3.out hlb2).mono ?_
        rintro e w6 ⟨rfl, rfl⟩
        go_wp2_with fail
        refine (commonWord_any _ _ m n _ rfl rfl hm hn).mono ?_
        rintro e w7 ⟨rfl, hd7⟩
        go_wp2_with fail
        refine (fromWord_any _ (Nat.gcd m n) _ rfl (Nat.le_trans (Nat.gcd_le_right m (by have := HB3.out.zero; omega)) (by omega))).mono ?_
        rintro e w8 ⟨ro, rl, rc, rfl, hr, hb8⟩
        go_wp2
        go_ret
        exact ⟨ro, rl, rc, rfl, hr, below_then (HW3.out.trans hd7.below) hb8⟩
    · rw [cmpN_gt (show n < m by omega)]
      by_cases hl0 : lb = 0
      · obtain rfl : n = 0 := HB3.out.zero.2 hl0
        subst hl0
        go_wp2_with fail
        refine wp_loop_once ?_
        go_wp2
        go_ret
        exact ⟨ao1, la, ca1, rfl, by rw [Nat.gcd_zero_right]; exact HA3.out, HW3.out⟩
      · have b1 : (0 : Int) < (lb : Int) := by omega
        have b2 : ((lb : Int) == 0) = false := by simp; omega
        go_wp2_with fail
        refine wp_loop_once ?_
        go_wp2_with fail
        refine (bitLength_any _ _ _ m _ HA3.out hla).mono ?_
        rintro e w4 ⟨rfl, rfl⟩
        go_wp2_with fail
        refine (toWord_any _ _ _ m _ HA3.out hla2).mono ?_
        rintro e w5 ⟨rfl, rfl⟩
        go_wp2_with fail
        refine (toWord_any _ _ _ n _ HB3.out hlb2).mono ?_
        rintro e w6 ⟨rfl, rfl⟩
        go_wp2_with fail
        refine (commonWord_any _ _ m n _ rfl rfl hm hn).mono ?_
        rintro e w7 ⟨rfl, hd7⟩
        go_wp2_with fail
        refine (fromWord_any _ (Nat.gcd m n) _ rfl (Nat.le_trans (Nat.gcd_le_right m (by have := HB3.out.zero; omega)) (by omega))).mono ?_
        rintro e w8 ⟨ro, rl, rc, rfl, hr, hb8⟩
        go_wp2
        go_ret
        exact ⟨ro, rl, rc, rfl, hr, below_then (HW3.out.trans hd7.below) hb8⟩
end Go.Proofs.Ytdnnjjclklcihaa
