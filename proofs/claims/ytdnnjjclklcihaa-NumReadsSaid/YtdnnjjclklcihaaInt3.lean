/- BitLen, String, Int of num's integers; commonWord; commonDivisor of small numbers. -/
import Derived.Test.YtdnnjjclklcihaaInt2
set_option linter.unusedVariables false
namespace Go.Proofs.Ytdnnjjclklcihaa
open Go.RowKit

def numeralZ (z : Int) : List UInt8 := if z < 0 then 45 :: numeral z.natAbs else numeral z.natAbs

theorem sgn_natAbs (s : Bool) (n : Nat) : (sgn s n).natAbs = n := by cases s <;> simp [sgn]

theorem numeralZ_neg {n : Nat} (h : n ≠ 0) : numeralZ (sgn true n) = 45 :: numeral n := by
  unfold numeralZ
  rw [sgn_natAbs, if_pos]
  simp only [sgn, if_true]; omega

theorem numeralZ_pos (n : Nat) : numeralZ (sgn false n) = numeral n := by
  unfold numeralZ
  rw [sgn_natAbs, if_neg]
  have : sgn false n = (n : Int) := rfl
  omega

theorem bytes_append (a b : List UInt8) : (⟨a.toArray⟩ ++ ⟨b.toArray⟩ : ByteArray) = ⟨(a ++ b).toArray⟩ := by
  apply ByteArray.ext
  rw [ByteArray.data_append]
  simp

theorem low_len {n k : Nat} (hn : n < B32 ^ k) : (low n).length ≤ 32 * k + 1 := by
  obtain ⟨h1, h2, h3⟩ := lowF_spec n n (Nat.le_refl _)
  by_cases h0 : low n = []
  · simp [h0]
  · have h4 := val_ge (B := 10) h2 h0
    rw [show val 10 (lowF n n) = n from h3] at h4
    have := text_len h4 hn
    unfold low at *
    omega

theorem numeral_len {n k : Nat} (hn : n < B32 ^ k) : (numeral n).length ≤ 32 * k + 1 := by
  unfold numeral
  split
  · simp
  · have := low_len hn
    simpa [chars] using this

theorem box_below (W : World) (T : Nat) (c : Array Value) : Below W.heap.size W (W.alloc (.cells c T)) := (Below.refl _ _).alloc (Nat.le_refl _) _

set_option maxHeartbeats 400000 in
theorem bitLen_any (neg : Bool) (ao : Option Addr) (len cap : Nat) (z : Int) (W : World) (h : Z32 W neg ao len z) (hl : len ≤ 1000000000) :
    Calls Try.prog 19 #[.agg #[.bool neg, .slice ao len cap]] W (fun e w' => e = .returned (.int .i64 (blen z.natAbs : Nat)) ∧ Below W.heap.size W w') := by
  obtain ⟨n, hn, rfl, hp⟩ := h
  rw [sgn_natAbs]
  have HN := Lib.hid (hn.keep (box_below W 24 #[.bool neg, .slice ao len cap]))
  clear hn hp
  go_enter Try.func19, Try.ntmps19
  go_wp2_with (go_at_call 68; refine (bitLength_any _ _ _ n _ HN.out hl).mono ?_; rintro e w1 ⟨rfl, rfl⟩)
  go_ret
  exact ⟨rfl, box_below _ _ _⟩

set_option maxHeartbeats 800000 in
theorem string_any (neg : Bool) (ao : Option Addr) (len cap : Nat) (z : Int) (W : World) (h : Z32 W neg ao len z) (hl : len ≤ 1000000000) :
    Calls Try.prog 26 #[.agg #[.bool neg, .slice ao len cap]] W (StrPost (numeralZ z) W) := by
  obtain ⟨n, hn, rfl, hp⟩ := h
  have HN := Lib.hid (hn.keep (box_below W 24 #[.bool neg, .slice ao len cap]))
  have HP := Lib.hid hp
  have hnl := numeral_len hn.lt
  have hnl2 : ¬ 9223372036854775807 < 1 + (numeral n).length := by omega
  clear hn hp hnl
  cases neg with
  | true =>
    have HE := Lib.hid (numeralZ_neg (HP.out rfl))
    rw [HE.out]
    go_enter Try.func26, Try.ntmps26
    go_wp2_with fail
    refine (writeDigits_any _ _ _ n _ HN.out hl).mono ?_
    rintro e w1 ⟨rfl, hb⟩
    have HB := Lib.hid hb
    have hx := Box.later hb
    have c0 : w1.cell? ⟨W.heap.size, 0, none⟩ = some (.bool true) := hx.cell 0
    clear hb hx
    go_wp2
    go_ret
    refine ⟨?_, below_then (box_below _ _ _) HB.out⟩
    have := bytes_append [45] (numeral n)
    exact congrArg (fun x => Ending.returned (Value.string x)) this
  | false =>
    have HE := Lib.hid (numeralZ_pos n)
    rw [HE.out]
    go_enter Try.func26, Try.ntmps26
    go_wp2_with fail
    refine (writeDigits_any _ _ _ n _ HN.out hl).mono ?_
    rintro e w1 ⟨rfl, hb⟩
    have HB := Lib.hid hb
    have hx := Box.later hb
    have c0 : w1.cell? ⟨W.heap.size, 0, none⟩ = some (.bool false) := hx.cell 0
    clear hb hx
    go_wp2
    go_ret
    exact ⟨rfl, below_then (box_below _ _ _) HB.out⟩

def IntPost (z : Int) (W : World) (e : Ending) (w' : World) : Prop :=
  e = .returned (if -9223372036854775808 ≤ z ∧ z ≤ 9223372036854775807 then .tuple #[.int .i64 z, .bool true] else .tuple #[.int .i64 0, .bool false]) ∧ Below W.heap.size W w'

set_option maxHeartbeats 800000 in
theorem toInt_any (neg : Bool) (ao : Option Addr) (len cap : Nat) (z : Int) (W : World) (h : Z32 W neg ao len z) :
    Calls Try.prog 17 #[.agg #[.bool neg, .slice ao len cap]] W (IntPost z W) := by
  obtain ⟨n, hn, rfl, hp⟩ := h
  have hlt := hn.lt
  have hge : 2 < len → 18446744073709551616 ≤ n := by
    intro hl
    obtain ⟨xs, h1, h2, h3, rfl⟩ := hn
    have := val_ge (B := B32) h3 (by intro e; rw [e] at h1; have := h1.len; simp at this; omega)
    rw [h1.len] at this
    have h4 : B32 ^ 2 ≤ B32 ^ (len - 1) := Nat.pow_le_pow_right B32_pos (by omega)
    have h5 : B32 ^ 2 = 18446744073709551616 := by decide
    omega
  have HN := Lib.hid (hn.keep (box_below W 24 #[.bool neg, .slice ao len cap]))
  have HP := Lib.hid hp
  have HG := Lib.hid hge
  clear hn hp hge
  by_cases hl : 2 < len
  · have b1 : (2 : Int) < (len : Int) := by omega
    go_enter Try.func17, Try.ntmps17
    go_wp2
    go_ret2
    refine ⟨?_, box_below _ _ _⟩
    have := HG.out hl
    rw [if_neg]
    · rfl
    · cases neg <;> simp [sgn] <;> omega
  · have b1 : ¬ (2 : Int) < (len : Int) := by omega
    have hn64 : n < 18446744073709551616 := by
      have h4 : B32 ^ len ≤ B32 ^ 2 := Nat.pow_le_pow_right B32_pos (by omega)
      have h5 : B32 ^ 2 = 18446744073709551616 := by decide
      omega
    clear hlt
    cases neg with
    | true =>
      have hn0 := HP.out rfl
      by_cases hb : n ≤ 9223372036854775808
      · have t1 : (n : Int) ≤ 9223372036854775808 := by omega
        go_enter Try.func17, Try.ntmps17
        go_wp2_with (go_at_call 67; refine (toWord_any _ _ _ n _ HN.out (by omega)).mono ?_; rintro e w1 ⟨rfl, rfl⟩)
        go_ret2
        refine ⟨?_, box_below _ _ _⟩
        have e : sgn true n = -(n : Int) := rfl
        have e2 : wrap64 (-wrap64 (n : Int)) = -(n : Int) := by unfold wrap64; omega
        rw [if_pos (by rw [e]; omega), e, ← e2]
        rfl
      · have t1 : ¬ (n : Int) ≤ 9223372036854775808 := by omega
        go_enter Try.func17, Try.ntmps17
        go_wp2_with (go_at_call 67; refine (toWord_any _ _ _ n _ HN.out (by omega)).mono ?_; rintro e w1 ⟨rfl, rfl⟩)
        go_ret2
        refine ⟨?_, box_below _ _ _⟩
        rw [if_neg (by simp only [sgn, if_true]; omega)]
        rfl
    | false =>
      by_cases hb : n ≤ 9223372036854775807
      · have t1 : (n : Int) ≤ 9223372036854775807 := by omega
        go_enter Try.func17, Try.ntmps17
        go_wp2_with (go_at_call 67; refine (toWord_any _ _ _ n _ HN.out (by omega)).mono ?_; rintro e w1 ⟨rfl, rfl⟩)
        go_ret2
        refine ⟨?_, box_below _ _ _⟩
        have e : sgn false n = (n : Int) := rfl
        rw [if_pos (by rw [e]; omega), e]
        rfl
      · have t1 : ¬ (n : Int) ≤ 9223372036854775807 := by omega
        go_enter Try.func17, Try.ntmps17
        go_wp2_with (go_at_call 67; refine (toWord_any _ _ _ n _ HN.out (by omega)).mono ?_; rintro e w1 ⟨rfl, rfl⟩)
        go_ret2
        refine ⟨?_, box_below _ _ _⟩
        have e : sgn false n = (n : Int) := rfl
        rw [if_neg (by rw [e]; omega)]
        rfl
end Go.Proofs.Ytdnnjjclklcihaa
