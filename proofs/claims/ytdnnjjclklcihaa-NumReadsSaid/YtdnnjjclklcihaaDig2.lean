/- fromWord, toWord, bitLength, isOne, isOdd, compare. -/
import Derived.Test.YtdnnjjclklcihaaDig1
import Derived.Test.YtdnnjjclklcihaaShelf
set_option linter.unusedVariables false
namespace Go.Proofs.Ytdnnjjclklcihaa
open Go.RowKit

/-- Returned: a slice with the digits of n; what was there is as it was. -/
def Out32 (w : World) (n : Nat) (e : Ending) (w' : World) : Prop := ∃ ao len cap, e = .returned (.slice ao len cap) ∧ N32 w' ao len n ∧ Below w.heap.size w w'

set_option maxHeartbeats 400000 in
theorem fromWord_any (N : Int) (n : Nat) (w : World) (hN : N = (n : Int)) (hn : n ≤ 18446744073709551615) :
    Calls Try.prog 63 #[.int .u64 N] w (Out32 w n) := by
  subst hN
  have hB := Blk.new' w .u32 104 [n % B32, n / B32] #[Value.int IntKind.u32 (↑n % 4294967296), Value.int IntKind.u32 (↑n / 4294967296)] (by simp [cs, B32_eq])
  have hS := hB.sl0 2 (by simp)
  have hbel : Below w.heap.size w (w.alloc (Obj.cells #[Value.int IntKind.u32 (↑n % 4294967296), Value.int IntKind.u32 (↑n / 4294967296)] 104)) := (Below.refl _ _).alloc (Nat.le_refl _) _
  clear hB
  have HS := Lib.hid hS
  have HB := Lib.hid hbel
  clear hS hbel
  go_enter Try.func63, Try.ntmps63
  go_wp2_with (go_at_call 98; refine (trim_raw _ _ _ _ _ HS.out (by omega) (by omega)).mono ?_; rintro e w1 ⟨⟨ao, m, rfl, hm, ha, hz, ht, hzz⟩, rfl⟩)
  go_ret
  refine ⟨ao, m, m, rfl, ⟨_, (trim_sl HS.out hm ha), ?_, ht, ?_⟩, HB.out⟩
  · refine Dig.take ?_ _
    refine Dig.take ?_ _
    exact Dig.cons (Nat.mod_lt _ B32_pos) (Dig.cons (by rw [B32_eq]; omega) (Dig.nil _))
  · rw [val_take_of_zeros hzz]
    simp only [List.take_succ_cons, List.take_zero, val, B32_eq]
    omega

/-- a + 2^32 x as Go's 'or' has it -/
theorem or_shift (a x i m : Nat) (ha : a < 2 ^ i) (hm : m = 2 ^ i) (h : x * m < 18446744073709551616) (h2 : a < 18446744073709551616) :
    bits BinOp.or IntKind.u64 (a : Int) ((x : Int) * (m : Int)) = ((a + x * m : Nat) : Int) := by
  rw [show ((x : Int) * (m : Int)) = ((x * m : Nat) : Int) by push_cast; rfl]
  rw [u64_or_nat _ _ h2 h]
  congr 1
  subst hm
  have := Nat.two_pow_add_eq_or_of_lt ha x
  rw [Nat.or_comm, Nat.mul_comm x, ← this]
  omega

set_option maxHeartbeats 400000 in
theorem toWord_any (ao : Option Addr) (len cap : Nat) (n : Nat) (w : World) (hs : N32 w ao len n) (hl : len ≤ 2) :
    Calls Try.prog 67 #[.slice ao len cap] w fun e w' => e = .returned (.int .u64 (n : Int)) ∧ w = w' := by
  obtain ⟨xs, hsl, hd, ht, hv⟩ := hs
  have d0 := hd.get B32_pos 0
  have d1 := hd.get B32_pos 1
  obtain ⟨x0, e0⟩ : ∃ x, x = xs[0]?.getD 0 := ⟨_, rfl⟩
  obtain ⟨x1, e1⟩ : ∃ x, x = xs[1]?.getD 0 := ⟨_, rfl⟩
  rw [B32_eq, ← e0] at d0
  rw [B32_eq, ← e1] at d1
  have H := Lib.hid hsl
  have E0 := Lib.hid e0
  have E1 := Lib.hid e1
  have V := Lib.hid hv
  have T := Lib.hid ht
  clear hsl e0 e1 hv hd ht
  go_enter Try.func67, Try.ntmps67
  go_wp2_with fail
  refine (digit_any _ _ _ xs _ 0 _ H.out rfl).mono ?_
  rw [← E0.out]
  rintro e w1 ⟨rfl, rfl⟩
  go_wp2_with fail
  refine (digit_any _ _ _ xs _ 1 _ H.out rfl).mono ?_
  rw [← E1.out]
  rintro e w1 ⟨rfl, rfl⟩
  go_wp2_with fail
  go_ret
  refine ⟨ret_int ?_, rfl⟩
  have h := or_shift x0 x1 32 4294967296 (by omega) (by decide) (by omega) (by omega)
  refine h.trans ?_
  have hx := H.out.len
  have hv := V.out
  have : xs = xs.take 2 := (List.take_of_length_le (by omega)).symm
  rw [this, val_take_succ, val_take_succ] at hv
  have e0 := E0.out
  have e1 := E1.out
  simp [val, B32_eq] at hv
  omega

/-- how many binary digits -/
def blen (n : Nat) : Nat := if n = 0 then 0 else Nat.log2 n + 1

theorem blen_zero : blen 0 = 0 := rfl
theorem blen_le {n k : Nat} : blen n ≤ k ↔ n < 2 ^ k := by
  unfold blen
  split
  · rename_i h; subst h; simp [Nat.pow_pos]
  · rename_i h; rw [← Nat.log2_lt h]; omega

theorem blen_eq {n k : Nat} (h1 : 2 ^ k ≤ n) (h2 : n < 2 ^ (k + 1)) : blen n = k + 1 := by
  have a := (blen_le (n := n) (k := k + 1)).2 h2
  have b : ¬ blen n ≤ k := fun h => by have := blen_le.1 h; omega
  omega

theorem blen_low {n : Nat} (h : n ≠ 0) : 2 ^ (blen n - 1) ≤ n := by
  unfold blen
  rw [if_neg h]
  exact Nat.log2_self_le h

theorem blen_lt (n : Nat) : n < 2 ^ blen n := blen_le.1 (Nat.le_refl _)

/-- of a row of digits with a top: by the top digit -/
theorem blen_digits {n m t l : Nat} (hm : m < 2 ^ (32 * l)) (ht : t ≠ 0) (hn : n = m + 2 ^ (32 * l) * t) : blen n = 32 * l + blen t := by
  have h1 := blen_low ht
  have h2 := blen_lt t
  have h3 : blen t ≠ 0 := by intro e; rw [e] at h2; simp at h2; omega
  have e : blen n = (32 * l + (blen t - 1)) + 1 := by
    apply blen_eq
    · rw [Nat.pow_add]
      have := Nat.mul_le_mul_left (2 ^ (32 * l)) h1
      omega
    · rw [Nat.add_assoc, show blen t - 1 + 1 = blen t by omega, Nat.pow_add]
      have := Nat.mul_le_mul_left (2 ^ (32 * l)) (Nat.succ_le_of_lt h2)
      rw [Nat.succ_eq_add_one, Nat.mul_add] at this
      omega
  omega

theorem aux_blen : ∀ (f x : Nat), x < 2 ^ f → Lib.bitLenAux f x = blen x
  | 0, x, h => by
    obtain rfl : x = 0 := by simpa using h
    rfl
  | f + 1, x, h => by
    simp only [Lib.bitLenAux]
    split
    · rename_i h0; subst h0; rfl
    · rename_i h0
      rw [aux_blen f (x / 2) (by rw [Nat.pow_succ] at h; omega)]
      by_cases h1 : x = 1
      · subst h1; rfl
      · have e : blen x = blen (x / 2) + 1 := by
          have h2 := blen_low (n := x / 2) (by omega)
          have h3 := blen_lt (x / 2)
          have h4 : blen (x / 2) ≠ 0 := by intro e; rw [e] at h3; simp at h3; omega
          have := blen_eq (n := x) (k := blen (x / 2)) (by
            rw [show blen (x / 2) = (blen (x / 2) - 1) + 1 by omega, Nat.pow_succ]; omega) (by rw [Nat.pow_succ]; omega)
          exact this
        omega

theorem lib_blen (x : Nat) (h : x < 4294967296) : Lib.bitLen x = blen x := aux_blen 64 x (by omega)

theorem B32_pow (k : Nat) : B32 ^ k = 2 ^ (32 * k) := by
  rw [Nat.pow_mul]; rfl

set_option maxHeartbeats 400000 in
theorem bitLength_any (ao : Option Addr) (len cap : Nat) (n : Nat) (w : World) (hs : N32 w ao len n) (hl : len ≤ 1000000000) :
    Calls Try.prog 68 #[.slice ao len cap] w fun e w' => e = .returned (.int .i64 (blen n : Nat)) ∧ w = w' := by
  obtain ⟨xs, ⟨hx, b, off, h0, hc⟩, hd, ht, hv⟩ := hs
  have hL := Lib.hid hl
  by_cases hz : len = 0
  · have hn : n = 0 := by
      obtain rfl : xs = [] := List.eq_nil_of_length_eq_zero (by omega)
      exact hv.symm
    rw [hn]
    subst hz
    clear hx hc hv hd ht h0 hl hn
    go_enter Try.func68, Try.ntmps68
    go_wp2
    go_ret
    exact ⟨rfl, rfl⟩
  · obtain ⟨m, rfl⟩ : ∃ m, len = m + 1 := ⟨len - 1, by omega⟩
    obtain rfl := h0 (by omega)
    have hcell := hc m (by omega)
    have hb := hd.get B32_pos m
    have hne : xs[m]?.getD 0 ≠ 0 := by
      have := ht (by intro e; simp [e] at hx)
      rw [List.getLastD_eq_getLast?, List.getLast?_eq_getElem?, hx] at this
      simpa using this
    have hval : n = val B32 (xs.take m) + 2 ^ (32 * m) * (xs[m]?.getD 0) := by
      rw [← hv, ← B32_pow, ← val_take_succ, List.take_of_length_le (by omega)]
    have hlt : val B32 (xs.take m) < 2 ^ (32 * m) := by
      have := val_lt B32_pos (hd.take m)
      rw [List.length_take, Nat.min_eq_left (by omega), B32_pow] at this
      exact this
    have hfin := blen_digits hlt hne hval
    have hle : blen (xs[m]?.getD 0) ≤ 32 := blen_le.2 (by rw [B32_eq] at hb; exact hb)
    rw [hfin]
    obtain ⟨x, hxe⟩ : ∃ x, x = xs[m]?.getD 0 := ⟨_, rfl⟩
    rw [← hxe] at hcell hb hne hle ⊢
    rw [B32_eq] at hb
    have hm : m ≤ 1000000000 := by omega
    have HE := Lib.hid (lib_blen x hb)
    clear hx hc hv hd ht h0 hl hz hval hlt hfin hxe hne
    go_enter Try.func68, Try.ntmps68
    go_wp2_with (go_at_call 102; refine (Try.bits_LeadingZeros32 _ _ (by omega) (by omega)).mono ?_; rw [Int.toNat_natCast, HE.out]; rintro e w1 ⟨rfl, rfl⟩)
    go_ret
    refine ⟨ret_int ?_, rfl⟩
    push_cast
    omega

def isOneB (n : Nat) : Bool := n == 1

set_option maxHeartbeats 400000 in
theorem isOne_any (ao : Option Addr) (len cap : Nat) (n : Nat) (w : World) (hs : N32 w ao len n) (hl : len ≤ 1000000000) :
    Calls Try.prog 122 #[.slice ao len cap] w fun e w' => e = .returned (.bool (n == 1)) ∧ w = w' := by
  obtain ⟨xs, ⟨hx, b, off, h0, hc⟩, hd, ht, hv⟩ := hs
  have hiff : (n == 1) = (len == 1 && xs[0]?.getD 0 == 1) := by
    rw [Bool.eq_iff_iff]
    simp only [beq_iff_eq, Bool.and_eq_true]
    constructor
    · rintro rfl
      have : xs = [1] := val_inj B32_pos hd (Dig.cons (by decide) (Dig.nil _)) ht (fun _ => by simp) (by rw [hv]; rfl)
      subst this
      exact ⟨hx.symm, rfl⟩
    · rintro ⟨rfl, h2⟩
      match xs, hx with
      | [y], _ => simp at h2; subst h2; exact hv.symm
  rw [hiff]
  by_cases h1 : len = 1
  · subst h1
    obtain rfl := h0 (by omega)
    have hcell := hc 0 (by omega)
    rw [Nat.add_zero] at hcell
    obtain ⟨x, hxe⟩ : ∃ x, x = xs[0]?.getD 0 := ⟨_, rfl⟩
    rw [← hxe] at hcell ⊢
    clear hx hc hd ht h0 hl hiff hv hxe
    by_cases hx1 : x = 1
    · subst hx1
      go_enter Try.func122, Try.ntmps122
      go_wp2
      go_ret
      exact ⟨rfl, rfl⟩
    · have hb : ((x : Int) == 1) = false := by simp; omega
      have hb2 : (x == 1) = false := by simp; omega
      rw [hb2]
      clear hb2
      go_enter Try.func122, Try.ntmps122
      go_wp2
      go_ret
      exact ⟨rfl, rfl⟩
  · have hb : ((len : Int) == 1) = false := by simp; omega
    have hb2 : (len == 1) = false := by simp; omega
    rw [hb2]
    clear hx hc hd ht h0 hiff hv hb2
    go_enter Try.func122, Try.ntmps122
    go_wp2
    go_ret
    exact ⟨rfl, rfl⟩

theorem u32_and_one (x : Nat) (h : x < 4294967296) : bits BinOp.and IntKind.u32 (x : Int) 1 = ((x % 2 : Nat) : Int) := by
  have := u32_and_nat x 1 h (by decide)
  rw [Nat.and_one_is_mod] at this
  exact this

set_option maxHeartbeats 400000 in
theorem isOdd_any (ao : Option Addr) (len cap : Nat) (n : Nat) (w : World) (hs : N32 w ao len n) :
    Calls Try.prog 96 #[.slice ao len cap] w fun e w' => e = .returned (.bool (n % 2 == 1)) ∧ w = w' := by
  obtain ⟨xs, hsl, hd, ht, hv⟩ := hs
  have hx := hd.get B32_pos 0
  obtain ⟨x, hxe⟩ : ∃ x, x = xs[0]?.getD 0 := ⟨_, rfl⟩
  have hn : n % 2 = x % 2 := by
    rw [← hv, hxe]
    cases xs with
    | nil => rfl
    | cons y ys => simp [val, B32_eq]; omega
  rw [hn]
  rw [← hxe] at hx
  rw [B32_eq] at hx
  have H := Lib.hid hsl
  have HX := Lib.hid hxe
  clear hsl hd ht hv hxe hn
  go_enter Try.func96, Try.ntmps96
  go_wp2_with (go_at_call 101; refine (digit_any _ _ _ xs _ 0 _ H.out rfl).mono ?_; rw [← HX.out]; rintro e w1 ⟨rfl, rfl⟩)
  go_ret
  refine ⟨ret_bool ?_, rfl⟩
  have h := u32_and_one x hx
  rw [h]
  rw [Bool.eq_iff_iff]
  simp only [beq_iff_eq]
  omega
end Go.Proofs.Ytdnnjjclklcihaa
