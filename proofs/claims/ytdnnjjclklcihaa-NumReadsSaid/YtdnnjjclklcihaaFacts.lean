/- Small facts for the laws' walks. -/
import Derived.Test.YtdnnjjclklcihaaRefI
import Derived.Test.YtdnnjjclklcihaaArgRaw
set_option linter.unusedVariables false
namespace Go.Proofs.Ytdnnjjclklcihaa
open Go.RowKit Go.Proofs

theorem rawZ_natAbs (s : Bool) (xs : List Nat) (most : Nat) : (rawZ s xs most).natAbs = val B16 (xs.take most) := sgn_natAbs _ _

theorem rawZ_lt (s : Bool) (xs : List Nat) (hd : Dig B16 xs) (most : Nat) : (rawZ s xs most).natAbs < B16 ^ most := by
  rw [rawZ_natAbs]
  have h1 := val_lt B16_pos (hd.take most)
  exact Nat.lt_of_lt_of_le h1 (Nat.pow_le_pow_right B16_pos (by rw [List.length_take]; omega))

theorem rawZ_fits (s : Bool) (xs : List Nat) (hd : Dig B16 xs) (most : Nat) (hm : most ≤ 1024) : Fits (rawZ s xs most) := by
  unfold Fits
  have h1 := rawZ_lt s xs hd most
  rw [B16_pow] at h1
  have h2 := blen_le.2 h1
  omega

/-- what Int answers -/
def iv (z : Int) : Int := if -9223372036854775808 ≤ z ∧ z ≤ 9223372036854775807 then z else 0
def ib (z : Int) : Bool := if -9223372036854775808 ≤ z ∧ z ≤ 9223372036854775807 then true else false

theorem IntPost.one {z : Int} {W w' : World} {e : Ending} (h : IntPost z W e w') : e = .returned (.tuple #[.int .i64 (iv z), .bool (ib z)]) ∧ Below W.heap.size W w' := by
  refine ⟨?_, h.2⟩
  rw [h.1]
  unfold iv ib
  split <;> rfl

theorem fits_neg {z : Int} (h : Fits z) : Fits (-z) := by unfold Fits at *; rwa [Int.natAbs_neg]

theorem neg_len {w : World} {neg : Bool} {ao : Option Addr} {len : Nat} {z : Int} (h : Z32 w neg ao len (-z)) (hf : Fits z) : len ≤ 1000000000 := Nat.le_trans (fits_len h (fits_neg hf)) (by omega)
theorem opp_len {w : World} {neg : Bool} {ao : Option Addr} {len : Nat} {z : Int} (h : Z16 w neg ao len (-z)) (hf : Fits z) : len ≤ 1000000000 := Nat.le_trans (fits_len16 h (fits_neg hf)) (by omega)
end Go.Proofs.Ytdnnjjclklcihaa
