/- The laws' helper told. -/
import Derived.Test.YtdnnjjclklcihaaLaw1
import Derived.Test.YtdnnjjclklcihaaRefS
set_option linter.unusedVariables false
namespace Go.Proofs.Ytdnnjjclklcihaa
open Go.RowKit Go.Proofs

theorem numZ_0 : numeralZ 0 = [48] := by decide +kernel

set_option maxHeartbeats 1000000 in
theorem told_fit (na nb : Bool) (ao bo : Option Addr) (la lb ca cb : Nat) (z : Int) (W : World) (ha : Z32 W na ao la z) (hb : Z16 W nb bo lb z) (hla : la ≤ 1000000000) (hlb : lb ≤ 1000000000) (hfit : Fits z) :
    Calls Try.prog 27 #[.agg #[.bool na, .slice ao la ca], .int .i64 0, .agg #[.bool nb, .slice bo lb cb]] W (fun e w' => e = .returned (.bool true) ∧ Below W.heap.size W w') := by
  have hf : Fr W ((W.alloc (.cells #[.bool na, .slice ao la ca] 24)).alloc (.cells #[.bool nb, .slice bo lb cb] 28))
      [(24, #[.bool na, .slice ao la ca]), (28, #[.bool nb, .slice bo lb cb])] := ((Fr.nil W).alloc rfl _ _).alloc (by simp) _ _
  have HA := Lib.hid (ha.keep hf.below)
  have HB := Lib.hid (hb.keep hf.below)
  have HF := Lib.hid hf
  have HX := Lib.hid hfit
  clear ha hb hf hfit
  go_enter Try.func27, Try.ntmps27
  go_wp2_with fail
  refine (fits16_any _ _ _ _ z _ HB.out hlb).mono ?_
  rintro e w1 ⟨⟨_, rfl⟩ | ⟨h, _⟩, hb1⟩
  · have HF1 := Lib.hid (HF.out.later hb1)
    have HA1 := Lib.hid (HA.out.keep hb1)
    have HB1 := Lib.hid (HB.out.keep hb1)
    clear hb1
    have c0 : w1.cell? ⟨W.heap.size, 0, none⟩ = some (.bool na) := HF1.out.cell 0 0 rfl rfl
    have c1 : w1.cell? ⟨W.heap.size, 1, none⟩ = some (.slice ao la ca) := HF1.out.cell 0 1 rfl rfl
    have c2 : w1.cell? ⟨W.heap.size + 1, 0, none⟩ = some (.bool nb) := HF1.out.cell 1 0 rfl rfl
    have c3 : w1.cell? ⟨W.heap.size + 1, 1, none⟩ = some (.slice bo lb cb) := HF1.out.cell 1 1 rfl rfl
    go_wp2_with fail
    refine (is_any _ _ _ _ _ _ _ _ z _ HA1.out HB1.out hla hlb).mono ?_
    rintro e w2 ⟨rfl, hb2⟩
    have HF2 := Lib.hid (HF1.out.later hb2)
    clear hb2
    go_wp2
    go_ret
    exact ⟨rfl, HF2.out.below⟩
  · exact absurd HX.out h

set_option maxHeartbeats 1000000 in
theorem told_out (na nb : Bool) (ao bo : Option Addr) (la lb ca cb : Nat) (z : Int) (W : World) (ha : Z32 W na ao la 0) (hb : Z16 W nb bo lb z) (hla : la ≤ 1000000000) (hlb : lb ≤ 1000000000) (hfit : ¬ Fits z) :
    Calls Try.prog 27 #[.agg #[.bool na, .slice ao la ca], .int .i64 3, .agg #[.bool nb, .slice bo lb cb]] W (fun e w' => e = .returned (.bool true) ∧ Below W.heap.size W w') := by
  have hf : Fr W ((W.alloc (.cells #[.bool na, .slice ao la ca] 24)).alloc (.cells #[.bool nb, .slice bo lb cb] 28))
      [(24, #[.bool na, .slice ao la ca]), (28, #[.bool nb, .slice bo lb cb])] := ((Fr.nil W).alloc rfl _ _).alloc (by simp) _ _
  have HA := Lib.hid (ha.keep hf.below)
  have HB := Lib.hid (hb.keep hf.below)
  have HF := Lib.hid hf
  have HX := Lib.hid hfit
  clear ha hb hf hfit
  go_enter Try.func27, Try.ntmps27
  go_wp2_with fail
  refine (fits16_any _ _ _ _ z _ HB.out hlb).mono ?_
  rintro e w1 ⟨⟨h, _⟩ | ⟨_, rfl⟩, hb1⟩
  · exact absurd h HX.out
  · have HF1 := Lib.hid (HF.out.later hb1)
    have HA1 := Lib.hid (HA.out.keep hb1)
    clear hb1
    have c0 : w1.cell? ⟨W.heap.size, 0, none⟩ = some (.bool na) := HF1.out.cell 0 0 rfl rfl
    have c1 : w1.cell? ⟨W.heap.size, 1, none⟩ = some (.slice ao la ca) := HF1.out.cell 0 1 rfl rfl
    go_wp2_with fail
    refine (string_any _ _ _ _ 0 _ HA1.out hla).mono ?_
    rintro e w2 ⟨rfl, hb2⟩
    rw [numZ_0]
    have HF2 := Lib.hid (HF1.out.later hb2)
    clear hb2
    go_wp2
    go_ret
    exact ⟨rfl, HF2.out.below⟩

/-- what Parse answers, with one shape of the ending -/
def ParseOne (xs : List UInt8) (W : World) (e : Ending) (w' : World) : Prop :=
  ∃ neg ao len cap er z', e = .returned (.tuple #[.agg #[.bool neg, .slice ao len cap], .int .i64 er]) ∧ Z32 w' neg ao len z' ∧ Below W.heap.size W w' ∧
    ((isNum xs = false ∧ er = 4 ∧ z' = 0) ∨ (isNum xs = true ∧ ¬ Fits (numZ xs) ∧ er = 3 ∧ z' = 0) ∨ (isNum xs = true ∧ Fits (numZ xs) ∧ er = 0 ∧ z' = numZ xs))

theorem ParsePost.one {xs : List UInt8} {W w' : World} {e : Ending} (h : ParsePost xs W e w') : ParseOne xs W e w' := by
  rcases h with ⟨h, ⟨hf, neg, ao, len, cap, rfl, hz, hb⟩ | ⟨hf, rfl, hb⟩⟩ | ⟨h, rfl, hb⟩
  · exact ⟨neg, ao, len, cap, 0, _, rfl, hz, hb, .inr (.inr ⟨h, hf, rfl, rfl⟩)⟩
  · exact ⟨false, none, 0, 0, 3, 0, rfl, Z32.nil _, hb, .inr (.inl ⟨h, hf, rfl, rfl⟩)⟩
  · exact ⟨false, none, 0, 0, 4, 0, rfl, Z32.nil _, hb, .inl ⟨h, rfl, rfl⟩⟩


theorem fits_lenk {w : World} {neg : Bool} {ao : Option Addr} {len : Nat} {z : Int} (k : Nat) (hk : 32 * k = 16384) (h : Z32 w neg ao len z) (hf : Fits z) : len ≤ k := by
  have h1 := blen_le.1 hf
  refine h.n32.len_le (k := k) ?_
  rw [B32_pow, hk]
  exact h1

theorem fits_len {w : World} {neg : Bool} {ao : Option Addr} {len : Nat} {z : Int} (h : Z32 w neg ao len z) (hf : Fits z) : len ≤ 512 := fits_lenk 512 rfl h hf

theorem fits_lenk16 {w : World} {neg : Bool} {ao : Option Addr} {len : Nat} {z : Int} (k : Nat) (hk : 16 * k = 16384) (h : Z16 w neg ao len z) (hf : Fits z) : len ≤ k := by
  have h1 := blen_le.1 hf
  refine h.n16.len_le (k := k) ?_
  rw [B16_pow, hk]
  exact h1

theorem fits_len16 {w : World} {neg : Bool} {ao : Option Addr} {len : Nat} {z : Int} (h : Z16 w neg ao len z) (hf : Fits z) : len ≤ 1024 := fits_lenk16 1024 rfl h hf
end Go.Proofs.Ytdnnjjclklcihaa
