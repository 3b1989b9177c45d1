/- Part 10 of the contracts: LehE, LehF, RefM, RefV, RefX, Shr, RefW, RefY, GcdZ, RatA, RatB, Whole2, Floor. -/
import Derived.Deep.CutRange
import Derived.IntWalk
import Derived.Deep.Cut
import Derived.Deep.AppendLies
import Derived.Deep.RegionHeldLaw
import Derived.Deep.RegionHeld3
import Derived.StillTailTactics
import Derived.Deep.CutBlock
import Derived.Test.YtcgnmihabkgecaaPart9

/- (num.steps).apply. -/
set_option linter.unusedVariables false
namespace Go.Proofs.Ytcgnmihabkgecaa
open Go.RowKit

def ApplyPost (A B : Nat) (W : World) (e : Ending) (w' : World) : Prop :=
  ∃ ao la ca bo lb cb, e = .returned (.tuple #[.slice ao la ca, .slice bo lb cb]) ∧ N32 w' ao la A ∧ N32 w' bo lb B ∧ Below W.heap.size W w'

set_option maxRecDepth 8000 in
set_option maxHeartbeats 4000000 in
theorem apply_odd (ao bo : Option Addr) (la lb ca cb A B α β γ δ A' B' : Nat) (W : World) (ha : N32 W ao la A) (hb : N32 W bo lb B) (hlA : la ≤ 1000000000) (hlB : lb ≤ 1000000000)
    (hα : α < 4294967296) (hβ : β < 4294967296) (hγ : γ < 4294967296) (hδ : δ < 4294967296) (h1 : β * B = α * A + A') (h2 : γ * A = δ * B + B') (h3 : A' ≤ A) (h4 : B' ≤ A) :
    Calls Try.prog 57 #[.agg #[.int .u64 (α : Int), .int .u64 (β : Int), .int .u64 (γ : Int), .int .u64 (δ : Int), .bool true], .slice ao la ca, .slice bo lb cb] W (ApplyPost A' B' W) := by
  have hf : Fr W (W.alloc (.cells #[.int .u64 (α : Int), .int .u64 (β : Int), .int .u64 (γ : Int), .int .u64 (δ : Int), .bool true] 85)) [(85, #[.int .u64 (α : Int), .int .u64 (β : Int), .int .u64 (γ : Int), .int .u64 (δ : Int), .bool true])] := (Fr.nil W).alloc rfl _ _
  have HF := Lib.hid hf
  have HA := Lib.hid (ha.keep hf.below)
  have HB := Lib.hid (hb.keep hf.below)
  have H1 := Lib.hid h1
  have H2 := Lib.hid h2
  clear ha hb h1 h2 hf
  go_enter Try.func57, Try.ntmps57
  go_wp2_with fail
  obtain ⟨W1, hW1⟩ : ∃ W1, W1 = W.alloc (.cells #[.int .u64 (α : Int), .int .u64 (β : Int), .int .u64 (γ : Int), .int .u64 (δ : Int), .bool true] 85) := ⟨_, rfl⟩
  rw [← hW1] at HF HA HB ⊢
  clear hW1
  have c0 : W1.cell? ⟨W.heap.size, 0, none⟩ = some (.int .u64 (α : Int)) := HF.out.cell 0 0 rfl rfl
  have c1 : W1.cell? ⟨W.heap.size, 1, none⟩ = some (.int .u64 (β : Int)) := HF.out.cell 0 1 rfl rfl
  have c2 : W1.cell? ⟨W.heap.size, 2, none⟩ = some (.int .u64 (γ : Int)) := HF.out.cell 0 2 rfl rfl
  have c3 : W1.cell? ⟨W.heap.size, 3, none⟩ = some (.int .u64 (δ : Int)) := HF.out.cell 0 3 rfl rfl
  have c4 : W1.cell? ⟨W.heap.size, 4, none⟩ = some (.bool true) := HF.out.cell 0 4 rfl rfl
  go_region_held3 (fun w' => w'.cell? ⟨W.heap.size, 0, none⟩ = some (.int .u64 (α : Int)) ∧ w'.cell? ⟨W.heap.size, 1, none⟩ = some (.int .u64 (β : Int)) ∧ w'.cell? ⟨W.heap.size, 2, none⟩ = some (.int .u64 (γ : Int)) ∧ w'.cell? ⟨W.heap.size, 3, none⟩ = some (.int .u64 (δ : Int)) ∧ w'.cell? ⟨W.heap.size, 4, none⟩ = some (.bool true)) (go_keep)
    (first | (go_at_call 71; refine (combine_any _ _ _ _ _ _ A γ B δ B' _ _ w1 (HA.out.keep HB1.out) (HB.out.keep HB1.out) hlA hlB rfl rfl hγ hδ H2.out (.inl h4)).mono ?_; rintro e w2 ⟨o2, l2, c2_, rfl, hr2, hb2⟩; have HB2 := Lib.hid hb2; have HR2 := Lib.hid hr2; have HR12 := Lib.hid (HR1.out.keep hb2); have HF2 := Lib.hid (HF1.out.later hb2); clear hr2 hb2; have d20 : w2.cell? ⟨W.heap.size, 0, none⟩ = some (.int .u64 (α : Int)) := HF2.out.cell 0 0 rfl rfl; have d21 : w2.cell? ⟨W.heap.size, 1, none⟩ = some (.int .u64 (β : Int)) := HF2.out.cell 0 1 rfl rfl; have d22 : w2.cell? ⟨W.heap.size, 2, none⟩ = some (.int .u64 (γ : Int)) := HF2.out.cell 0 2 rfl rfl; have d23 : w2.cell? ⟨W.heap.size, 3, none⟩ = some (.int .u64 (δ : Int)) := HF2.out.cell 0 3 rfl rfl; have d24 : w2.cell? ⟨W.heap.size, 4, none⟩ = some (.bool true) := HF2.out.cell 0 4 rfl rfl) | (go_at_call 71; refine (combine_any _ _ _ _ _ _ B β A α A' _ _ W1.drew (HB.out.keep (Below.refl _ _).drew) (HA.out.keep (Below.refl _ _).drew) hlB hlA rfl rfl hβ hα H1.out (.inr h3)).mono ?_; rintro e w1 ⟨o1, l1, c1_, rfl, hr1, hb1⟩; have HB1 := Lib.hid (below_of_drew hb1); have HR1 := Lib.hid hr1; have HF1 := Lib.hid (HF.out.later HB1.out); clear hr1 hb1; have d10 : w1.cell? ⟨W.heap.size, 0, none⟩ = some (.int .u64 (α : Int)) := HF1.out.cell 0 0 rfl rfl; have d11 : w1.cell? ⟨W.heap.size, 1, none⟩ = some (.int .u64 (β : Int)) := HF1.out.cell 0 1 rfl rfl; have d12 : w1.cell? ⟨W.heap.size, 2, none⟩ = some (.int .u64 (γ : Int)) := HF1.out.cell 0 2 rfl rfl; have d13 : w1.cell? ⟨W.heap.size, 3, none⟩ = some (.int .u64 (δ : Int)) := HF1.out.cell 0 3 rfl rfl; have d14 : w1.cell? ⟨W.heap.size, 4, none⟩ = some (.bool true) := HF1.out.cell 0 4 rfl rfl))
  go_wp2
  go_ret2
  exact ⟨o1, l1, c1_, o2, l2, c2_, rfl, HR12.out, HR2.out, HF2.out.below⟩

set_option maxRecDepth 8000 in
set_option maxHeartbeats 4000000 in
theorem apply_even (ao bo : Option Addr) (la lb ca cb A B α β γ δ A' B' : Nat) (W : World) (ha : N32 W ao la A) (hb : N32 W bo lb B) (hlA : la ≤ 1000000000) (hlB : lb ≤ 1000000000)
    (hα : α < 4294967296) (hβ : β < 4294967296) (hγ : γ < 4294967296) (hδ : δ < 4294967296) (h1 : α * A = β * B + A') (h2 : δ * B = γ * A + B') (h3 : A' ≤ A) (h4 : B' ≤ A) :
    Calls Try.prog 57 #[.agg #[.int .u64 (α : Int), .int .u64 (β : Int), .int .u64 (γ : Int), .int .u64 (δ : Int), .bool false], .slice ao la ca, .slice bo lb cb] W (ApplyPost A' B' W) := by
  have hf : Fr W (W.alloc (.cells #[.int .u64 (α : Int), .int .u64 (β : Int), .int .u64 (γ : Int), .int .u64 (δ : Int), .bool false] 85)) [(85, #[.int .u64 (α : Int), .int .u64 (β : Int), .int .u64 (γ : Int), .int .u64 (δ : Int), .bool false])] := (Fr.nil W).alloc rfl _ _
  have HF := Lib.hid hf
  have HA := Lib.hid (ha.keep hf.below)
  have HB := Lib.hid (hb.keep hf.below)
  have H1 := Lib.hid h1
  have H2 := Lib.hid h2
  clear ha hb h1 h2 hf
  go_enter Try.func57, Try.ntmps57
  go_wp2_with fail
  obtain ⟨W1, hW1⟩ : ∃ W1, W1 = W.alloc (.cells #[.int .u64 (α : Int), .int .u64 (β : Int), .int .u64 (γ : Int), .int .u64 (δ : Int), .bool false] 85) := ⟨_, rfl⟩
  rw [← hW1] at HF HA HB ⊢
  clear hW1
  have c0 : W1.cell? ⟨W.heap.size, 0, none⟩ = some (.int .u64 (α : Int)) := HF.out.cell 0 0 rfl rfl
  have c1 : W1.cell? ⟨W.heap.size, 1, none⟩ = some (.int .u64 (β : Int)) := HF.out.cell 0 1 rfl rfl
  have c2 : W1.cell? ⟨W.heap.size, 2, none⟩ = some (.int .u64 (γ : Int)) := HF.out.cell 0 2 rfl rfl
  have c3 : W1.cell? ⟨W.heap.size, 3, none⟩ = some (.int .u64 (δ : Int)) := HF.out.cell 0 3 rfl rfl
  have c4 : W1.cell? ⟨W.heap.size, 4, none⟩ = some (.bool false) := HF.out.cell 0 4 rfl rfl
  go_region_held3 (fun w' => w'.cell? ⟨W.heap.size, 0, none⟩ = some (.int .u64 (α : Int)) ∧ w'.cell? ⟨W.heap.size, 1, none⟩ = some (.int .u64 (β : Int)) ∧ w'.cell? ⟨W.heap.size, 2, none⟩ = some (.int .u64 (γ : Int)) ∧ w'.cell? ⟨W.heap.size, 3, none⟩ = some (.int .u64 (δ : Int)) ∧ w'.cell? ⟨W.heap.size, 4, none⟩ = some (.bool false)) (go_keep)
    (first | (go_at_call 71; refine (combine_any _ _ _ _ _ _ B δ A γ B' _ _ w1 (HB.out.keep HB1.out) (HA.out.keep HB1.out) hlB hlA rfl rfl hδ hγ H2.out (.inr h4)).mono ?_; rintro e w2 ⟨o2, l2, c2_, rfl, hr2, hb2⟩; have HB2 := Lib.hid hb2; have HR2 := Lib.hid hr2; have HR12 := Lib.hid (HR1.out.keep hb2); have HF2 := Lib.hid (HF1.out.later hb2); clear hr2 hb2; have d20 : w2.cell? ⟨W.heap.size, 0, none⟩ = some (.int .u64 (α : Int)) := HF2.out.cell 0 0 rfl rfl; have d21 : w2.cell? ⟨W.heap.size, 1, none⟩ = some (.int .u64 (β : Int)) := HF2.out.cell 0 1 rfl rfl; have d22 : w2.cell? ⟨W.heap.size, 2, none⟩ = some (.int .u64 (γ : Int)) := HF2.out.cell 0 2 rfl rfl; have d23 : w2.cell? ⟨W.heap.size, 3, none⟩ = some (.int .u64 (δ : Int)) := HF2.out.cell 0 3 rfl rfl; have d24 : w2.cell? ⟨W.heap.size, 4, none⟩ = some (.bool false) := HF2.out.cell 0 4 rfl rfl) | (go_at_call 71; refine (combine_any _ _ _ _ _ _ A α B β A' _ _ W1.drew (HA.out.keep (Below.refl _ _).drew) (HB.out.keep (Below.refl _ _).drew) hlA hlB rfl rfl hα hβ H1.out (.inl h3)).mono ?_; rintro e w1 ⟨o1, l1, c1_, rfl, hr1, hb1⟩; have HB1 := Lib.hid (below_of_drew hb1); have HR1 := Lib.hid hr1; have HF1 := Lib.hid (HF.out.later HB1.out); clear hr1 hb1; have d10 : w1.cell? ⟨W.heap.size, 0, none⟩ = some (.int .u64 (α : Int)) := HF1.out.cell 0 0 rfl rfl; have d11 : w1.cell? ⟨W.heap.size, 1, none⟩ = some (.int .u64 (β : Int)) := HF1.out.cell 0 1 rfl rfl; have d12 : w1.cell? ⟨W.heap.size, 2, none⟩ = some (.int .u64 (γ : Int)) := HF1.out.cell 0 2 rfl rfl; have d13 : w1.cell? ⟨W.heap.size, 3, none⟩ = some (.int .u64 (δ : Int)) := HF1.out.cell 0 3 rfl rfl; have d14 : w1.cell? ⟨W.heap.size, 4, none⟩ = some (.bool false) := HF1.out.cell 0 4 rfl rfl))
  go_wp2
  go_ret2
  exact ⟨o1, l1, c1_, o2, l2, c2_, rfl, HR12.out, HR2.out, HF2.out.below⟩

theorem apply_any (ao bo : Option Addr) (la lb ca cb A B α β γ δ A' B' : Nat) (odd : Bool) (W : World) (ha : N32 W ao la A) (hb : N32 W bo lb B) (hlA : la ≤ 1000000000) (hlB : lb ≤ 1000000000)
    (hα : α < 4294967296) (hβ : β < 4294967296) (hγ : γ < 4294967296) (hδ : δ < 4294967296) (h : Stepped A B α β γ δ odd A' B') (h3 : A' ≤ A) (h4 : B' ≤ A) :
    Calls Try.prog 57 #[.agg #[.int .u64 (α : Int), .int .u64 (β : Int), .int .u64 (γ : Int), .int .u64 (δ : Int), .bool odd], .slice ao la ca, .slice bo lb cb] W (ApplyPost A' B' W) := by
  cases odd with
  | true => exact apply_odd ao bo la lb ca cb A B α β γ δ A' B' W ha hb hlA hlB hα hβ hγ hδ (h.odd rfl).1 (h.odd rfl).2 h3 h4
  | false => exact apply_even ao bo la lb ca cb A B α β γ δ A' B' W ha hb hlA hlB hα hβ hγ hδ (h.even rfl).1 (h.even rfl).2 h3 h4
end Go.Proofs.Ytcgnmihabkgecaa

/- commonDivisor, for all numbers. -/
set_option linter.unusedVariables false
namespace Go.Proofs.Ytcgnmihabkgecaa
open Go.RowKit

theorem readNat_n {w : World} {ao : Option Addr} {len cap n : Nat} (h : N32 w ao len n) : readNat w (.slice ao len cap) = n := by
  obtain ⟨xs, hs, hd, ht, hv⟩ := h
  rw [readNat_of hs, hv]

theorem cmpN_neg {m n : Nat} : cmpN m n < 0 ↔ m < n := by
  unfold cmpN
  by_cases h : m < n
  · simp [h]
  · simp only [h, iff_false, if_false]
    split <;> omega

theorem blen_top {n low : Nat} (h : blen n = low + 64) : n / 2 ^ low < 18446744073709551616 := by
  have h1 := blen_lt n
  rw [h, Nat.pow_add] at h1
  rw [Nat.div_lt_iff_lt_mul (Nat.pow_pos (by decide)), Nat.mul_comm]
  exact h1

def GcdRel (L G : Nat) (W : World) (av bv : Value) (wr : World) : Prop :=
  ∃ (ao bo : Option Addr) (la lb ca cb A B : Nat), av = .slice ao la ca ∧ bv = .slice bo lb cb ∧ N32 wr ao la A ∧ N32 wr bo lb B ∧ B ≤ A ∧ A < B32 ^ L ∧ Nat.gcd A B = G ∧ Below W.heap.size W wr

set_option maxRecDepth 8000 in
set_option maxHeartbeats 4000000 in
theorem gcd_ok (m n : Nat) : GcdOk m n := by
  intro ao bo la lb ca cb W ha hb hla hlb
  obtain ⟨L, hLe⟩ : ∃ L, L = max la lb := ⟨_, rfl⟩
  have hL : L ≤ 1000000000 := by omega
  have hmL : m < B32 ^ L := Nat.lt_of_lt_of_le ha.lt (Nat.pow_le_pow_right B32_pos (by omega))
  have hnL : n < B32 ^ L := Nat.lt_of_lt_of_le hb.lt (Nat.pow_le_pow_right B32_pos (by omega))
  have HML := Lib.hid hmL
  have HNL := Lib.hid hnL
  have HA := Lib.hid ha
  have HB := Lib.hid hb
  obtain ⟨G, hG⟩ : ∃ G, G = Nat.gcd m n := ⟨_, rfl⟩
  have HG := Lib.hid hG
  rw [← hG]
  clear ha hb hmL hnL hLe hG
  go_enter Try.func30, Try.ntmps30
  go_wp2_with fail
  refine (duplicate_n _ _ _ m _ HA.out hla).mono ?_
  rintro e w1 ⟨ao1, ca1, rfl, ha1, hb1⟩
  have HA1 := Lib.hid ha1
  have HW1 := Lib.hid hb1
  clear ha1 hb1
  go_wp2_with fail
  refine (duplicate_n _ _ _ n _ (HB.out.keep HW1.out) hlb).mono ?_
  rintro e w2 ⟨bo2, cb2, rfl, hb2, hw2⟩
  have HA2 := Lib.hid (HA1.out.keep hw2)
  have HB2 := Lib.hid hb2
  have HW2 := Lib.hid (below_then HW1.out hw2)
  clear hb2 hw2
  go_wp2_with fail
  refine (compare_any _ _ _ _ _ _ m n _ HA2.out HB2.out hla hlb).mono ?_
  rintro e w3 ⟨rfl, hd3⟩
  have HA3 := Lib.hid (HA2.out.keep hd3.below)
  have HB3 := Lib.hid (HB2.out.keep hd3.below)
  have HW3 := Lib.hid (HW2.out.trans (hd3.below))
  clear hd3
  obtain ⟨cc, hcc⟩ : ∃ c, c = cmpN m n := ⟨_, rfl⟩
  rw [← hcc]
  have HC := Lib.hid hcc
  clear hcc
  go_upto_if 16 with fail
  go_cut [0, 1] from 13 to 18 (fun av bv wx => GcdRel L G W av bv wx)
  case first =>
    by_cases hmn : m < n
    · have t1 : cc < 0 := by rw [HC.out]; exact cmpN_neg.2 hmn
      go_wp2_with fail
      go_meet
      case rel => exact ⟨bo2, ao1, lb, la, cb2, ca1, n, m, rfl, rfl, HB3.out, HA3.out, by omega, HNL.out, by rw [HG.out, Nat.gcd_comm], HW3.out⟩
    · have t1 : ¬ cc < 0 := by rw [HC.out]; exact fun h => hmn (cmpN_neg.1 h)
      go_wp2_with fail
      go_meet
      case rel => exact ⟨ao1, bo2, la, lb, ca1, cb2, m, n, rfl, rfl, HA3.out, HB3.out, by omega, HML.out, HG.out.symm, HW3.out⟩
  case rest =>
    clear HA HB HA1 HA2 HB2 HW1 HW2 HA3 HB3 HW3 HC HG HML HNL
    go_wp2_with fail
    go_loopw [0, 1] (fun av bv wr => GcdRel L G W av bv wr) (fun av bv wr => readNat wr av + readNat wr bv)
    case atStart => exact hcut
    case round =>
      obtain ⟨ao, bo, la, lb, ca, cb, A, B, rfl, rfl, ha, hb, hBA, hAL, hG, hw⟩ := hrel
      have hla : la ≤ 1000000000 := Nat.le_trans (ha.len_le hAL) hL
      have hlb : lb ≤ 1000000000 := Nat.le_trans (hb.len_le (Nat.lt_of_le_of_lt hBA hAL)) hL
      have HA := Lib.hid ha
      have HB := Lib.hid hb
      have HAL := Lib.hid hAL
      have HG := Lib.hid hG
      have HW := Lib.hid hw
      clear ha hb hAL hG hw
      by_cases hl0 : lb = 0
      · have hB0 : B = 0 := HB.out.zero.2 hl0
        subst hl0
        have HR : Hid (G = A) := by show _ = _; rw [← HG.out, hB0, Nat.gcd_zero_right]
        clear hB0
        go_wp2
        go_ret
        exact ⟨ao, la, ca, rfl, by rw [HR.out]; exact HA.out, HW.out⟩
      · have b1 : (0 : Int) < (lb : Int) := by omega
        have b2 : ((lb : Int) == 0) = false := by simp; omega
        have hB0 : 0 < B := by
          rcases Nat.eq_zero_or_pos B with h | h
          · exact absurd (HB.out.zero.1 h) hl0
          · exact h
        by_cases h64 : blen A ≤ 64
        · have t1 : ¬ (64 : Int) < (blen A : Int) := by omega
          have hA64 : A < 18446744073709551616 := blen_le.1 h64
          have hla2 : la ≤ 2 := HA.out.len_le (small2 hA64)
          have hlb2 : lb ≤ 2 := HB.out.len_le (small2 (Nat.lt_of_le_of_lt hBA hA64))
          clear h64
          go_wp2_with fail
          refine (bitLength_any _ _ _ A _ HA.out hla).mono ?_
          rintro e w4 ⟨rfl, rfl⟩
          go_wp2_with fail
          refine (toWord_any _ _ _ A _ HA.out hla2).mono ?_
          rintro e w5 ⟨rfl, rfl⟩
          go_wp2_with fail
          refine (toWord_any _ _ _ B _ HB.out hlb2).mono ?_
          rintro e w6 ⟨rfl, rfl⟩
          go_wp2_with fail
          refine (commonWord_any _ _ A B _ rfl rfl hA64 (Nat.lt_of_le_of_lt hBA hA64)).mono ?_
          rintro e w7 ⟨rfl, hd7⟩
          go_wp2_with fail
          refine (fromWord_any _ (Nat.gcd A B) _ rfl (Nat.le_trans (Nat.gcd_le_right A hB0) (by omega))).mono ?_
          rintro e w8 ⟨ro, rl, rc, rfl, hr, hb8⟩
          go_wp2
          go_ret
          exact ⟨ro, rl, rc, rfl, by rw [← HG.out]; exact hr, below_then (HW.out.trans hd7.below) hb8⟩
        · obtain ⟨low, hlow⟩ : ∃ low, blen A = low + 64 := ⟨blen A - 64, by omega⟩
          have t1 : (64 : Int) < (blen A : Int) := by omega
          have t2 : (blen A : Int) - 64 = (low : Int) := by omega
          have hlw : low ≤ 100000000000 := by
            have h1 := HA.out.lt
            have h2 : blen A ≤ 32 * la := by
              refine blen_le.2 ?_
              have : B32 ^ la = 2 ^ (32 * la) := by rw [Nat.pow_mul]; rfl
              rwa [← this]
            omega
          have hbA : blen A ≤ 100000000064 := by omega
          have hAt := blen_top hlow
          have hBt : B / 2 ^ low ≤ A / 2 ^ low := Nat.div_le_div_right hBA
          have HAT := Lib.hid hAt
          have HBT := Lib.hid hBt
          clear hlow h64 hAt hBt
          go_wp2_with fail
          refine (bitLength_any _ _ _ A _ HA.out hla).mono ?_
          rintro e w4 ⟨rfl, rfl⟩
          go_wp2_with fail
          refine (bitLength_any _ _ _ A _ HA.out hla).mono ?_
          rintro e w5 ⟨rfl, rfl⟩
          go_wp2_with fail
          refine (window_any _ _ _ A low _ _ HA.out (by first | exact t2 | rfl) hla hlw).mono ?_
          rintro e w6 ⟨rfl, hd6⟩
          rw [Nat.mod_eq_of_lt HAT.out]
          have HA6 := Lib.hid (HA.out.keep hd6.below)
          have HB6 := Lib.hid (HB.out.keep hd6.below)
          have HW6 := Lib.hid (HW.out.trans hd6.below)
          clear hd6
          go_wp2_with fail
          refine (window_any _ _ _ B low _ _ HB6.out (by first | exact t2 | rfl) hlb hlw).mono ?_
          rintro e w7 ⟨rfl, hd7⟩
          rw [Nat.mod_eq_of_lt (Nat.lt_of_le_of_lt HBT.out HAT.out)]
          have HA7 := Lib.hid (HA6.out.keep hd7.below)
          have HB7 := Lib.hid (HB6.out.keep hd7.below)
          have HW7 := Lib.hid (HW6.out.trans hd7.below)
          clear hd7
          go_wp2_with fail
          refine (foresee_any (A / 2 ^ low) (B / 2 ^ low) _ _ _ rfl rfl HAT.out HBT.out).mono ?_
          rintro e w8 ⟨α, β, γ, δ, odd, rfl, hfo, hb8⟩
          have HA8 := Lib.hid (HA7.out.keep hb8)
          have HB8 := Lib.hid (HB7.out.keep hb8)
          have HW8 := Lib.hid (below_then HW7.out hb8)
          have HFO := Lib.hid hfo
          clear hb8 hfo
          have HKA := Lib.hid (readNat_n (cap := ca) HA.out)
          have HKB := Lib.hid (readNat_n (cap := cb) HB.out)
          have HA9 := Lib.hid (HA8.out.keep (box_below w8 85 #[.int .u64 (α : Int), .int .u64 (β : Int), .int .u64 (γ : Int), .int .u64 (δ : Int), .bool odd]))
          have HB9 := Lib.hid (HB8.out.keep (box_below w8 85 #[.int .u64 (α : Int), .int .u64 (β : Int), .int .u64 (γ : Int), .int .u64 (δ : Int), .bool odd]))
          have HW9 := Lib.hid (below_then HW8.out (box_below w8 85 #[.int .u64 (α : Int), .int .u64 (β : Int), .int .u64 (γ : Int), .int .u64 (δ : Int), .bool odd]))
          clear HA6 HB6 HW6 HA7 HB7 HW7 HA8 HB8 HW8
          by_cases hβ : β = 0
          · subst hβ
            go_wp2_with fail
            refine (divide_ok A B hB0 _ _ _ _ _ _ _ HA9.out HB9.out hla hlb).mono ?_
            rintro e w9 ⟨qo, ql, qc, ro, rl, rc, rfl, hq9, hr9, hb9⟩
            have HR10 := Lib.hid hr9
            have HB10 := Lib.hid (HB9.out.keep hb9)
            have HW10 := Lib.hid (below_then HW9.out hb9)
            clear hq9 hr9 hb9
            go_wp2_with fail
            go_roundw
            case rel => exact ⟨bo, ro, lb, rl, cb, rc, B, A % B, rfl, rfl, HB10.out, HR10.out, Nat.le_of_lt (Nat.mod_lt _ hB0), Nat.lt_of_le_of_lt hBA HAL.out, by rw [← HG.out, Nat.gcd_comm A B, Nat.gcd_rec B A, Nat.gcd_comm], HW10.out⟩
            case measure => rw [readNat_n HB10.out, readNat_n HR10.out, HKA.out, HKB.out]; have := Nat.mod_lt A hB0; omega
          · have hβ0 : ((β : Int) == 0) = false := by simp; omega
            have hfo := HFO.out.resolve_left hβ
            obtain ⟨A', B', hst⟩ := Fore.stepped (Nat.pow_pos (n := low) (show 0 < 2 by decide)) hfo
            obtain ⟨_, _, _, _, _, _, k1, k2, k3, k4, k5, k6, _⟩ := hfo
            have hle := hst.le (by omega) k5 k2
            have HST := Lib.hid hst
            clear hst hβ
            go_wp2_with fail
            refine (apply_any _ _ _ _ _ _ A B α β γ δ A' B' odd _ HA9.out HB9.out hla hlb (by omega) (by omega) (by omega) k6 HST.out hle.1 hle.2.1).mono ?_
            rintro e w9 ⟨ao9, la9, ca9, bo9, lb9, cb9, rfl, ha9, hb9, hbel9⟩
            have HA10 := Lib.hid ha9
            have HB10 := Lib.hid hb9
            have HW10 := Lib.hid (below_then HW9.out hbel9)
            clear ha9 hb9 hbel9
            go_wp2_with fail
            go_roundw
            case rel => exact ⟨ao9, bo9, la9, lb9, ca9, cb9, A', B', rfl, rfl, HA10.out, HB10.out, Nat.le_of_lt HST.out.lt, Nat.lt_of_le_of_lt hle.1 HAL.out, HST.out.gcd.trans HG.out, HW10.out⟩
            case measure => rw [readNat_n HA10.out, readNat_n HB10.out, HKA.out, HKB.out]; omega
end Go.Proofs.Ytcgnmihabkgecaa

/- The specification's mul, Mul. -/
set_option linter.unusedVariables false
namespace Go.Proofs.Ytcgnmihabkgecaa
open Go.RowKit

def MulRel (g la lb : Nat) (xa xb : List Nat) (W : World) (iv : Value) (wr : World) : Prop :=
  ∃ (i : Nat) (zs : List Nat), iv = .int .i64 (i : Int) ∧ Blk .i64 wr g 3 zs ∧ zs.length = la + lb ∧ Dig B16 zs ∧ i ≤ la ∧
    val B16 zs = val B16 (xa.take i) * val B16 xb ∧ (∀ j, i + lb ≤ j → zs[j]?.getD 0 = 0) ∧ Below W.heap.size W wr

def MulIn (g la lb i x : Nat) (xa xb : List Nat) (W : World) (cv kv : Value) (wr : World) : Prop :=
  ∃ (c k : Nat) (zs : List Nat), cv = .int .i64 (c : Int) ∧ kv = .int .i64 (k : Int) ∧ Blk .i64 wr g 3 zs ∧ zs.length = la + lb ∧ Dig B16 zs ∧ k ≤ lb + 1 ∧ c < 65536 ∧ (k = lb + 1 → c = 0) ∧
    val B16 zs + c * B16 ^ (i + k) = val B16 (xa.take i) * val B16 xb + x * val B16 (xb.take k) * B16 ^ i ∧ (∀ j, i + k ≤ j → i + lb ≤ j → zs[j]?.getD 0 = 0) ∧ Below W.heap.size W wr

theorem mul_in {g la lb i k c x y z n : Nat} {xa xb zs : List Nat} {W wr w2 : World} (hB : Blk .i64 wr g 3 zs) (hl : zs.length = la + lb) (hd : Dig B16 zs) (hxb : xb.length = lb) (hk : k < lb ∨ (k = lb ∧ 0 < c)) (hi : i < la) (hc : c < 65536)
    (hx : x < 65536) (hy : y < 65536) (hz : z < 65536) (hye : y = xb[k]?.getD 0) (hze : z = zs[i + k]?.getD 0)
    (hv : val B16 zs + c * B16 ^ (i + k) = val B16 (xa.take i) * val B16 xb + x * val B16 (xb.take k) * B16 ^ i) (h0 : ∀ j, i + k ≤ j → i + lb ≤ j → zs[j]?.getD 0 = 0) (hb : Below W.heap.size W wr) (hg : W.heap.size ≤ g)
    (s : Nat) (hs : s = c + (x * y + z)) (hw : w2 = wr.drewN n) (C V K : Int) (hC : C = ((s / 65536 : Nat) : Int)) (hV : V = ((s % 65536 : Nat) : Int)) (hK : K = (k : Int) + 1) :
    MulIn g la lb i x xa xb W (.int .i64 C) (.int .i64 K) (w2.setCell ⟨g, i + k, none⟩ (.int .i64 V)) := by
  subst hs hw hC hV hK
  have hst := prod_step (B := B16) (zs := zs) (xb := xb) (i := i) (k := k) (c := c) (x := x) (vi := val B16 (xa.take i)) (vb := val B16 xb) (by omega) hv
  rw [← hye, ← hze] at hst
  have hxy : x * y ≤ 65535 * 65535 := Nat.mul_le_mul (by omega) (by omega)
  refine ⟨(c + (x * y + z)) / 65536, k + 1, zs.set (i + k) ((c + (x * y + z)) % 65536), rfl, by go_num, (hB.drewN n).set _ _ _ rfl, by simpa using hl, hd.set _ (Nat.mod_lt _ B16_pos), by omega, ?_, ?_, hst, ?_, (below_drewN1 hb n).setCell hg _⟩
  · generalize x * y = t at *; omega
  · intro h
    have hkl : k = lb := by omega
    have hy0 : y = 0 := by rw [hye, List.getElem?_eq_none (by omega)]; rfl
    have hz0 : z = 0 := by rw [hze]; exact h0 _ (Nat.le_refl _) (by omega)
    subst hy0 hz0
    simp; omega
  · intro j hj hj2
    rw [List.getElem?_set_ne (by omega)]
    exact h0 j (by omega) hj2

theorem mul_out {g la lb i k : Nat} {xa xb zs : List Nat} {W wr : World} (hB : Blk .i64 wr g 3 zs) (hl : zs.length = la + lb) (hd : Dig B16 zs) (hi : i < la) (hxb : xb.length = lb) (hk : lb ≤ k) (hk2 : k ≤ lb + 1)
    (hv : val B16 zs + 0 * B16 ^ (i + k) = val B16 (xa.take i) * val B16 xb + (xa[i]?.getD 0) * val B16 (xb.take k) * B16 ^ i) (h0 : ∀ j, i + k ≤ j → i + lb ≤ j → zs[j]?.getD 0 = 0) (hb : Below W.heap.size W wr) :
    MulRel g la lb xa xb W (.int .i64 ((i : Int) + 1)) wr := by
  refine ⟨i + 1, zs, by go_num, hB, hl, hd, by omega, ?_, fun j hj => h0 j (by omega) (by omega), hb⟩
  rw [List.take_of_length_le (l := xb) (by omega)] at hv
  rw [val_take_succ]
  generalize B16 ^ i = p at *
  grind

end Go.Proofs.Ytcgnmihabkgecaa

/- The specification's power, bit, shl by one. -/
set_option linter.unusedVariables false
namespace Go.Proofs.Ytcgnmihabkgecaa
open Go.RowKit

theorem bit_of {xs : List Nat} (hd : Dig B16 xs) (i : Nat) : val B16 xs / 2 ^ i % 2 = xs[i / 16]?.getD 0 / 2 ^ (i % 16) % 2 := by
  have e : i = 16 * (i / 16) + i % 16 := (Nat.div_add_mod i 16).symm
  have hlt : i % 16 < 16 := Nat.mod_lt _ (by decide)
  conv => lhs; rw [e, Nat.pow_add, ← B16_pow, ← Nat.div_div_eq_div_mul]
  generalize i / 16 = j
  generalize i % 16 = t at *
  by_cases hj : j < xs.length
  · have h1 : val B16 xs / B16 ^ j = xs[j]?.getD 0 + B16 * val B16 (xs.drop (j + 1)) := by
      rw [val_split B16 xs j (by omega), Nat.add_mul_div_left _ _ (Nat.pow_pos B16_pos), Nat.div_eq_of_lt, Nat.zero_add, drop_eq_cons xs j hj, val_cons]
      have := val_lt B16_pos (hd.take j)
      rwa [List.length_take, Nat.min_eq_left (by omega)] at this
    have h2 : B16 = 2 ^ t * (2 * 2 ^ (15 - t)) := by
      rw [← Nat.pow_succ', ← Nat.pow_add, show t + (15 - t + 1) = 16 by omega]; rfl
    rw [h1]
    have e2 : xs[j]?.getD 0 + B16 * val B16 (xs.drop (j + 1)) = xs[j]?.getD 0 + 2 ^ t * (2 * (2 ^ (15 - t) * val B16 (xs.drop (j + 1)))) := by
      rw [h2]; grind
    rw [e2, Nat.add_mul_div_left _ _ (Nat.pow_pos (by decide)), Nat.add_mul_mod_self_left]
  · have h1 : val B16 xs / B16 ^ j = 0 := by
      apply Nat.div_eq_of_lt
      exact Nat.lt_of_lt_of_le (val_lt B16_pos hd) (Nat.pow_le_pow_right B16_pos (by omega))
    rw [h1, List.getElem?_eq_none (by omega)]
    rfl

/-- shl by one -/
def Shl1Rel (la : Nat) (xs : List Nat) (W : World) (ov cv iv : Value) (wr : World) : Prop :=
  ∃ (c i : Nat) (zs : List Nat), cv = .int .i64 (c : Int) ∧ iv = .int .i64 (i : Int) ∧ Own .i64 wr W.heap.size 3 ov i zs ∧ Dig B16 zs ∧ c ≤ 1 ∧ i ≤ la ∧ val B16 zs + c * B16 ^ i = 2 * val B16 (xs.take i) ∧ Below W.heap.size W wr

theorem shl1_step {xs zs : List Nat} {c i x : Nat} (hl : zs.length = i) (hx : x = xs[i]?.getD 0) (h : val B16 zs + c * B16 ^ i = 2 * val B16 (xs.take i)) :
    val B16 (zs ++ [(c + x * 2) % B16]) + (c + x * 2) / B16 * B16 ^ (i + 1) = 2 * val B16 (xs.take (i + 1)) := by
  have h2 := Nat.mod_add_div (c + x * 2) B16
  rw [val_snoc, hl, val_take_succ, ← hx, Nat.pow_succ]
  generalize (c + x * 2) % B16 = d at *
  generalize (c + x * 2) / B16 = q at *
  generalize B16 ^ i = p at *
  generalize B16 = B at *
  grind

end Go.Proofs.Ytcgnmihabkgecaa

/- The specification's shl for every count, shr by one. -/
set_option linter.unusedVariables false
namespace Go.Proofs.Ytcgnmihabkgecaa
open Go.RowKit

theorem even_half {a : Nat} (h : a % 2 = 0) : a = 2 * (a / 2) := by omega
theorem bg_left {a b : Nat} (ha : a % 2 = 0) (hb : ¬ b % 2 = 0) : Nat.gcd (a / 2) b = Nat.gcd a b := by
  have hc : Nat.Coprime 2 b := by
    unfold Nat.Coprime
    rw [Nat.gcd_rec]
    have : b % 2 = 1 := by omega
    rw [this]; decide
  conv => rhs; rw [even_half ha]
  exact (Nat.Coprime.gcd_mul_left_cancel _ hc).symm
theorem bg_right {a b : Nat} (hb : b % 2 = 0) (ha : ¬ a % 2 = 0) : Nat.gcd a (b / 2) = Nat.gcd a b := by
  rw [Nat.gcd_comm, bg_left hb ha, Nat.gcd_comm]
theorem bg_both {a b : Nat} (ha : a % 2 = 0) (hb : b % 2 = 0) : 2 * Nat.gcd (a / 2) (b / 2) = Nat.gcd a b := by
  rw [← Nat.gcd_mul_left, ← even_half ha, ← even_half hb]
theorem bg_sub_left {a b : Nat} (h : b ≤ a) : Nat.gcd (a - b) b = Nat.gcd a b := Nat.gcd_sub_self_left h
theorem bg_sub_right {a b : Nat} (h : a ≤ b) : Nat.gcd a (b - a) = Nat.gcd a b := Nat.gcd_sub_self_right h
theorem shl_num {l i V c p x m zs d q B : Nat} (h2 : d + B * q = c + p) (hp : p = x * m) (h : zs + c * B ^ (l + i) = m * B ^ l * V) :
    zs + d * B ^ (l + i) + q * B ^ (l + i + 1) = m * B ^ l * (V + x * B ^ i) := by
  rw [Nat.pow_succ]
  have e : B ^ (l + i) = B ^ l * B ^ i := Nat.pow_add _ _ _
  rw [e] at h ⊢; clear e
  generalize B ^ l = L at *
  generalize B ^ i = I at *
  subst hp
  grind
theorem shr_num {zs i x y V B r : Nat} (hB : B = 2 * 32768) (h : 2 * zs + r = V + B ^ i * (x % 2)) :
    2 * (zs + (x / 2 + y % 2 * 32768) * B ^ i) + r = V + x * B ^ i + B ^ (i + 1) * (y % 2) := by
  rw [Nat.pow_succ]
  have := Nat.div_add_mod x 2
  generalize x / 2 = u at *
  generalize x % 2 = v at *
  generalize y % 2 = k at *
  subst this
  generalize B ^ i = I at *
  subst hB
  grind

theorem Own.fresh {k : IntKind} {w : World} {base e g : Nat} {zs : List Nat} (h : Blk k w g e zs) (hb : base ≤ g) (hl : zs.length ≤ maxLen) : Own k w base e (.slice (some ⟨g, 0, none⟩) zs.length zs.length) zs.length zs :=
  ⟨by simp, Or.inr ⟨g, zs.length, cs k zs, rfl, hb, h, Nat.le_refl _, hl, by simp [cs], by simp [cs]; exact List.take_of_length_le (by simp)⟩⟩

theorem shl16_step {xs zs : List Nat} {l i c p x m : Nat} (hl : zs.length = l + i) (hx : x = xs[i]?.getD 0) (hp : p = x * m) (h : val B16 zs + c * B16 ^ (l + i) = m * B16 ^ l * val B16 (xs.take i)) :
    val B16 (zs ++ [(c + p) % B16]) + (c + p) / B16 * B16 ^ (l + i + 1) = m * B16 ^ l * val B16 (xs.take (i + 1)) := by
  have h2 := Nat.mod_add_div (c + p) B16
  have h3 := shl_num h2 hp h
  rw [val_snoc, hl, val_take_succ, ← hx, Nat.mul_comm (B16 ^ (l + i)), Nat.mul_comm (B16 ^ i)]
  exact h3

theorem shl_pow {k : Nat} : 2 ^ (k % 16) * B16 ^ (k / 16) = 2 ^ k := by
  rw [B16_pow, ← Nat.pow_add, Nat.add_comm, Nat.div_add_mod]

def Shl16Rel (la l m : Nat) (xs : List Nat) (W : World) (ov cv iv : Value) (wr : World) : Prop :=
  ∃ (c i : Nat) (zs : List Nat), cv = .int .i64 (c : Int) ∧ iv = .int .i64 (i : Int) ∧ Own .i64 wr W.heap.size 3 ov (l + i) zs ∧ Dig B16 zs ∧ c < m ∧ i ≤ la ∧ val B16 zs + c * B16 ^ (l + i) = m * B16 ^ l * val B16 (xs.take i) ∧ Below W.heap.size W wr

end Go.Proofs.Ytcgnmihabkgecaa

/- The specification's shr by one. -/
set_option linter.unusedVariables false
namespace Go.Proofs.Ytcgnmihabkgecaa
open Go.RowKit

theorem shr16_step {xs zs : List Nat} {i x y r : Nat} (hl : zs.length = i) (hx : x = xs[i]?.getD 0) (hy : y = xs[i + 1]?.getD 0) (h : 2 * val B16 zs + r = val B16 (xs.take i) + B16 ^ i * (xs[i]?.getD 0 % 2)) :
    2 * val B16 (zs ++ [x / 2 + y % 2 * 32768]) + r = val B16 (xs.take (i + 1)) + B16 ^ (i + 1) * (xs[i + 1]?.getD 0 % 2) := by
  rw [val_snoc, hl, val_take_succ, ← hx, ← hy, Nat.mul_comm (B16 ^ i), Nat.mul_comm (B16 ^ i) x]
  rw [← hx] at h
  exact shr_num (by rw [B16_eq]) h

/-- 'append(s, x)' of one element, s the call's own, at a step of a region that draws its order -/
theorem step_app {P : Program} {w : World} {ops : Array Oper} {o : Oper} {a : Act} {K : Act → World → Prop} {Q : Exit → Act → World → Prop} {E : Prop} (hgd : o.guard = none) (s x : Operand) (t : TypeId)
    (ho : o.op = .call { callee := .builtin .append, args := #[s, x], argTypes := #[t, t] }) (base e : Nat) (k : IntKind) (bytes : Nat)
    (h1 : P.underlying t = some (.slice e)) (h2 : (P.info? e).map (fun i => (i.zero, i.size, i.bytes)) = some (some (.int k 0), 1, bytes))
    (v : Value) (n : Nat) (xs : List Nat) (hs : a.eval s = v) (hown : Own k w base e v n xs) (V : Int) (xx : Nat) (hx : a.eval x = .slice (some ⟨w.heap.size, 0, none⟩) 1 1) (hV : V = (xx : Int))
    (hn : n ≤ 9000000000000) (hby : bytes ≤ 8) (hbase : base ≤ w.heap.size)
    (h : ∀ v' w', Own k w' base e v' (n + 1) (xs ++ [xx]) → Below base w w' → K (a.put o.dst v') w') :
    if Region.wanted o (yielded ops a.tmps) = true then Oper.wp P o a (w.alloc (.cells #[.int k V] e)) K Q else E := by
  subst hV
  obtain ⟨i0, hi, hz0, hz1, hz2⟩ := info_parts h2
  have hown' : (w.alloc (.cells #[.int k (xx : Int)] e)).ownsRow base e 1 v n (xs.map fun z => Value.int k ((z : Nat) : Int)) := World.ownsRow.alloc hown _
  have hb : (n + 1) * bytes ≤ 140737488355328 := by
    have : (n + 1) * bytes ≤ (n + 1) * 8 := Nat.mul_le_mul_left _ hby
    omega
  refine step_append_lies _ hgd s x t ho base e i0 (.int k 0) 1 bytes h1 hi hz0 hz1 hz2 rfl (by decide) v n _ hs hown' ⟨w.heap.size, 0, none⟩ 1 1 [.int k (xx : Int)] hx rfl ?_ ?_ (by omega) (by unfold maxLen; omega) hb (by simp; omega) (w.heap.size + 1) (by simp) ?_
  · intro j u hj
    match j, hj with
    | 0, hj => simp at hj; subst hj; simp [Addr.add]
  · intro u hu; simp at hu; subst hu; rfl
  · intro g cap w' hr hg _ _
    refine h _ w' ?_ ?_
    · unfold Own
      rw [List.map_append]
      exact hr
    · exact ((Below.refl base w).alloc hbase _).grown hg (by simp; omega) hown.ge

def Shr16Rel (la r : Nat) (xs : List Nat) (W : World) (ov iv : Value) (wr : World) : Prop :=
  ∃ (i : Nat) (zs : List Nat), iv = .int .i64 (i : Int) ∧ Own .i64 wr W.heap.size 3 ov i zs ∧ Dig B16 zs ∧ i ≤ la ∧ 2 * val B16 zs + r = val B16 (xs.take i) + B16 ^ i * (xs[i]?.getD 0 % 2) ∧ Below W.heap.size W wr

end Go.Proofs.Ytcgnmihabkgecaa

/- The specification's divMod. -/
set_option linter.unusedVariables false
namespace Go.Proofs.Ytcgnmihabkgecaa
open Go.RowKit

/-- Out16, in new memory -/
def Out16N (w : World) (n : Nat) (e : Ending) (w' : World) : Prop := ∃ ao len cap, e = .returned (.slice ao len cap) ∧ len ≤ cap ∧ cap ≤ 9223372036854775807 ∧ N16 w' ao len n ∧ Below w.heap.size w w' ∧ (0 < len → ∃ g, ao = some ⟨g, 0, none⟩ ∧ w.heap.size ≤ g)

theorem Own.loc {k : IntKind} {w : World} {base e n : Nat} {v : Value} {xs : List Nat} (h : Own k w base e v n xs) : ∀ ao cap, v = .slice ao n cap → 0 < n → ∃ g, ao = some ⟨g, 0, none⟩ ∧ base ≤ g := by
  intro ao cap hv hn
  rcases h.cases with ⟨_, h0, _⟩ | ⟨g, cap', h1, h2, _⟩
  · omega
  · rw [hv] at h1
    cases h1
    exact ⟨g, rfl, h2⟩

theorem N16.setOther {w : World} {ao : Option Addr} {len n q i : Nat} {u : Value} (h : N16 w ao len n) (hl : 0 < len → ∃ g, ao = some ⟨g, 0, none⟩ ∧ g ≠ q) : N16 (w.setCell ⟨q, i, none⟩ u) ao len n := by
  obtain ⟨xs, ⟨hx, b, off, h0, hc⟩, h2⟩ := h
  refine ⟨xs, ⟨hx, b, off, h0, fun j hj => ?_⟩, h2⟩
  obtain ⟨g, hg, hne⟩ := hl (by omega)
  have h1 := h0 (by omega)
  rw [hg] at h1
  cases h1
  rw [← hc j hj]
  exact World.cell?_of_block (a := ⟨_, 0 + j, none⟩) (Below.heap_setCell _ _ _ _ hne)

theorem dm_bit {A i : Nat} : A / 2 ^ i = 2 * (A / 2 ^ (i + 1)) + A / 2 ^ i % 2 := by
  rw [Nat.pow_succ, ← Nat.div_div_eq_div_mul]
  omega

theorem dm_digit {qs : List Nat} (hd : Dig B16 qs) (i Q : Nat) (h : val B16 qs = 2 ^ (i + 1) * Q) (hj : i / 16 < qs.length) : qs[i / 16]?.getD 0 + 2 ^ (i % 16) < 65536 := by
  have hx := hd.get B16_pos (i / 16)
  have e : i = 16 * (i / 16) + i % 16 := (Nat.div_add_mod i 16).symm
  have hlt : i % 16 < 16 := Nat.mod_lt _ (by decide)
  have h1 : val B16 qs / B16 ^ (i / 16) = qs[i / 16]?.getD 0 + B16 * val B16 (qs.drop (i / 16 + 1)) := by
    rw [val_split B16 qs (i / 16) (by omega), Nat.add_mul_div_left _ _ (Nat.pow_pos B16_pos), Nat.div_eq_of_lt, Nat.zero_add, drop_eq_cons qs _ hj, val_cons]
    have := val_lt B16_pos (hd.take (i / 16))
    rwa [List.length_take, Nat.min_eq_left (by omega)] at this
  have h2 : val B16 qs / B16 ^ (i / 16) = 2 ^ (i % 16 + 1) * Q := by
    rw [h, B16_pow]
    conv => lhs; rw [show i + 1 = 16 * (i / 16) + (i % 16 + 1) by omega]
    rw [Nat.pow_add, Nat.mul_assoc, Nat.mul_div_cancel_left _ (Nat.pow_pos (by decide))]
  rw [h1] at h2
  generalize i % 16 = t at *
  generalize qs[i / 16]?.getD 0 = x at *
  have h3 : B16 = 2 ^ (t + 1) * 2 ^ (15 - t) := by rw [← Nat.pow_add, show t + 1 + (15 - t) = 16 by omega]; rfl
  -- x is a multiple of 2^(t+1)
  have h4 : x % 2 ^ (t + 1) = 0 := by
    have : (x + 2 ^ (t + 1) * (2 ^ (15 - t) * val B16 (qs.drop (i / 16 + 1)))) % 2 ^ (t + 1) = 0 := by
      rw [← Nat.mul_assoc, ← h3, h2]; exact Nat.mul_mod_right _ _
    rwa [Nat.add_mul_mod_self_left] at this
  obtain ⟨y, hy⟩ := Nat.dvd_of_mod_eq_zero h4
  have h5 : 2 ^ (t + 1) * y < 2 ^ (t + 1) * 2 ^ (15 - t) := by rw [← h3, ← hy]; exact hx
  have h6 := Nat.lt_of_mul_lt_mul_left h5
  have h7 : 2 ^ (t + 1) * (y + 1) ≤ 2 ^ (t + 1) * 2 ^ (15 - t) := Nat.mul_le_mul_left _ h6
  rw [← h3, B16_eq, Nat.mul_add, Nat.mul_one, ← hy] at h7
  have h8 : 0 < 2 ^ t := Nat.pow_pos (by decide)
  rw [Nat.pow_succ] at h7
  omega

theorem dm_set {qs : List Nat} (i : Nat) (hj : i / 16 < qs.length) : val B16 (qs.set (i / 16) (qs[i / 16]?.getD 0 + 2 ^ (i % 16))) = val B16 qs + 2 ^ i := by
  have h := val_set B16 qs (i / 16) (qs[i / 16]?.getD 0 + 2 ^ (i % 16)) hj
  have e : 2 ^ i = B16 ^ (i / 16) * 2 ^ (i % 16) := by rw [B16_pow, ← Nat.pow_add, Nat.div_add_mod]
  rw [Nat.mul_add] at h
  omega

theorem dm_less {A D Q R b i : Nat} (h : A / 2 ^ i = 2 * (A / 2 ^ (i + 1)) + A / 2 ^ i % 2) (hg : A / 2 ^ (i + 1) = D * Q + R) (hb : b = A / 2 ^ i % 2) : A / 2 ^ i = D * (2 * Q) + (2 * R + b) := by
  rw [hg, ← hb] at h
  rw [h, Nat.mul_left_comm D 2 Q]
  omega

theorem dm_more {A D Q R b i : Nat} (h : A / 2 ^ i = 2 * (A / 2 ^ (i + 1)) + A / 2 ^ i % 2) (hg : A / 2 ^ (i + 1) = D * Q + R) (hb : b = A / 2 ^ i % 2) (hl : ¬ 2 * R + b < D) : A / 2 ^ i = D * (2 * Q + 1) + (2 * R + b - D) := by
  rw [dm_less h hg hb, Nat.mul_add]
  omega

def DmRel (la lb A D : Nat) (W : World) (rv iv : Value) (wr : World) : Prop :=
  ∃ (k R Q : Nat) (qs : List Nat) (ro : Option Addr) (rl rc : Nat), iv = .int .i64 ((k : Int) - 1) ∧ rv = .slice ro rl rc ∧ N16 wr ro rl R ∧ R < D ∧ A / 2 ^ k = D * Q + R ∧ Blk .i64 wr W.heap.size 3 qs ∧ qs.length = la ∧ Dig B16 qs ∧ val B16 qs = 2 ^ k * Q ∧ k ≤ 16 * la ∧ rl ≤ rc ∧ rc ≤ 9223372036854775807 ∧ Below W.heap.size W wr

def DmPost (A D : Nat) (W : World) (e : Ending) (w' : World) : Prop :=
  ∃ qo ql qc ro rl rc, e = .returned (.tuple #[.slice qo ql qc, .slice ro rl rc]) ∧ ql ≤ qc ∧ qc ≤ 9223372036854775807 ∧ rl ≤ rc ∧ rc ≤ 9223372036854775807 ∧ N16 w' qo ql (A / D) ∧ N16 w' ro rl (A % D) ∧ Below W.heap.size W w'

end Go.Proofs.Ytcgnmihabkgecaa

/- The specification's gcd. -/
set_option linter.unusedVariables false
namespace Go.Proofs.Ytcgnmihabkgecaa
open Go.RowKit

theorem par16 {xs : List Nat} (hd : Dig B16 xs) : xs[0]?.getD 0 % 2 = val B16 xs % 2 := by
  have := bit_of hd 0
  simpa using this.symm

theorem N16.low {w : World} {ao : Option Addr} {la a : Nat} (h : N16 w ao la a) (ha : 0 < a) : 0 < la ∧ ∃ b off x, ao = some ⟨b, off, none⟩ ∧ w.cell? ⟨b, off, none⟩ = some (.int .i64 ((x : Nat) : Int)) ∧ x < 65536 ∧ x % 2 = a % 2 := by
  have hla : 0 < la := by
    rcases Nat.eq_zero_or_pos la with h0 | h0
    · have := h.zero.2 h0; omega
    · exact h0
  obtain ⟨xs, ⟨hx, b, off, h0, hc⟩, hd, ht, hv⟩ := h
  refine ⟨hla, b, off, xs[0]?.getD 0, h0 hla, hc 0 hla, ?_, ?_⟩
  · have := hd.get B16_pos 0; rwa [B16_eq] at this
  · rw [par16 hd, hv]

def GcdS (L G k : Nat) (W : World) (av bv : Value) (wr : World) (a b : Nat) : Prop :=
  ∃ (ao bo : Option Addr) (la ca lb cb : Nat), av = .slice ao la ca ∧ bv = .slice bo lb cb ∧ la ≤ ca ∧ ca ≤ 9223372036854775807 ∧ lb ≤ cb ∧ cb ≤ 9223372036854775807 ∧ N16 wr ao la a ∧ N16 wr bo lb b ∧ a < B16 ^ L ∧ b < B16 ^ L ∧ 0 < b ∧ 2 ^ k * Nat.gcd a b = G ∧ Below W.heap.size W wr

def Gcd1 (L G : Nat) (W : World) (av bv kv : Value) (wr : World) : Prop :=
  ∃ k a b, kv = .int .i64 ((k : Nat) : Int) ∧ k ≤ 16 * L ∧ 0 < a ∧ GcdS L G k W av bv wr a b

def Gcd2 (L G : Nat) (W : World) (av bv kv : Value) (wr : World) : Prop :=
  ∃ k a b, kv = .int .i64 ((k : Nat) : Int) ∧ k ≤ 16 * L ∧ ¬ (a % 2 = 0 ∧ b % 2 = 0) ∧ GcdS L G k W av bv wr a b

/-- the inner loops: a is halved until it is odd; b, which is odd or a is, stays -/
def Gcd3 (a b : Nat) (w0 : World) (av : Value) (wr : World) : Prop :=
  ∃ (a' : Nat) (ao : Option Addr) (la ca : Nat), av = .slice ao la ca ∧ la ≤ ca ∧ ca ≤ 9223372036854775807 ∧ N16 wr ao la a' ∧ 0 < a' ∧ a' ≤ a ∧ ¬ (a' % 2 = 0 ∧ b % 2 = 0) ∧ Nat.gcd a' b = Nat.gcd a b ∧ Below w0.heap.size w0 wr

theorem gcd_k {L G k a b : Nat} (hG : G < 2 ^ (16 * L)) (hb : 0 < b) (h : 2 ^ k * Nat.gcd a b = G) : k < 16 * L := by
  have h1 : 0 < Nat.gcd a b := Nat.gcd_pos_of_pos_right _ hb
  have h2 : 2 ^ k * 1 ≤ 2 ^ k * Nat.gcd a b := Nat.mul_le_mul_left _ h1
  exact (Nat.pow_lt_pow_iff_right (a := 2) (by decide)).1 (by omega)

theorem tmod2 {x a : Nat} (h : x % 2 = a % 2) : ((x : Int).tmod 2 = ((a % 2 : Nat) : Int)) ∧ ((x : Int) % 2 = ((a % 2 : Nat) : Int)) := by
  have h1 : (x : Int).tmod 2 = (x : Int) % 2 := Int.tmod_eq_emod_of_nonneg (Int.natCast_nonneg _)
  constructor
  · rw [h1]; omega
  · omega

end Go.Proofs.Ytcgnmihabkgecaa

/- Gcd of the program and of the specification. -/
set_option linter.unusedVariables false
namespace Go.Proofs.Ytcgnmihabkgecaa
open Go.RowKit Go.Proofs

theorem fits_gcd {x y : Int} (hx : Fits x) (hy : Fits y) : Fits ((Int.gcd x y : Nat) : Int) := by
  unfold Fits at *
  rw [blen_le] at *
  rw [Int.natAbs_natCast]
  by_cases h : x = 0
  · rw [h, Int.gcd_zero_left]; exact hy
  · exact Nat.lt_of_le_of_lt (Nat.le_of_dvd (by omega) (Nat.gcd_dvd_left _ _)) hx

set_option maxHeartbeats 2000000 in
theorem gcdI_any (na nb : Bool) (ao bo : Option Addr) (la lb ca cb : Nat) (x y : Int) (W : World) (ha : Z32 W na ao la x) (hb : Z32 W nb bo lb y) (hla : la ≤ 1000000000) (hlb : lb ≤ 1000000000) :
    Calls Try.prog 12 #[.agg #[.bool na, .slice ao la ca], .agg #[.bool nb, .slice bo lb cb]] W (OutI W ((Int.gcd x y : Nat) : Int)) := by
  have hf : Fr W (((W.alloc (.cells #[.bool na, .slice ao la ca] 27)).alloc (.cells #[.bool nb, .slice bo lb cb] 27)).alloc (.cells #[.bool false, .slice none 0 0] 27)) [(27, #[.bool na, .slice ao la ca]), (27, #[.bool nb, .slice bo lb cb]), (27, #[.bool false, .slice none 0 0])] := (((Fr.nil W).alloc rfl _ _).alloc (by simp) _ _).alloc (by simp) _ _
  obtain ⟨m, hm, rfl, hpm⟩ := ha
  obtain ⟨n, hn, rfl, hpn⟩ := hb
  have HGE : Hid (Int.gcd (sgn na m) (sgn nb n) = Nat.gcd m n) := by show _ = _; unfold Int.gcd; rw [sgn_natAbs, sgn_natAbs]
  rw [HGE.out]
  have HM := Lib.hid hm
  have HN := Lib.hid hn
  clear hm hn hpm hpn
  go_enter Try.func12, Try.ntmps12
  go_wp2_with fail
  obtain ⟨W3, hW3⟩ : ∃ W3, W3 = (((W.alloc (.cells #[.bool na, .slice ao la ca] 27)).alloc (.cells #[.bool nb, .slice bo lb cb] 27)).alloc (.cells #[.bool false, .slice none 0 0] 27)) := ⟨_, rfl⟩
  rw [← hW3] at hf ⊢
  clear hW3
  have HF := Lib.hid hf
  clear hf
  refine (gcd_ok m n _ _ _ _ _ _ _ (HM.out.keep HF.out.below) (HN.out.keep HF.out.below) hla hlb).mono ?_
  rintro e w1 ⟨go, gl, gc, rfl, hg1, hb1⟩
  have HF1 := Lib.hid (HF.out.later hb1)
  have HG1 := Lib.hid hg1
  clear hg1 hb1
  go_wp2_with fail
  refine (signed_any _ _ _ _ _ _ HG1.out).mono ?_
  rintro e w2 ⟨neg, uo, ul, uc, rfl, hz2, hb2⟩
  have HF2 := Lib.hid (HF1.out.later hb2)
  have HZ2 := Lib.hid hz2
  clear hz2 hb2
  have g0 : w2.cell? ⟨W.heap.size + 1 + 1, 0, none⟩ = some (.bool false) := HF2.out.cell 2 0 rfl rfl
  have g1 : w2.cell? ⟨W.heap.size + 1 + 1, 1, none⟩ = some (.slice none 0 0) := HF2.out.cell 2 1 rfl rfl
  have g2 : w2.frozen? ⟨W.heap.size + 1 + 1, 0, none⟩ = false := HF2.out.frozen 2 0 rfl
  have g3 : w2.frozen? ⟨W.heap.size + 1 + 1, 1, none⟩ = false := HF2.out.frozen 2 1 rfl
  go_wp2
  obtain ⟨e0, e1, hz, hbel, _⟩ := HF2.out.finI (cap := uc) 2 rfl HZ2.out
  exact bodyPost_ret (v := .agg #[.bool neg, .slice uo ul uc]) (by simp [results, Try.results12, go_sem, e0, e1]) rfl ⟨neg, uo, ul, uc, rfl, hz, hbel⟩

end Go.Proofs.Ytcgnmihabkgecaa

/- fittingRat, Rat.Sign. -/
set_option linter.unusedVariables false
namespace Go.Proofs.Ytcgnmihabkgecaa
open Go.RowKit

/-- the fraction p / q fits -/
def FitsQ (p : Int) (q : Nat) : Prop := Fits p ∧ blen q ≤ 16384

def OutFQ (W : World) (p : Int) (q : Nat) (e : Ending) (w' : World) : Prop :=
  (FitsQ p q ∧ OutQE W p q e w') ∨ (¬ FitsQ p q ∧ e = .returned (.tuple #[.agg #[.bool false, .slice none 0 0, .slice none 0 0], .int .i64 3]) ∧ Below W.heap.size W w')

theorem Q32.den {W : World} {na : Bool} {ao bo : Option Addr} {la lb : Nat} {p : Int} {q : Nat} (h : Q32 W na ao la bo lb p q) : ∃ d, N32 W bo lb d ∧ (blen d ≤ 16384 ↔ blen q ≤ 16384) := by
  rcases h.2 with ⟨h1, h2⟩ | ⟨h1, h2⟩
  · refine ⟨0, by rw [h1]; exact N32.nil _ _, ?_⟩
    have h3 : blen 0 ≤ 16384 := by rw [blen_zero]; omega
    have h4 : blen q ≤ 16384 := by
      rw [h2]
      have : blen 1 ≤ 1 := blen_le.2 (by decide)
      omega
    exact ⟨fun _ => h4, fun _ => h3⟩
  · exact ⟨q, h1, Iff.rfl⟩

set_option maxHeartbeats 1000000 in
theorem fittingRat_any (na : Bool) (ao bo : Option Addr) (la lb ca cb : Nat) (p : Int) (q : Nat) (W : World) (h : Q32 W na ao la bo lb p q) (hla : la ≤ 1000000000) (hlb : lb ≤ 1000000000) :
    Calls Try.prog 34 #[.agg #[.bool na, .slice ao la ca, .slice bo lb cb]] W (OutFQ W p q) := by
  have hf : Fr W ((W.alloc (.cells #[.bool na, .slice ao la ca, .slice bo lb cb] 45)).alloc (.cells #[.bool false, .slice none 0 0, .slice none 0 0] 45))
      [(45, #[.bool na, .slice ao la ca, .slice bo lb cb]), (45, #[.bool false, .slice none 0 0, .slice none 0 0])] := ((Fr.nil W).alloc rfl _ _).alloc (by simp) _ _
  obtain ⟨d, hd, hdq⟩ := h.den
  have HQ := Lib.hid h
  have HD := Lib.hid hd
  have HDQ := Lib.hid hdq
  clear h hd hdq
  go_enter Try.func34, Try.ntmps34
  go_wp2_with fail
  obtain ⟨W3, hW3⟩ : ∃ W3, W3 = (W.alloc (.cells #[.bool na, .slice ao la ca, .slice bo lb cb] 45)).alloc (.cells #[.bool false, .slice none 0 0, .slice none 0 0] 45) := ⟨_, rfl⟩
  rw [← hW3] at hf ⊢
  clear hW3
  have HF := Lib.hid hf
  clear hf
  refine (bitLen_any _ _ _ _ p _ (HQ.out.1.keep HF.out.below) hla).mono ?_
  rintro e w1 ⟨rfl, hb1⟩
  have HF1 := Lib.hid (HF.out.later hb1)
  clear hb1
  have c2 : w1.cell? ⟨W.heap.size, 2, none⟩ = some (.slice bo lb cb) := HF1.out.cell 0 2 rfl rfl
  have g0 : w1.cell? ⟨W.heap.size + 1, 0, none⟩ = some (.bool false) := HF1.out.cell 1 0 rfl rfl
  have g1 : w1.cell? ⟨W.heap.size + 1, 1, none⟩ = some (.slice none 0 0) := HF1.out.cell 1 1 rfl rfl
  have g2 : w1.cell? ⟨W.heap.size + 1, 2, none⟩ = some (.slice none 0 0) := HF1.out.cell 1 2 rfl rfl
  have g3 : w1.frozen? ⟨W.heap.size + 1, 0, none⟩ = false := HF1.out.frozen 1 0 rfl
  have g4 : w1.frozen? ⟨W.heap.size + 1, 1, none⟩ = false := HF1.out.frozen 1 1 rfl
  have g5 : w1.frozen? ⟨W.heap.size + 1, 2, none⟩ = false := HF1.out.frozen 1 2 rfl
  by_cases h1 : blen p.natAbs ≤ 16384
  · have t1 : ¬ (16384 : Int) < (blen p.natAbs : Int) := by omega
    have H1 := Lib.hid h1
    clear h1 g0 g1 g2 g3 g4 g5
    go_wp2_with fail
    refine (bitLength_any _ _ _ d _ (HD.out.keep HF1.out.below) hlb).mono ?_
    rintro e w2 ⟨rfl, hw⟩
    obtain rfl : w1 = w2 := hw
    have a0 : w1.cell? ⟨W.heap.size, 0, none⟩ = some (.bool na) := HF1.out.cell 0 0 rfl rfl
    have a1 : w1.cell? ⟨W.heap.size, 1, none⟩ = some (.slice ao la ca) := HF1.out.cell 0 1 rfl rfl
    have g0 : w1.cell? ⟨W.heap.size + 1, 0, none⟩ = some (.bool false) := HF1.out.cell 1 0 rfl rfl
    have g1 : w1.cell? ⟨W.heap.size + 1, 1, none⟩ = some (.slice none 0 0) := HF1.out.cell 1 1 rfl rfl
    have g2 : w1.cell? ⟨W.heap.size + 1, 2, none⟩ = some (.slice none 0 0) := HF1.out.cell 1 2 rfl rfl
    have g3 : w1.frozen? ⟨W.heap.size + 1, 0, none⟩ = false := HF1.out.frozen 1 0 rfl
    have g4 : w1.frozen? ⟨W.heap.size + 1, 1, none⟩ = false := HF1.out.frozen 1 1 rfl
    have g5 : w1.frozen? ⟨W.heap.size + 1, 2, none⟩ = false := HF1.out.frozen 1 2 rfl
    by_cases h2 : blen d ≤ 16384
    · have t2 : ¬ (16384 : Int) < (blen d : Int) := by omega
      have H2 := Lib.hid h2
      clear h2
      go_wp2
      obtain ⟨e0, e1, e2, hq, hbel⟩ := HF1.out.finQ (cap := ca) (bc := cb) 1 rfl (HQ.out.keep HF1.out.below)
      exact bodyPost_ret (v := .tuple #[.agg #[.bool na, .slice ao la ca, .slice bo lb cb], .int .i64 0]) (by simp [results, Try.results34, go_sem, e0, e1, e2]) rfl (.inl ⟨⟨H1.out, HDQ.out.1 H2.out⟩, na, ao, la, ca, bo, lb, cb, rfl, hq, hbel⟩)
    · have t2 : (16384 : Int) < (blen d : Int) := by omega
      have H2 := Lib.hid h2
      clear h2
      go_wp2
      obtain ⟨e0, e1, e2, hq, hbel⟩ := HF1.out.finQ (cap := 0) (bc := 0) (neg := false) (ao := none) (len := 0) (bo := none) (bl := 0) (p := 0) (q := 1) 1 rfl ⟨Z32.nil _, .inl ⟨rfl, rfl⟩⟩
      exact bodyPost_ret (v := .tuple #[.agg #[.bool false, .slice none 0 0, .slice none 0 0], .int .i64 3]) (by simp [results, Try.results34, go_sem, e0, e1, e2]) rfl (.inr ⟨fun h => H2.out (HDQ.out.2 h.2), rfl, hbel⟩)
  · have t1 : (16384 : Int) < (blen p.natAbs : Int) := by omega
    have H1 := Lib.hid h1
    clear h1
    go_wp2
    obtain ⟨e0, e1, e2, hq, hbel⟩ := HF1.out.finQ (cap := 0) (bc := 0) (neg := false) (ao := none) (len := 0) (bo := none) (bl := 0) (p := 0) (q := 1) 1 rfl ⟨Z32.nil _, .inl ⟨rfl, rfl⟩⟩
    exact bodyPost_ret (v := .tuple #[.agg #[.bool false, .slice none 0 0, .slice none 0 0], .int .i64 3]) (by simp [results, Try.results34, go_sem, e0, e1, e2]) rfl (.inr ⟨fun h => H1.out h.1, rfl, hbel⟩)

end Go.Proofs.Ytcgnmihabkgecaa

/- Facts for the operations of fractions. -/
set_option linter.unusedVariables false
namespace Go.Proofs.Ytcgnmihabkgecaa
open Go.RowKit

/-- an answer with an error is told of p / q -/
def ToldQ (p : Int) (q : Nat) (er P : Int) (Q : Nat) : Prop := (FitsQ p q ∧ er = 0 ∧ P = p ∧ Q = q) ∨ (¬ FitsQ p q ∧ er = 3 ∧ P = 0 ∧ Q = 1)

def OutTQ (W : World) (p : Int) (q : Nat) (e : Ending) (w' : World) : Prop :=
  ∃ na ao la ca bo lb cb er P Q, e = .returned (.tuple #[.agg #[.bool na, .slice ao la ca, .slice bo lb cb], .int .i64 er]) ∧ la ≤ 512 ∧ lb ≤ 512 ∧ Q32 w' na ao la bo lb P Q ∧ Below W.heap.size W w' ∧ ToldQ p q er P Q

theorem Q32.lens {W : World} {na : Bool} {ao bo : Option Addr} {la lb : Nat} {p : Int} {q : Nat} (h : Q32 W na ao la bo lb p q) (hf : FitsQ p q) : la ≤ 512 ∧ lb ≤ 512 := by
  refine ⟨fits_len h.1 hf.1, ?_⟩
  rcases h.2 with ⟨h1, _⟩ | ⟨h1, _⟩
  · omega
  · refine h1.len_le ?_
    obtain ⟨k, hk⟩ : ∃ k, k = 512 := ⟨_, rfl⟩
    rw [← hk, B32_pow]
    exact blen_le.1 (Nat.le_trans hf.2 (by omega))

theorem OutFQ.told {W w' : World} {p : Int} {q : Nat} {e : Ending} (h : OutFQ W p q e w') : OutTQ W p q e w' := by
  rcases h with ⟨h, na, ao, la, ca, bo, lb, cb, rfl, hq, hb⟩ | ⟨h, rfl, hb⟩
  · exact ⟨na, ao, la, ca, bo, lb, cb, 0, p, q, rfl, (hq.lens h).1, (hq.lens h).2, hq, hb, .inl ⟨h, rfl, rfl, rfl⟩⟩
  · exact ⟨false, none, 0, 0, none, 0, 0, 3, 0, 1, rfl, by omega, by omega, ⟨Z32.nil _, .inl ⟨rfl, rfl⟩⟩, hb, .inr ⟨h, rfl, rfl, rfl⟩⟩

theorem Q32.pos {W : World} {na : Bool} {ao bo : Option Addr} {la lb : Nat} {p : Int} {q : Nat} (h : Q32 W na ao la bo lb p q) : 0 < q := by
  rcases h.2 with ⟨_, h1⟩ | ⟨_, h1⟩ <;> omega

/-- OutI with a bound for the number of digits -/
def OutIL (W : World) (z : Int) (L : Nat) (e : Ending) (w' : World) : Prop := ∃ neg ao len cap, e = .returned (.agg #[.bool neg, .slice ao len cap]) ∧ len ≤ L ∧ Z32 w' neg ao len z ∧ Below W.heap.size W w'

theorem OutI.len {W w' : World} {z : Int} {L : Nat} {e : Ending} (h : OutI W z e w') (hL : z.natAbs < B32 ^ L) : OutIL W z L e w' := by
  obtain ⟨neg, ao, len, cap, rfl, hz, hb⟩ := h
  exact ⟨neg, ao, len, cap, rfl, hz.n32.len_le hL, hz, hb⟩

theorem times_L (na nb : Bool) (ao bo : Option Addr) (la lb ca cb : Nat) (x y : Int) (W : World) (ha : Z32 W na ao la x) (hb : Z32 W nb bo lb y) (hla : la ≤ 100000000) (hlb : lb ≤ 100000000) :
    Calls Try.prog 24 #[.agg #[.bool na, .slice ao la ca], .agg #[.bool nb, .slice bo lb cb]] W (OutIL W (x * y) (la + lb + 1)) :=
  (times_any na nb ao bo la lb ca cb x y W ha hb (by omega) (by omega)).mono fun e w h => h.len (mulI_len ha.n32.lt hb.n32.lt)

theorem plus_L (na nb : Bool) (ao bo : Option Addr) (la lb ca cb : Nat) (x y : Int) (W : World) (ha : Z32 W na ao la x) (hb : Z32 W nb bo lb y) (hla : la ≤ 100000000) (hlb : lb ≤ 100000000) :
    Calls Try.prog 23 #[.agg #[.bool na, .slice ao la ca], .agg #[.bool nb, .slice bo lb cb]] W (OutIL W (x + y) (la + lb + 1)) :=
  (plus_any na nb ao bo la lb ca cb x y W ha hb (by omega) (by omega)).mono fun e w h => h.len (addI_len ha.n32.lt hb.n32.lt)

theorem den_L (na : Bool) (ao bo : Option Addr) (la lb ca cb : Nat) (p : Int) (q : Nat) (W : World) (h : Q32 W na ao la bo lb p q) (hlb : lb ≤ 100000000) :
    Calls Try.prog 33 #[.agg #[.bool na, .slice ao la ca, .slice bo lb cb]] W (OutIL W q (lb + 1)) :=
  (den_any na ao bo la lb ca cb p q W h (by omega)).mono fun e w k => k.len (by
    rw [Int.natAbs_natCast]
    rcases h.2 with ⟨h1, h2⟩ | ⟨h1, _⟩
    · rw [h2]; exact Nat.one_lt_pow (by omega) (by decide)
    · exact Nat.lt_of_lt_of_le h1.lt (Nat.pow_le_pow_right B32_pos (by omega)))

def OutQL (W : World) (p : Int) (q L M : Nat) (e : Ending) (w' : World) : Prop :=
  ∃ neg ao len cap bo bl bc, e = .returned (.agg #[.bool neg, .slice ao len cap, .slice bo bl bc]) ∧ len ≤ L ∧ bl ≤ M ∧ Q32 w' neg ao len bo bl p q ∧ Below W.heap.size W w'

theorem reduced_L (na nb : Bool) (ao bo : Option Addr) (la lb ca cb : Nat) (x y : Int) (W : World) (ha : Z32 W na ao la x) (hb : Z32 W nb bo lb y) (hla : la ≤ 1000000000) (hlb : lb ≤ 1000000000) (hy : y ≠ 0) :
    Calls Try.prog 32 #[.agg #[.bool na, .slice ao la ca], .agg #[.bool nb, .slice bo lb cb]] W (OutQL W (lowP x y) (lowQ x y) la lb) := by
  have hp : lowP x y = sgn (na != nb) (x.natAbs / Nat.gcd x.natAbs y.natAbs) := by unfold lowP; rw [ha.neg_eq, hb.neg_eq]
  have hg : 0 < Nat.gcd x.natAbs y.natAbs := Nat.gcd_pos_of_pos_right _ (by omega)
  have h1 := ha.n32.lt
  have h2 := hb.n32.lt
  refine (reduced_any na nb ao bo la lb ca cb x.natAbs y.natAbs W ha.n32 hb.n32 hla hlb (by omega) (gcd_ok _ _) (divide_ok _ _ hg) (divide_ok _ _ hg)).mono fun e w h => ?_
  obtain ⟨neg, uo, ul, uc, so, sl, sc, rfl, hq, hbel⟩ := h
  rw [← hp] at hq
  refine ⟨neg, uo, ul, uc, so, sl, sc, rfl, hq.1.n32.len_le ?_, ?_, hq, hbel⟩
  · rw [hp, sgn_natAbs]; exact Nat.lt_of_le_of_lt (Nat.div_le_self _ _) h1
  · rcases hq.2 with ⟨h3, _⟩ | ⟨h3, _⟩
    · omega
    · exact h3.len_le (Nat.lt_of_le_of_lt (Nat.div_le_self _ _) h2)

theorem newRat_L (na nb : Bool) (ao bo : Option Addr) (la lb ca cb : Nat) (x y : Int) (W : World) (ha : Z32 W na ao la x) (hb : Z32 W nb bo lb y) (hla : la ≤ 1000000000) (hlb : lb ≤ 1000000000) (hy : y ≠ 0) :
    Calls Try.prog 13 #[.agg #[.bool na, .slice ao la ca], .agg #[.bool nb, .slice bo lb cb]] W (OutQE W (lowP x y) (lowQ x y)) := by
  have hg : 0 < Nat.gcd x.natAbs y.natAbs := Nat.gcd_pos_of_pos_right _ (by omega)
  exact newRat_any na nb ao bo la lb ca cb x y W ha hb hla hlb hy (gcd_ok _ _) (divide_ok _ _ hg) (divide_ok _ _ hg)

theorem cell_set3 (w : World) (g b o : Nat) (u v x : Value) (h : b ≠ g) : (((w.setCell ⟨g, 0, none⟩ u).setCell ⟨g, 1, none⟩ v).setCell ⟨g, 2, none⟩ x).cell? ⟨b, o, none⟩ = w.cell? ⟨b, o, none⟩ := by
  have e : (((w.setCell ⟨g, 0, none⟩ u).setCell ⟨g, 1, none⟩ v).setCell ⟨g, 2, none⟩ x).heap[b]? = w.heap[b]? := by
    rw [Below.heap_setCell _ _ _ _ h, Below.heap_setCell _ _ _ _ h, Below.heap_setCell _ _ _ _ h]
  simp only [World.cell?, e]
end Go.Proofs.Ytcgnmihabkgecaa

/- The specification's text of a fraction; Floor. -/
set_option linter.unusedVariables false
namespace Go.Proofs.Ytcgnmihabkgecaa
open Go.RowKit

end Go.Proofs.Ytcgnmihabkgecaa

/- Floor: its blocks may be made at any time. -/
set_option linter.unusedVariables false
namespace Go.Proofs.Ytcgnmihabkgecaa
open Go.RowKit Go.Proofs

def IsDZ (x y : Int) (v : Value) (w : World) : Prop := ∃ na ao la ca nb bo lb cb, v = .tuple #[.agg #[.bool na, .slice ao la ca], .agg #[.bool nb, .slice bo lb cb], .int .i64 0] ∧ Z32 w na ao la x ∧ Z32 w nb bo lb y
theorem Stable.isDZ (base : Nat) (x y : Int) (v : Value) : Stable base (IsDZ x y v) :=
  Stable.ex fun na => Stable.ex fun ao => Stable.ex fun la => Stable.ex fun ca => Stable.ex fun nb => Stable.ex fun bo => Stable.ex fun lb => Stable.ex fun cb =>
    (Stable.const base _).and ((Stable.z32 base na ao la x).and (Stable.z32 base nb bo lb y))
theorem DivZPost.is {x y : Int} {W w' : World} {e : Ending} (h : DivZPost x y W e w') : ∃ v, e = .returned v ∧ IsDZ (x / y) (x % y) v w' ∧ Below W.heap.size W w' := by
  obtain ⟨na, ao, la, ca, nb, bo, lb, cb, rfl, h1, h2, h3⟩ := h
  exact ⟨_, rfl, ⟨na, ao, la, ca, nb, bo, lb, cb, rfl, h1, h2⟩, h3⟩

def flS (t0 t1 t2 t3 t4 t5 t6 t7 t8 p q k : Nat) (T : Nat) (z : Array Value) : Shape where
  f := fun i => match i with | 0 => t0 | 1 => t1 | 2 => t2 | 3 => t3 | 4 => t4 | 5 => t5 | 6 => t6 | 7 => t7 | 8 => t8 | 9 => p | 10 => q | 13 => k | _ => 0
  kd := fun i => match i with | 9 => .box T z | 10 => .box T z | 11 => .put 9 6 | 12 => .put 10 7 | _ => .val
  need := fun i => match i with | 1 => [0] | 3 => [2] | 4 => [1, 3] | 5 => [4] | 6 => [5] | 7 => [5] | 8 => [5] | 11 => [9, 6] | 12 => [10, 7] | 13 => [8] | _ => []
  st := fun i => match i with | 9 => 11 | _ => 12
  src := fun i => match i with | 9 => 6 | _ => 7

def flΦ (r0 r1 r2 : Value) (zq z1 z2 : Int) (i : Nat) (v : Value) (w : World) : Prop :=
  match i with | 0 => v = r0 | 1 => v = r1 | 2 => v = r2 | 3 => IsS zq v w | 4 => IsDZ z1 z2 v w | 5 => IsDZ z1 z2 v w | 6 => IsI z1 v w | 7 => IsI z2 v w | _ => v = .int .i64 0

set_option maxHeartbeats 2000000 in
theorem floor_region {Q : Exit → Act → World → Prop} {id : Nat} {a0 : Act} {W : World} {o0 o1 o2 o3 o4 o5 o6 o7 o8 o9 o10 o11 o12 o13 : Oper} (t0 t1 t2 t3 t4 t5 t6 t7 t8 p q k r : Nat) (f f2 : FuncId) (u1 u2 u3 : Value) (g : Nat) (zq z1 z2 : Int) (ts ts2 : Array TypeId) {fn fn2 : Func} {cb cb2 : Code}
    (hfn : Try.prog.funcs[f]? = some fn) (hname : (fn.name == "runtime.NumGoroutine") = false) (hbody : fn.body = some cb)
    (hfn2 : Try.prog.funcs[f2]? = some fn2) (hname2 : (fn2.name == "runtime.NumGoroutine") = false) (hbody2 : fn2.body = some cb2)
    (hok : (flS t0 t1 t2 t3 t4 t5 t6 t7 t8 p q k 27 #[.bool false, .slice none 0 0]).ok #[o0, o1, o2, o3, o4, o5, o6, o7, o8, o9, o10, o11, o12, o13] a0.tmps.size = true)
    (h0 : o0.op = .fieldAddr 45 (.tmp r) 0) (h1 : o1.op = .load 27 (.tmp t0)) (h2 : o2.op = .load 45 (.tmp r)) (h3 : o3.op = .call { callee := .value (.func f), args := #[.tmp t2], argTypes := ts })
    (h4 : o4.op = .call { callee := .value (.func f2), args := #[.tmp t1, .tmp t3], argTypes := ts2 }) (h5 : o5.op = .move (.tmp t4))
    (h6 : o6.op = .extract (.tmp t5) 0) (h7 : o7.op = .extract (.tmp t5) 1) (h8 : o8.op = .extract (.tmp t5) 2)
    (h9 : o9.op = .alloc 27) (h10 : o10.op = .alloc 27) (h11 : o11.op = .store 27 (.tmp p) (.tmp t6)) (h12 : o12.op = .store 27 (.tmp q) (.tmp t7)) (h13 : o13.op = .assign (.tmp t8))
    (hr : a0.eval (.tmp r) = .pointer (some ⟨g, 0, none⟩)) (hrs : r ∉ [t0, t1, t2, t3, t4, t5, t6, t7, t8, p, q, k]) (hg : g < W.heap.size)
    (c1 : W.cell? ⟨g, 0, none⟩ = some u1) (c2 : W.cell? ⟨g, 1, none⟩ = some u2) (c3 : W.cell? ⟨g, 2, none⟩ = some u3)
    (hc1 : ∀ w, Below W.heap.size W w → Calls Try.prog f #[.agg #[u1, u2, u3]] w (fun e w' => ∃ v, e = .returned v ∧ IsS zq v w' ∧ Below w.heap.size w w'))
    (hc2 : ∀ w n x l c, Below W.heap.size W w → l ≤ 512 → Z32 w n x l zq → Calls Try.prog f2 #[.agg #[u1, u2], .agg #[.bool n, .slice x l c]] w (fun e w' => ∃ v, e = .returned v ∧ IsDZ z1 z2 v w' ∧ Below w.heap.size w w'))
    (hend : ∀ w b1 b2 n1 x1 l1 k1 d3 d4 d5 d7, Below W.heap.size W w → W.heap.size ≤ b1 → Box w b1 27 #[.bool n1, .slice x1 l1 k1] → Z32 w n1 x1 l1 z1 →
      Q .normal (puts a0 [(t0, .pointer (some ⟨g, 0, none⟩)), (t1, .agg #[u1, u2]), (t2, .agg #[u1, u2, u3]), (t3, d3), (t4, d4), (t5, d5), (t6, .agg #[.bool n1, .slice x1 l1 k1]), (t7, d7), (t8, .int .i64 0),
        (p, .pointer (some ⟨b1, 0, none⟩)), (q, .pointer (some ⟨b2, 0, none⟩)), (k, .int .i64 0)]) w) :
    (Code.region id #[o0, o1, o2, o3, o4, o5, o6, o7, o8, o9, o10, o11, o12, o13] true).wp Try.prog Q a0 W := by
  refine Shape.region (flS t0 t1 t2 t3 t4 t5 t6 t7 t8 p q k 27 #[.bool false, .slice none 0 0]) (fun i v w => flΦ (.pointer (some ⟨g, 0, none⟩)) (.agg #[u1, u2]) (.agg #[u1, u2, u3]) zq z1 z2 i (v i) w) (by kernel_rfl) hok
    (fun i v v' w _ hj hΦ => by rw [← hj i (.inl rfl)]; exact hΦ) ?stab ?val ?box ?put rfl ?fin
  case stab =>
    intro i v hi
    match i with
    | 0 => exact Stable.const _ _
    | 1 => exact Stable.const _ _
    | 2 => exact Stable.const _ _
    | 3 => exact Stable.isS _ _ _
    | 4 => exact Stable.isDZ _ _ _ _
    | 5 => exact Stable.isDZ _ _ _ _
    | 6 => exact Stable.isI _ _ _
    | 7 => exact Stable.isI _ _ _
    | i + 8 => exact Stable.const _ _
  case val =>
    intro i o ho hv a w hA hb hz hn K' hK
    have er : a.eval (.tmp r) = .pointer (some ⟨g, 0, none⟩) := (hA.eval hrs).trans hr
    have d1 := (hb.cell (p := ⟨g, 0, none⟩) hg).trans c1
    have d2 := (hb.cell (p := ⟨g, 1, none⟩) hg).trans c2
    have d3 := (hb.cell (p := ⟨g, 2, none⟩) hg).trans c3
    match i, ho, hv with
    | 0, ho, _ =>
      have ho' : o0 = o := by simpa using ho
      subst ho'
      refine wp_value (v := .pointer (some ⟨g, 0, none⟩)) (w' := w) ?_ (hK _ _ (Below.refl _ _) (by simp [upd, flΦ]))
      unfold execOp
      rw [h0]
      dsimp only
      rw [er]
      simp [go_sem]
    | 1, ho, _ =>
      have ho' : o1 = o := by simpa using ho
      subst ho'
      have e : a.eval (.tmp t0) = .pointer (some ⟨g, 0, none⟩) := hn 0 (by simp [flS]) rfl
      refine wp_value (v := .agg #[u1, u2]) (w' := w) ?_ (hK _ _ (Below.refl _ _) (by simp [upd, flΦ]))
      unfold execOp
      rw [h1]
      dsimp only
      rw [e]
      simp [go_sem, d1, d2]
    | 2, ho, _ =>
      have ho' : o2 = o := by simpa using ho
      subst ho'
      refine wp_value (v := .agg #[u1, u2, u3]) (w' := w) ?_ (hK _ _ (Below.refl _ _) (by simp [upd, flΦ]))
      unfold execOp
      rw [h2]
      dsimp only
      rw [er]
      simp [go_sem, d1, d2, d3]
    | 3, ho, _ =>
      have ho' : o3 = o := by simpa using ho
      subst ho'
      have e : a.eval (.tmp t2) = .agg #[u1, u2, u3] := hn 2 (by simp [flS]) rfl
      refine wp_call (run_call hfn hname hbody h3 a w) ?_ (fun v w' hb' hφ => hK v w' hb' (by simpa [upd, flΦ] using hφ))
      have em : Array.map a.eval #[Operand.tmp t2] = #[a.eval (.tmp t2)] := by simp only [List.map_toArray, List.map_cons, List.map_nil]
      rw [em, e]
      exact hc1 w (below_undrew hb)
    | 4, ho, _ =>
      have ho' : o4 = o := by simpa using ho
      subst ho'
      have e : a.eval (.tmp t1) = .agg #[u1, u2] := hn 1 (by simp [flS]) rfl
      obtain ⟨n, x, l, c, e2, y1, y2⟩ : IsS zq (a.eval (.tmp t3)) w := hn 3 (by simp [flS]) rfl
      refine wp_call (run_call hfn2 hname2 hbody2 h4 a w) ?_ (fun v w' hb' hφ => hK v w' hb' (by simpa [upd, flΦ] using hφ))
      have em : Array.map a.eval #[Operand.tmp t1, Operand.tmp t3] = #[a.eval (.tmp t1), a.eval (.tmp t3)] := by simp only [List.map_toArray, List.map_cons, List.map_nil]
      rw [em, e, e2]
      exact hc2 w n x l c (below_undrew hb) y1 y2
    | 5, ho, _ =>
      have ho' : o5 = o := by simpa using ho
      subst ho'
      have e : IsDZ z1 z2 (a.eval (.tmp t4)) w := hn 4 (by simp [flS]) rfl
      exact wp_value (run_move h5 a w) (hK _ _ (Below.refl _ _) (by simpa [upd, flΦ] using e))
    | 6, ho, _ =>
      have ho' : o6 = o := by simpa using ho
      subst ho'
      obtain ⟨na, ao, la, ca, nb, bo, lb, cb, e, y1, y2⟩ : IsDZ z1 z2 (a.eval (.tmp t5)) w := hn 5 (by simp [flS]) rfl
      exact wp_value (run_extract h6 e rfl w) (hK _ _ (Below.refl _ _) (by simp only [upd, flΦ, if_true]; exact ⟨na, ao, la, ca, rfl, y1⟩))
    | 7, ho, _ =>
      have ho' : o7 = o := by simpa using ho
      subst ho'
      obtain ⟨na, ao, la, ca, nb, bo, lb, cb, e, y1, y2⟩ : IsDZ z1 z2 (a.eval (.tmp t5)) w := hn 5 (by simp [flS]) rfl
      exact wp_value (run_extract h7 e rfl w) (hK _ _ (Below.refl _ _) (by simp only [upd, flΦ, if_true]; exact ⟨nb, bo, lb, cb, rfl, y2⟩))
    | 8, ho, _ =>
      have ho' : o8 = o := by simpa using ho
      subst ho'
      obtain ⟨na, ao, la, ca, nb, bo, lb, cb, e, y1, y2⟩ : IsDZ z1 z2 (a.eval (.tmp t5)) w := hn 5 (by simp [flS]) rfl
      exact wp_value (run_extract h8 e rfl w) (hK _ _ (Below.refl _ _) (by simp [upd, flΦ]))
    | 13, ho, _ =>
      have ho' : o13 = o := by simpa using ho
      subst ho'
      have e : a.eval (.tmp t8) = .int .i64 0 := hn 8 (by simp [flS]) rfl
      exact wp_value (run_assign h13 a w) (hK _ _ (Below.refl _ _) (by simpa [upd, flΦ] using e))
    | 9, _, hv => cases hv
    | 10, _, hv => cases hv
    | 11, _, hv => cases hv
    | 12, _, hv => cases hv
    | i + 14, ho, _ => simp at ho
  case box =>
    intro i o T z ho hk a w
    match i, ho, hk with
    | 9, ho, hk => have ho' : o9 = o := by simpa using ho
                   subst ho'; cases hk; unfold execOp; rw [h9]; simp [go_sem]
    | 10, ho, hk => have ho' : o10 = o := by simpa using ho
                    subst ho'; cases hk; unfold execOp; rw [h10]; simp [go_sem]
    | 0, _, hk => cases hk
    | 1, _, hk => cases hk
    | 2, _, hk => cases hk
    | 3, _, hk => cases hk
    | 4, _, hk => cases hk
    | 5, _, hk => cases hk
    | 6, _, hk => cases hk
    | 7, _, hk => cases hk
    | 8, _, hk => cases hk
    | 11, _, hk => cases hk
    | 12, _, hk => cases hk
    | 13, _, hk => cases hk
    | i + 14, ho, _ => simp at ho
  case put =>
    intro i o p' s' T z ho hk hp a w b hva hφ hbx
    match i, ho, hk with
    | 0, _, hk => cases hk
    | 1, _, hk => cases hk
    | 2, _, hk => cases hk
    | 3, _, hk => cases hk
    | 4, _, hk => cases hk
    | 5, _, hk => cases hk
    | 6, _, hk => cases hk
    | 7, _, hk => cases hk
    | 8, _, hk => cases hk
    | 9, _, hk => cases hk
    | 10, _, hk => cases hk
    | 13, _, hk => cases hk
    | i + 14, ho, _ => simp at ho
    | 11, ho, hk =>
      have ho' : o11 = o := by simpa using ho
      subst ho'; cases hk; cases hp
      obtain ⟨n, x, l, c, e, _⟩ := hφ
      have e1 : a.eval (.tmp t6) = .agg #[.bool n, .slice x l c] := e
      have e2 : a.eval (.tmp p) = .pointer (some ⟨b, 0, none⟩) := hva
      have d1 := hbx.cell 0
      have d2 := hbx.cell 1
      have f1 := hbx.frozen 0
      have f2 := hbx.frozen 1
      refine ⟨[.bool n, .slice x l c], e, rfl, by simp [isInt], ?_⟩
      unfold execOp; rw [h11]
      dsimp only
      rw [e1, e2]
      simp [go_sem, d1, d2, f1, f2, setFrom]
    | 12, ho, hk =>
      have ho' : o12 = o := by simpa using ho
      subst ho'; cases hk; cases hp
      obtain ⟨n, x, l, c, e, _⟩ := hφ
      have e1 : a.eval (.tmp t7) = .agg #[.bool n, .slice x l c] := e
      have e2 : a.eval (.tmp q) = .pointer (some ⟨b, 0, none⟩) := hva
      have d1 := hbx.cell 0
      have d2 := hbx.cell 1
      have f1 := hbx.frozen 0
      have f2 := hbx.frozen 1
      refine ⟨[.bool n, .slice x l c], e, rfl, by simp [isInt], ?_⟩
      unfold execOp; rw [h12]
      dsimp only
      rw [e1, e2]
      simp [go_sem, d1, d2, f1, f2, setFrom]
  case fin =>
    intro a w blk hI
    have n8 : (#[o0, o1, o2, o3, o4, o5, o6, o7, o8, o9, o10, o11, o12, o13] : Array Oper).size = 14 := rfl
    rw [n8] at hI
    have hf := hI.agree.form
    have e0 : a.eval (.tmp t0) = .pointer (some ⟨g, 0, none⟩) := hI.vals 0 (by decide) (by decide) rfl
    have e1 : a.eval (.tmp t1) = .agg #[u1, u2] := hI.vals 1 (by decide) (by decide) rfl
    have e2 : a.eval (.tmp t2) = .agg #[u1, u2, u3] := hI.vals 2 (by decide) (by decide) rfl
    obtain ⟨n1, x1, l1, k1, e6, a3⟩ : IsI z1 (a.eval (.tmp t6)) w := hI.vals 6 (by decide) (by decide) rfl
    have e8 : a.eval (.tmp t8) = .int .i64 0 := hI.vals 8 (by decide) (by decide) rfl
    have e13 : a.eval (.tmp k) = .int .i64 0 := hI.vals 13 (by decide) (by decide) rfl
    obtain ⟨p1, p2, _, p3⟩ := hI.boxes 9 27 #[.bool false, .slice none 0 0] (by decide) (by decide) rfl
    obtain ⟨us, y1, y2, y3, y4⟩ := p3 (show (11 : Nat) < 14 by decide)
    obtain ⟨q1, q2, _, q3⟩ := hI.boxes 10 27 #[.bool false, .slice none 0 0] (by decide) (by decide) rfl
    have y5 : a.eval (.tmp t6) = .agg us.toArray := y1
    rw [e6] at y5
    cases y5
    have e9 : a.eval (.tmp p) = .pointer (some ⟨blk 9, 0, none⟩) := p1
    have e10 : a.eval (.tmp q) = .pointer (some ⟨blk 10, 0, none⟩) := q1
    have hsl : (flS t0 t1 t2 t3 t4 t5 t6 t7 t8 p q k 27 #[.bool false, .slice none 0 0]).slots 14 = [t0, t1, t2, t3, t4, t5, t6, t7, t8, p, q, k] := rfl
    rw [hsl] at hf
    simp only [List.map_cons, List.map_nil, e0, e1, e2, e6, e8, e9, e10, e13] at hf
    rw [hf]
    exact hend w (blk 9) (blk 10) n1 x1 l1 k1 _ _ _ _ (below_undrew hI.below) p2 y4 a3

end Go.Proofs.Ytcgnmihabkgecaa
