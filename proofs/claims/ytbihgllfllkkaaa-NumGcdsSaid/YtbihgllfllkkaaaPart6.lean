/- Part 6 of the contracts: LehF, Dec, Div, RefA. -/
import Derived.Deep.CutRange
import Derived.Test.YtbihgllfllkkaaaPart5

/- commonDivisor, for all numbers. -/
set_option linter.unusedVariables false
namespace Go.Proofs.Ytbihgllfllkkaaa
open Go.RowKit

theorem readNat_n {w : World} {ao : Option Addr} {len cap n : Nat} (h : N32 w ao len n) : readNat w (.slice ao len cap) = n := by
  obtain ⟨xs, hs, hd, ht, hv⟩ := h
  rw [readNat_of hs, hv]

theorem cmpN_neg {m n : Nat} : cmpN m n < 0 ↔ m < n := by
  unfold cmpN
  by_cases h : m < n
  · simp [h]
  · simp only [h, iff_false, if_false]
    split <;> omega

theorem blen_top {n low : Nat} (h : blen n = low + 64) : n / 2 ^ low < 18446744073709551616 := by
  have h1 := blen_lt n
  rw [h, Nat.pow_add] at h1
  rw [Nat.div_lt_iff_lt_mul (Nat.pow_pos (by decide)), Nat.mul_comm]
  exact h1

def GcdRel (L G : Nat) (W : World) (av bv : Value) (wr : World) : Prop :=
  ∃ (ao bo : Option Addr) (la lb ca cb A B : Nat), av = .slice ao la ca ∧ bv = .slice bo lb cb ∧ N32 wr ao la A ∧ N32 wr bo lb B ∧ B ≤ A ∧ A < B32 ^ L ∧ Nat.gcd A B = G ∧ Below W.heap.size W wr

set_option maxRecDepth 8000 in
set_option maxHeartbeats 4000000 in
theorem gcd_ok (m n : Nat) : GcdOk m n := by
  intro ao bo la lb ca cb W ha hb hla hlb
  obtain ⟨L, hLe⟩ : ∃ L, L = max la lb := ⟨_, rfl⟩
  have hL : L ≤ 1000000000 := by omega
  have hmL : m < B32 ^ L := Nat.lt_of_lt_of_le ha.lt (Nat.pow_le_pow_right B32_pos (by omega))
  have hnL : n < B32 ^ L := Nat.lt_of_lt_of_le hb.lt (Nat.pow_le_pow_right B32_pos (by omega))
  have HML := Lib.hid hmL
  have HNL := Lib.hid hnL
  have HA := Lib.hid ha
  have HB := Lib.hid hb
  obtain ⟨G, hG⟩ : ∃ G, G = Nat.gcd m n := ⟨_, rfl⟩
  have HG := Lib.hid hG
  rw [← hG]
  clear ha hb hmL hnL hLe hG
  go_enter Try.func50, Try.ntmps50
  go_wp2_with fail
  refine (duplicate_n _ _ _ m _ HA.out hla).mono ?_
  rintro e w1 ⟨ao1, ca1, rfl, ha1, hb1⟩
  have HA1 := Lib.hid ha1
  have HW1 := Lib.hid hb1
  clear ha1 hb1
  go_wp2_with fail
  refine (duplicate_n _ _ _ n _ (HB.out.keep HW1.out) hlb).mono ?_
  rintro e w2 ⟨bo2, cb2, rfl, hb2, hw2⟩
  have HA2 := Lib.hid (HA1.out.keep hw2)
  have HB2 := Lib.hid hb2
  have HW2 := Lib.hid (below_then HW1.out hw2)
  clear hb2 hw2
  go_wp2_with fail
  refine (compare_any _ _ _ _ _ _ m n _ HA2.out HB2.out hla hlb).mono ?_
  rintro e w3 ⟨rfl, hd3⟩
  have HA3 := Lib.hid (HA2.out.keep hd3.below)
  have HB3 := Lib.hid (HB2.out.keep hd3.below)
  have HW3 := Lib.hid (HW2.out.trans (hd3.below))
  clear hd3
  obtain ⟨cc, hcc⟩ : ∃ c, c = cmpN m n := ⟨_, rfl⟩
  rw [← hcc]
  have HC := Lib.hid hcc
  clear hcc
  go_upto_if 16 with fail
  go_cut [0, 1] from 13 to 18 (fun av bv wx => GcdRel L G W av bv wx)
  case first =>
    by_cases hmn : m < n
    · have t1 : cc < 0 := by rw [HC.out]; exact cmpN_neg.2 hmn
      go_wp2_with fail
      go_meet
      case rel => exact ⟨bo2, ao1, lb, la, cb2, ca1, n, m, rfl, rfl, HB3.out, HA3.out, by omega, HNL.out, by rw [HG.out, Nat.gcd_comm], HW3.out⟩
    · have t1 : ¬ cc < 0 := by rw [HC.out]; exact fun h => hmn (cmpN_neg.1 h)
      go_wp2_with fail
      go_meet
      case rel => exact ⟨ao1, bo2, la, lb, ca1, cb2, m, n, rfl, rfl, HA3.out, HB3.out, by omega, HML.out, HG.out.symm, HW3.out⟩
  case rest =>
    clear HA HB HA1 HA2 HB2 HW1 HW2 HA3 HB3 HW3 HC HG HML HNL
    go_wp2_with fail
    go_loopw [0, 1] (fun av bv wr => GcdRel L G W av bv wr) (fun av bv wr => readNat wr av + readNat wr bv)
    case atStart => exact hcut
    case round =>
      obtain ⟨ao, bo, la, lb, ca, cb, A, B, rfl, rfl, ha, hb, hBA, hAL, hG, hw⟩ := hrel
      have hla : la ≤ 1000000000 := Nat.le_trans (ha.len_le hAL) hL
      have hlb : lb ≤ 1000000000 := Nat.le_trans (hb.len_le (Nat.lt_of_le_of_lt hBA hAL)) hL
      have HA := Lib.hid ha
      have HB := Lib.hid hb
      have HAL := Lib.hid hAL
      have HG := Lib.hid hG
      have HW := Lib.hid hw
      clear ha hb hAL hG hw
      by_cases hl0 : lb = 0
      · have hB0 : B = 0 := HB.out.zero.2 hl0
        subst hl0
        have HR : Hid (G = A) := by show _ = _; rw [← HG.out, hB0, Nat.gcd_zero_right]
        clear hB0
        go_wp2
        go_ret
        exact ⟨ao, la, ca, rfl, by rw [HR.out]; exact HA.out, HW.out⟩
      · have b1 : (0 : Int) < (lb : Int) := by omega
        have b2 : ((lb : Int) == 0) = false := by simp; omega
        have hB0 : 0 < B := by
          rcases Nat.eq_zero_or_pos B with h | h
          · exact absurd (HB.out.zero.1 h) hl0
          · exact h
        by_cases h64 : blen A ≤ 64
        · have t1 : ¬ (64 : Int) < (blen A : Int) := by omega
          have hA64 : A < 18446744073709551616 := blen_le.1 h64
          have hla2 : la ≤ 2 := HA.out.len_le (small2 hA64)
          have hlb2 : lb ≤ 2 := HB.out.len_le (small2 (Nat.lt_of_le_of_lt hBA hA64))
          clear h64
          go_wp2_with fail
          refine (bitLength_any _ _ _ A _ HA.out hla).mono ?_
          rintro e w4 ⟨rfl, rfl⟩
          go_wp2_with fail
          refine (toWord_any _ _ _ A _ HA.out hla2).mono ?_
          rintro e w5 ⟨rfl, rfl⟩
          go_wp2_with fail
          refine (toWord_any _ _ _ B _ HB.out hlb2).mono ?_
          rintro e w6 ⟨rfl, rfl⟩
          go_wp2_with fail
          refine (commonWord_any _ _ A B _ rfl rfl hA64 (Nat.lt_of_le_of_lt hBA hA64)).mono ?_
          rintro e w7 ⟨rfl, hd7⟩
          go_wp2_with fail
          refine (fromWord_any _ (Nat.gcd A B) _ rfl (Nat.le_trans (Nat.gcd_le_right A hB0) (by omega))).mono ?_
          rintro e w8 ⟨ro, rl, rc, rfl, hr, hb8⟩
          go_wp2
          go_ret
          exact ⟨ro, rl, rc, rfl, by rw [← HG.out]; exact hr, below_then (HW.out.trans hd7.below) hb8⟩
        · obtain ⟨low, hlow⟩ : ∃ low, blen A = low + 64 := ⟨blen A - 64, by omega⟩
          have t1 : (64 : Int) < (blen A : Int) := by omega
          have t2 : (blen A : Int) - 64 = (low : Int) := by omega
          have hlw : low ≤ 100000000000 := by
            have h1 := HA.out.lt
            have h2 : blen A ≤ 32 * la := by
              refine blen_le.2 ?_
              have : B32 ^ la = 2 ^ (32 * la) := by rw [Nat.pow_mul]; rfl
              rwa [← this]
            omega
          have hbA : blen A ≤ 100000000064 := by omega
          have hAt := blen_top hlow
          have hBt : B / 2 ^ low ≤ A / 2 ^ low := Nat.div_le_div_right hBA
          have HAT := Lib.hid hAt
          have HBT := Lib.hid hBt
          clear hlow h64 hAt hBt
          go_wp2_with fail
          refine (bitLength_any _ _ _ A _ HA.out hla).mono ?_
          rintro e w4 ⟨rfl, rfl⟩
          go_wp2_with fail
          refine (bitLength_any _ _ _ A _ HA.out hla).mono ?_
          rintro e w5 ⟨rfl, rfl⟩
          go_wp2_with fail
          refine (window_any _ _ _ A low _ _ HA.out (by first | exact t2 | rfl) hla hlw).mono ?_
          rintro e w6 ⟨rfl, hd6⟩
          rw [Nat.mod_eq_of_lt HAT.out]
          have HA6 := Lib.hid (HA.out.keep hd6.below)
          have HB6 := Lib.hid (HB.out.keep hd6.below)
          have HW6 := Lib.hid (HW.out.trans hd6.below)
          clear hd6
          go_wp2_with fail
          refine (window_any _ _ _ B low _ _ HB6.out (by first | exact t2 | rfl) hlb hlw).mono ?_
          rintro e w7 ⟨rfl, hd7⟩
          rw [Nat.mod_eq_of_lt (Nat.lt_of_le_of_lt HBT.out HAT.out)]
          have HA7 := Lib.hid (HA6.out.keep hd7.below)
          have HB7 := Lib.hid (HB6.out.keep hd7.below)
          have HW7 := Lib.hid (HW6.out.trans hd7.below)
          clear hd7
          go_wp2_with fail
          refine (foresee_any (A / 2 ^ low) (B / 2 ^ low) _ _ _ rfl rfl HAT.out HBT.out).mono ?_
          rintro e w8 ⟨α, β, γ, δ, odd, rfl, hfo, hb8⟩
          have HA8 := Lib.hid (HA7.out.keep hb8)
          have HB8 := Lib.hid (HB7.out.keep hb8)
          have HW8 := Lib.hid (below_then HW7.out hb8)
          have HFO := Lib.hid hfo
          clear hb8 hfo
          have HKA := Lib.hid (readNat_n (cap := ca) HA.out)
          have HKB := Lib.hid (readNat_n (cap := cb) HB.out)
          have HA9 := Lib.hid (HA8.out.keep (box_below w8 102 #[.int .u64 (α : Int), .int .u64 (β : Int), .int .u64 (γ : Int), .int .u64 (δ : Int), .bool odd]))
          have HB9 := Lib.hid (HB8.out.keep (box_below w8 102 #[.int .u64 (α : Int), .int .u64 (β : Int), .int .u64 (γ : Int), .int .u64 (δ : Int), .bool odd]))
          have HW9 := Lib.hid (below_then HW8.out (box_below w8 102 #[.int .u64 (α : Int), .int .u64 (β : Int), .int .u64 (γ : Int), .int .u64 (δ : Int), .bool odd]))
          clear HA6 HB6 HW6 HA7 HB7 HW7 HA8 HB8 HW8
          by_cases hβ : β = 0
          · subst hβ
            go_wp2_with fail
            refine (divide_ok A B hB0 _ _ _ _ _ _ _ HA9.out HB9.out hla hlb).mono ?_
            rintro e w9 ⟨qo, ql, qc, ro, rl, rc, rfl, hq9, hr9, hb9⟩
            have HR10 := Lib.hid hr9
            have HB10 := Lib.hid (HB9.out.keep hb9)
            have HW10 := Lib.hid (below_then HW9.out hb9)
            clear hq9 hr9 hb9
            go_wp2_with fail
            go_roundw
            case rel => exact ⟨bo, ro, lb, rl, cb, rc, B, A % B, rfl, rfl, HB10.out, HR10.out, Nat.le_of_lt (Nat.mod_lt _ hB0), Nat.lt_of_le_of_lt hBA HAL.out, by rw [← HG.out, Nat.gcd_comm A B, Nat.gcd_rec B A, Nat.gcd_comm], HW10.out⟩
            case measure => rw [readNat_n HB10.out, readNat_n HR10.out, HKA.out, HKB.out]; have := Nat.mod_lt A hB0; omega
          · have hβ0 : ((β : Int) == 0) = false := by simp; omega
            have hfo := HFO.out.resolve_left hβ
            obtain ⟨A', B', hst⟩ := Fore.stepped (Nat.pow_pos (n := low) (show 0 < 2 by decide)) hfo
            obtain ⟨_, _, _, _, _, _, k1, k2, k3, k4, k5, k6, _⟩ := hfo
            have hle := hst.le (by omega) k5 k2
            have HST := Lib.hid hst
            clear hst hβ
            go_wp2_with fail
            refine (apply_any _ _ _ _ _ _ A B α β γ δ A' B' odd _ HA9.out HB9.out hla hlb (by omega) (by omega) (by omega) k6 HST.out hle.1 hle.2.1).mono ?_
            rintro e w9 ⟨ao9, la9, ca9, bo9, lb9, cb9, rfl, ha9, hb9, hbel9⟩
            have HA10 := Lib.hid ha9
            have HB10 := Lib.hid hb9
            have HW10 := Lib.hid (below_then HW9.out hbel9)
            clear ha9 hb9 hbel9
            go_wp2_with fail
            go_roundw
            case rel => exact ⟨ao9, bo9, la9, lb9, ca9, cb9, A', B', rfl, rfl, HA10.out, HB10.out, Nat.le_of_lt HST.out.lt, Nat.lt_of_le_of_lt hle.1 HAL.out, HST.out.gcd.trans HG.out, HW10.out⟩
            case measure => rw [readNat_n HA10.out, readNat_n HB10.out, HKA.out, HKB.out]; omega
end Go.Proofs.Ytbihgllfllkkaaa

/- Decimal. -/
set_option linter.unusedVariables false
namespace Go.Proofs.Ytbihgllfllkkaaa
open Go.RowKit

/-- the nearest whole number to a / q, of two the even one -/
def nearest (a q : Nat) : Nat := if q < 2 * (a % q) ∨ (2 * (a % q) = q ∧ (a / q) % 2 = 1) then a / q + 1 else a / q

/-- the decimal, where the numeral is long enough for the point -/
def decText (p : Int) (q k : Nat) : List UInt8 :=
  if p < 0 ∧ nearest (p.natAbs * 10 ^ k) q ≠ 0 then 45 :: pointed (numeral (nearest (p.natAbs * 10 ^ k) q)) k else pointed (numeral (nearest (p.natAbs * 10 ^ k) q)) k

theorem decText_pos {m q k r : Nat} (_ : True) (_ : True) (h : nearest (m * 10 ^ k) q = r) : decText (sgn false m) q k = pointed (numeral r) k := by
  unfold decText
  rw [sgn_natAbs, h, if_neg]
  rintro ⟨h1, _⟩
  have : sgn false m = (m : Int) := rfl
  omega

theorem decText_zero {m q k r : Nat} {s : Bool} (_ : True) (_ : True) (h : nearest (m * 10 ^ k) q = r) (hr : r = 0) : decText (sgn s m) q k = pointed (numeral r) k := by
  unfold decText
  rw [sgn_natAbs, h, if_neg]
  rintro ⟨_, h1⟩
  exact h1 hr

theorem decText_neg {m q k r : Nat} (_ : True) (hm : m ≠ 0) (h : nearest (m * 10 ^ k) q = r) (hr : r ≠ 0) : decText (sgn true m) q k = 45 :: pointed (numeral r) k := by
  unfold decText
  rw [sgn_natAbs, h, if_pos]
  refine ⟨?_, hr⟩
  show -(m : Int) < 0
  omega

theorem one_slice (w : World) : N32 (w.alloc (.cells #[.int .u32 1] 68)) (some ⟨w.heap.size, 0, none⟩) 1 1 :=
  ⟨[1], (Blk.new' w .u32 68 [1] #[.int .u32 1] rfl).whole rfl, Dig.cons (by decide) (Dig.nil _), fun _ => by simp, rfl⟩

theorem field_digits (b : Bool) (ao : Option Addr) (l c : Nat) (w : World) : (Instr.field 31 (.agg #[.bool b, .slice ao l c]) 1).run Try.prog w = .ok (.slice ao l c) w := by kernel_rfl

def DecPost (t : List UInt8) (W : World) (e : Ending) (w' : World) : Prop := e = .returned (.tuple #[.string ⟨t.toArray⟩, .int .i64 0]) ∧ Below W.heap.size W w'

set_option maxRecDepth 100000 in
set_option maxHeartbeats 1600000 in
theorem decimal_any (na : Bool) (ao bo : Option Addr) (la lb ca cb : Nat) (p : Int) (q : Nat) (K : Int) (k : Nat) (W : World) (h : Q32 W na ao la bo lb p q) (hla : la ≤ 100000) (hlb : lb ≤ 100000) (hq0 : q ≠ 0) (hK : K = (k : Int)) (hk : k ≤ 64)
    (hD : DivOk (p.natAbs * 10 ^ k) q) (hW : k = 0 ∨ k < (numeral (nearest (p.natAbs * 10 ^ k) q)).length) :
    Calls Try.prog 33 #[.agg #[.bool na, .slice ao la ca, .slice bo lb cb], .int .i64 K] W (DecPost (decText p q k) W) := by
  subst hK
  have hf : Fr W (W.alloc (.cells #[.bool na, .slice ao la ca, .slice bo lb cb] 52)) [(52, #[.bool na, .slice ao la ca, .slice bo lb cb])] := (Fr.nil W).alloc rfl _ _
  have hqlt : q < B32 ^ (lb + 1) := by
    rcases h.2 with ⟨h1, h2⟩ | ⟨h1, h2⟩
    · rw [h1, h2]; decide
    · exact Nat.lt_of_lt_of_le h1.lt (Nat.pow_le_pow_right B32_pos (by omega))
  have hbl : lb = 0 ∨ 0 < lb := by omega
  have HQ := Lib.hid h
  obtain ⟨⟨m, hm, rfl, hmn⟩, hden⟩ := h
  rw [sgn_natAbs] at hD hW
  have halt : m * 10 ^ k < B32 ^ (la + 64) := by
    rw [Nat.pow_add]
    have h1 := hm.lt
    have h2 : 10 ^ k < B32 ^ 64 := by
      have : 10 ^ k ≤ 10 ^ 64 := Nat.pow_le_pow_right (by decide) hk
      have h3 : 10 ^ 64 < B32 ^ 64 := by decide
      omega
    exact Nat.mul_lt_mul'' h1 h2
  obtain ⟨a, haq⟩ : ∃ a, a = m * 10 ^ k := ⟨_, rfl⟩
  have HM := Lib.hid hm
  have HMN := Lib.hid hmn
  rw [← haq] at hD hW halt
  have HAQ := Lib.hid haq
  have HALT := Lib.hid halt
  have HQLT := Lib.hid hqlt
  have HD := Lib.hid hD
  have HK := Lib.hid hW
  have HQ0 := Lib.hid hq0
  have i1 : ¬ ((k : Int) < 0) := by omega
  have i2 : ¬ (64 < (k : Int)) := by omega
  have hnl : nearest a q < B32 ^ (la + 65) := by
    have h1 : nearest a q ≤ a / q + 1 := by unfold nearest; split <;> omega
    have h2 := Nat.div_le_self a q
    have h3 : B32 ^ (la + 64) * 2 ≤ B32 ^ (la + 65) := by rw [Nat.pow_succ B32 (la + 64)]; exact Nat.mul_le_mul_left _ (by decide)
    omega
  have hln := numeral_len hnl
  have hln2 : (numeral (nearest a q)).length ≤ 1000000000000 := by omega
  have HLN := Lib.hid hln2
  have hpl : ¬ 9223372036854775807 < 1 + (pointed (numeral (nearest a q)) k).length := by
    have : (pointed (numeral (nearest a q)) k).length ≤ (numeral (nearest a q)).length + 1 := by
      unfold pointed
      split
      · omega
      · simp; omega
    omega
  have HPL := Lib.hid hpl
  have HUPL : Hid (a / q + 1 < B32 ^ (la + 65)) := by
    have h2 := Nat.div_le_self a q
    have h3 : B32 ^ (la + 64) * 2 ≤ B32 ^ (la + 65) := by rw [Nat.pow_succ B32 (la + 64)]; exact Nat.mul_le_mul_left _ (by decide)
    show _ < _
    omega
  clear hm hmn hD hW halt hqlt hden haq hq0 hnl hln hln2 hpl hbl
  have hfld := field_digits
  go_enter Try.func33, Try.ntmps33
  go_wp2_with fail
  obtain ⟨W1, hW1⟩ : ∃ W1, W1 = W.alloc (.cells #[.bool na, .slice ao la ca, .slice bo lb cb] 52) := ⟨_, rfl⟩
  rw [← hW1] at hf ⊢
  clear hW1
  have HF := Lib.hid hf
  clear hf
  have c0 : W1.cell? ⟨W.heap.size, 0, none⟩ = some (.bool na) := HF.out.cell 0 0 rfl rfl
  have c1 : W1.cell? ⟨W.heap.size, 1, none⟩ = some (.slice ao la ca) := HF.out.cell 0 1 rfl rfl
  have c2 : W1.cell? ⟨W.heap.size, 2, none⟩ = some (.slice bo lb cb) := HF.out.cell 0 2 rfl rfl
  refine (den_any na ao bo la lb ca cb _ q _ (HQ.out.keep HF.out.below) (by omega)).mono ?_
  rintro e w2 ⟨dneg, dp, dl, dc, rfl, hz2, hb2⟩
  have hd2 := hz2.n32
  rw [Int.natAbs_natCast] at hd2
  have hdl : dl ≤ 100001 := Nat.le_trans (hd2.len_le HQLT.out) (by omega)
  have HF2 := Lib.hid (HF.out.later hb2)
  have HD2 := Lib.hid hd2
  clear hb2 hz2 hd2
  go_wp2_with fail
  have d0 : w2.cell? ⟨W.heap.size, 0, none⟩ = some (.bool na) := HF2.out.cell 0 0 rfl rfl
  have d1 : w2.cell? ⟨W.heap.size, 1, none⟩ = some (.slice ao la ca) := HF2.out.cell 0 1 rfl rfl
  go_region_held3 (fun w' => w'.cell? ⟨W.heap.size, 0, none⟩ = some (.bool na) ∧ w'.cell? ⟨W.heap.size, 1, none⟩ = some (.slice ao la ca)) (go_keep)
    (first | (go_at_call 60; refine (powerOfTen_any _ k w2.drew rfl (by omega)).mono ?_; rintro e w3 ⟨to_, tl, tc, rfl, ht3, htl, hb3⟩; have HB3 := Lib.hid (below_of_drew hb3); have HT3 := Lib.hid ht3; have HF3 := Lib.hid (HF2.out.later HB3.out); clear hb3 ht3; have f0 : w3.cell? ⟨W.heap.size, 0, none⟩ = some (.bool na) := HF3.out.cell 0 0 rfl rfl; have f1 : w3.cell? ⟨W.heap.size, 1, none⟩ = some (.slice ao la ca) := HF3.out.cell 0 1 rfl rfl) | (go_at_call 59; refine (product_any _ _ _ _ _ _ m (10 ^ k) _ (HM.out.keep HF3.out.below) HT3.out (by omega) (by omega)).mono ?_; rintro e w4 ⟨po, pl, pc, rfl, hp4, hb4⟩; have HB4 := Lib.hid (below_then HB3.out hb4); have hp5 : N32 w4 po pl a := (by rw [HAQ.out]; exact hp4); have HP4 := Lib.hid hp5; have HF4 := Lib.hid (HF2.out.later HB4.out); have hpl4 := Nat.le_trans (hp5.len_le HALT.out) (show la + 64 ≤ 100064 by omega); clear hb4 hp4 hp5; have j0 : w4.cell? ⟨W.heap.size, 0, none⟩ = some (.bool na) := HF4.out.cell 0 0 rfl rfl; have j1 : w4.cell? ⟨W.heap.size, 1, none⟩ = some (.slice ao la ca) := HF4.out.cell 0 1 rfl rfl) | (go_at_call 36; refine (HD.out _ _ _ _ _ _ _ HP4.out (HD2.out.keep HB4.out) (by omega) (by omega)).mono ?_; rintro e w5 ⟨qo, ql, qc, ro, rl, rc, rfl, hq5, hr5, hb5⟩; have HB5 := Lib.hid (below_then HB4.out hb5); have HQ5 := Lib.hid hq5; have HR5 := Lib.hid hr5; have HF5 := Lib.hid (HF2.out.later HB5.out); clear hb5 hq5 hr5; have m0 : w5.cell? ⟨W.heap.size, 0, none⟩ = some (.bool na) := HF5.out.cell 0 0 rfl rfl; have m1 : w5.cell? ⟨W.heap.size, 1, none⟩ = some (.slice ao la ca) := HF5.out.cell 0 1 rfl rfl))
  have hql : ql ≤ 1000000000 := Nat.le_trans (HQ5.out.len_le (Nat.lt_of_le_of_lt (Nat.div_le_self _ _) HALT.out)) (by omega)
  have hrl : rl ≤ 1000000 := Nat.le_trans (HR5.out.len_le (Nat.lt_trans (Nat.mod_lt _ (Nat.pos_of_ne_zero HQ0.out)) HQLT.out)) (by omega)
  have HRLT := Lib.hid (Nat.lt_trans (Nat.mod_lt a (Nat.pos_of_ne_zero HQ0.out)) HQLT.out)
  clear c0 c1 c2 d0 d1 f0 f1 j0 j1
  go_wp2_with fail
  refine (sum_any _ _ _ _ _ _ (a % q) (a % q) _ HR5.out HR5.out (by omega) (by omega)).mono ?_
  rintro e w55 ⟨so5, sl5, sc5, rfl, hs5, hb55⟩
  have hsl5 : sl5 ≤ 1000000000 := by
    refine Nat.le_trans (hs5.len_le (k := lb + 2) ?_) (by omega)
    rw [Nat.pow_succ]
    have := HRLT.out
    have h3 : B32 ^ (lb + 1) * 2 ≤ B32 ^ (lb + 1) * B32 := Nat.mul_le_mul_left _ (by decide)
    omega
  have HS5 := Lib.hid hs5
  have HF55 := Lib.hid (HF5.out.later hb55)
  have HD55 := Lib.hid (HD2.out.keep (below_then HB5.out hb55))
  have HQ55 := Lib.hid (HQ5.out.keep hb55)
  clear hs5 hb55 m0 m1
  go_wp2_with fail
  refine (compare_any _ _ _ _ _ _ (a % q + a % q) q _ HS5.out HD55.out hsl5 (by omega)).mono ?_
  rintro e w6 ⟨rfl, hd6⟩
  have HF6 := Lib.hid (HF55.out.later hd6.below)
  have HQ6 := Lib.hid (HQ55.out.keep hd6.below)
  clear hd6
  rcases Nat.lt_trichotomy (a % q + a % q) q with hlt | heq | hgt
  · have hnear : nearest a q = a / q := by unfold nearest; rw [if_neg (by omega)]
    rw [cmpN_lt hlt]
    rw [hnear] at HK HLN HPL
    have HNEAR : Hid (nearest (m * 10 ^ k) q = a / q) := by rw [← HAQ.out]; exact hnear
    clear hnear hlt
    have HNR := Lib.hid HQ6.out
    have hnrl := hql

    go_wp2_with fail
    refine (writeDigits_any _ _ _ (a / q) _ HNR.out hnrl).mono ?_
    rintro e w9 ⟨rfl, hb9⟩
    have HF9 := Lib.hid (HF6.out.later hb9)
    clear hb9
    go_wp2_with fail
    refine (withPoint_any _ _ k _ rfl HK.out HLN.out).mono ?_
    rintro e w10 ⟨rfl, hd10⟩
    have HF10 := Lib.hid (HF9.out.later hd10.below)
    clear hd10
    have z0 : w10.cell? ⟨W.heap.size, 0, none⟩ = some (.bool na) := HF10.out.cell 0 0 rfl rfl
    have hnz := HNR.out.zero
    have HNZ := Lib.hid hnz
    clear hnz hnrl hql hrl hsl5 hpl4 htl hdl hla hlb hk i1 i2 HALT HQLT HUPL HRLT HLN HK
    cases na with
    | false =>
      go_wp2
      go_ret2
      exact ⟨by rw [decText_pos trivial trivial HNEAR.out]; rfl, HF10.out.below⟩
    | true =>
      by_cases hnl0 : ql = 0
      · have hz := Lib.hid (HNZ.out.2 hnl0)
        have q1 : ¬ (0 : Int) < (ql : Int) := by omega
        have q3 : decide (0 < ql) = false := by simp; omega
        clear hnl0
        go_wp2
        go_ret2
        exact ⟨by rw [decText_zero trivial trivial HNEAR.out hz.out]; rfl, HF10.out.below⟩
      · have hz : Hid ((a / q) ≠ 0) := fun h => hnl0 (HNZ.out.1 h)
        have q1 : (0 : Int) < (ql : Int) := by omega
        have q3 : decide (0 < ql) = true := by simp; omega
        clear hnl0
        have q2 := HPL.out
        go_wp2
        go_ret2
        refine ⟨?_, HF10.out.below⟩
        rw [decText_neg trivial (HMN.out trivial) HNEAR.out hz.out]
        have := bytes_append [45] (pointed (numeral (a / q)) k)
        exact congrArg (fun x => Ending.returned (.tuple #[Value.string x, .int .i64 0])) this
  · by_cases hodd : (a / q) % 2 = 1
    · have hnear : nearest a q = a / q + 1 := by unfold nearest; rw [if_pos (by omega)]
      rw [cmpN_eq heq]
      rw [hnear] at HK HLN HPL
      have HNEAR : Hid (nearest (m * 10 ^ k) q = a / q + 1) := by rw [← HAQ.out]; exact hnear
      have hob : ((a / q) % 2 == 1) = true := by simp [hodd]
      clear hnear heq
      go_wp2_with fail
      refine (isOdd_any _ _ _ (a / q) _ HQ6.out).mono ?_
      rw [hob]
      clear hob hodd
      rintro e w7 ⟨rfl, rfl⟩
      have HONE := Lib.hid (one_slice w6)
      have HF6a := Lib.hid (HF6.out.later (box_below w6 68 #[.int .u32 1]))
      go_wp2_with fail
      refine (sum_any _ _ _ _ _ _ (a / q) 1 _ (HQ6.out.keep (box_below _ _ _)) HONE.out hql (by omega)).mono ?_
      rintro e w8 ⟨so, sl, sc, rfl, hs8, hb8⟩
      have HF8 := Lib.hid (HF6a.out.later hb8)
      have HNR := Lib.hid hs8
      have hnrl : sl ≤ 1000000000 := Nat.le_trans (hs8.len_le HUPL.out) (by omega)
      clear hs8 hb8

      go_wp2_with fail
      refine (writeDigits_any _ _ _ (a / q + 1) _ HNR.out hnrl).mono ?_
      rintro e w9 ⟨rfl, hb9⟩
      have HF9 := Lib.hid (HF8.out.later hb9)
      clear hb9
      go_wp2_with fail
      refine (withPoint_any _ _ k _ rfl HK.out HLN.out).mono ?_
      rintro e w10 ⟨rfl, hd10⟩
      have HF10 := Lib.hid (HF9.out.later hd10.below)
      clear hd10
      have z0 : w10.cell? ⟨W.heap.size, 0, none⟩ = some (.bool na) := HF10.out.cell 0 0 rfl rfl
      have hnz := HNR.out.zero
      have HNZ := Lib.hid hnz
      clear hnz hnrl hql hrl hsl5 hpl4 htl hdl hla hlb hk i1 i2 HALT HQLT HUPL HRLT HLN HK
      cases na with
      | false =>
        go_wp2
        go_ret2
        exact ⟨by rw [decText_pos trivial trivial HNEAR.out]; rfl, HF10.out.below⟩
      | true =>
        by_cases hnl0 : sl = 0
        · have hz := Lib.hid (HNZ.out.2 hnl0)
          have q1 : ¬ (0 : Int) < (sl : Int) := by omega
          have q3 : decide (0 < sl) = false := by simp; omega
          clear hnl0
          go_wp2
          go_ret2
          exact ⟨by rw [decText_zero trivial trivial HNEAR.out hz.out]; rfl, HF10.out.below⟩
        · have hz : Hid ((a / q + 1) ≠ 0) := fun h => hnl0 (HNZ.out.1 h)
          have q1 : (0 : Int) < (sl : Int) := by omega
          have q3 : decide (0 < sl) = true := by simp; omega
          clear hnl0
          have q2 := HPL.out
          go_wp2
          go_ret2
          refine ⟨?_, HF10.out.below⟩
          rw [decText_neg trivial (HMN.out trivial) HNEAR.out hz.out]
          have := bytes_append [45] (pointed (numeral (a / q + 1)) k)
          exact congrArg (fun x => Ending.returned (.tuple #[Value.string x, .int .i64 0])) this
    · have hnear : nearest a q = a / q := by unfold nearest; rw [if_neg (by omega)]
      rw [cmpN_eq heq]
      rw [hnear] at HK HLN HPL
      have HNEAR : Hid (nearest (m * 10 ^ k) q = a / q) := by rw [← HAQ.out]; exact hnear
      have hob : ((a / q) % 2 == 1) = false := by simp [hodd]
      clear hnear heq
      go_wp2_with fail
      refine (isOdd_any _ _ _ (a / q) _ HQ6.out).mono ?_
      rw [hob]
      clear hob hodd
      rintro e w7 ⟨rfl, rfl⟩
      have HNR := Lib.hid HQ6.out
      have hnrl := hql

      go_wp2_with fail
      refine (writeDigits_any _ _ _ (a / q) _ HNR.out hnrl).mono ?_
      rintro e w9 ⟨rfl, hb9⟩
      have HF9 := Lib.hid (HF6.out.later hb9)
      clear hb9
      go_wp2_with fail
      refine (withPoint_any _ _ k _ rfl HK.out HLN.out).mono ?_
      rintro e w10 ⟨rfl, hd10⟩
      have HF10 := Lib.hid (HF9.out.later hd10.below)
      clear hd10
      have z0 : w10.cell? ⟨W.heap.size, 0, none⟩ = some (.bool na) := HF10.out.cell 0 0 rfl rfl
      have hnz := HNR.out.zero
      have HNZ := Lib.hid hnz
      clear hnz hnrl hql hrl hsl5 hpl4 htl hdl hla hlb hk i1 i2 HALT HQLT HUPL HRLT HLN HK
      cases na with
      | false =>
        go_wp2
        go_ret2
        exact ⟨by rw [decText_pos trivial trivial HNEAR.out]; rfl, HF10.out.below⟩
      | true =>
        by_cases hnl0 : ql = 0
        · have hz := Lib.hid (HNZ.out.2 hnl0)
          have q1 : ¬ (0 : Int) < (ql : Int) := by omega
          have q3 : decide (0 < ql) = false := by simp; omega
          clear hnl0
          go_wp2
          go_ret2
          exact ⟨by rw [decText_zero trivial trivial HNEAR.out hz.out]; rfl, HF10.out.below⟩
        · have hz : Hid ((a / q) ≠ 0) := fun h => hnl0 (HNZ.out.1 h)
          have q1 : (0 : Int) < (ql : Int) := by omega
          have q3 : decide (0 < ql) = true := by simp; omega
          clear hnl0
          have q2 := HPL.out
          go_wp2
          go_ret2
          refine ⟨?_, HF10.out.below⟩
          rw [decText_neg trivial (HMN.out trivial) HNEAR.out hz.out]
          have := bytes_append [45] (pointed (numeral (a / q)) k)
          exact congrArg (fun x => Ending.returned (.tuple #[Value.string x, .int .i64 0])) this
  · have hnear : nearest a q = a / q + 1 := by unfold nearest; rw [if_pos (by omega)]
    rw [cmpN_gt hgt]
    rw [hnear] at HK HLN HPL
    have HNEAR : Hid (nearest (m * 10 ^ k) q = a / q + 1) := by rw [← HAQ.out]; exact hnear
    clear hnear hgt
    have HONE := Lib.hid (one_slice w6)
    have HF6a := Lib.hid (HF6.out.later (box_below w6 68 #[.int .u32 1]))
    go_wp2_with fail
    refine (sum_any _ _ _ _ _ _ (a / q) 1 _ (HQ6.out.keep (box_below _ _ _)) HONE.out hql (by omega)).mono ?_
    rintro e w8 ⟨so, sl, sc, rfl, hs8, hb8⟩
    have HF8 := Lib.hid (HF6a.out.later hb8)
    have HNR := Lib.hid hs8
    have hnrl : sl ≤ 1000000000 := Nat.le_trans (hs8.len_le HUPL.out) (by omega)
    clear hs8 hb8

    go_wp2_with fail
    refine (writeDigits_any _ _ _ (a / q + 1) _ HNR.out hnrl).mono ?_
    rintro e w9 ⟨rfl, hb9⟩
    have HF9 := Lib.hid (HF8.out.later hb9)
    clear hb9
    go_wp2_with fail
    refine (withPoint_any _ _ k _ rfl HK.out HLN.out).mono ?_
    rintro e w10 ⟨rfl, hd10⟩
    have HF10 := Lib.hid (HF9.out.later hd10.below)
    clear hd10
    have z0 : w10.cell? ⟨W.heap.size, 0, none⟩ = some (.bool na) := HF10.out.cell 0 0 rfl rfl
    have hnz := HNR.out.zero
    have HNZ := Lib.hid hnz
    clear hnz hnrl hql hrl hsl5 hpl4 htl hdl hla hlb hk i1 i2 HALT HQLT HUPL HRLT HLN HK
    cases na with
    | false =>
      go_wp2
      go_ret2
      exact ⟨by rw [decText_pos trivial trivial HNEAR.out]; rfl, HF10.out.below⟩
    | true =>
      by_cases hnl0 : sl = 0
      · have hz := Lib.hid (HNZ.out.2 hnl0)
        have q1 : ¬ (0 : Int) < (sl : Int) := by omega
        have q3 : decide (0 < sl) = false := by simp; omega
        clear hnl0
        go_wp2
        go_ret2
        exact ⟨by rw [decText_zero trivial trivial HNEAR.out hz.out]; rfl, HF10.out.below⟩
      · have hz : Hid ((a / q + 1) ≠ 0) := fun h => hnl0 (HNZ.out.1 h)
        have q1 : (0 : Int) < (sl : Int) := by omega
        have q3 : decide (0 < sl) = true := by simp; omega
        clear hnl0
        have q2 := HPL.out
        go_wp2
        go_ret2
        refine ⟨?_, HF10.out.below⟩
        rw [decText_neg trivial (HMN.out trivial) HNEAR.out hz.out]
        have := bytes_append [45] (pointed (numeral (a / q + 1)) k)
        exact congrArg (fun x => Ending.returned (.tuple #[Value.string x, .int .i64 0])) this
end Go.Proofs.Ytbihgllfllkkaaa

/- Div. -/
set_option linter.unusedVariables false
namespace Go.Proofs.Ytbihgllfllkkaaa
open Go.RowKit

theorem divmod_cast (m n : Nat) : ((m : Int) / (n : Int)) = ((m / n : Nat) : Int) ∧ ((m : Int) % (n : Int)) = ((m % n : Nat) : Int) := ⟨rfl, rfl⟩

theorem sgn_abs (b : Bool) (n : Nat) : (sgn b n = (n : Int) ∨ sgn b n = -(n : Int)) ∧ (b = false → sgn b n = n) ∧ (b = true → sgn b n = -(n : Int)) := by cases b <;> simp [sgn]

theorem euclid_pos {x y q r : Int} (hy : 0 < y) (h : y * q + r = x) (h0 : 0 ≤ r) (h1 : r < y) : x / y = q ∧ x % y = r :=
  (Int.ediv_emod_unique hy).2 ⟨by omega, h0, h1⟩

/-- the quotient and the remainder, which is not negative, are known by their sum and range -/
theorem euclid {x y q r : Int} (hy : y ≠ 0) (h : y * q + r = x) (h0 : 0 ≤ r) (h1 : r < y.natAbs) : x / y = q ∧ x % y = r := by
  by_cases hp : 0 < y
  · exact euclid_pos hp h h0 (by omega)
  · have h2 := euclid_pos (x := x) (y := -y) (q := -q) (r := r) (by omega) (by rw [Int.neg_mul_neg]; exact h) h0 (by omega)
    rw [Int.ediv_neg, Int.emod_neg] at h2
    exact ⟨by omega, h2.2⟩

theorem bne_false (b : Bool) : (false != b) = b := by cases b <;> rfl
theorem bne_true (b : Bool) : (true != b) = !b := by cases b <;> rfl
theorem sgn_true (n : Nat) : sgn true n = -(n : Int) := rfl
theorem sgn_false (n : Nat) : sgn false n = (n : Int) := rfl

theorem div_cases (na nb : Bool) (m n : Nat) (hn : n ≠ 0) (h : na = false ∨ m % n = 0) : sgn na m / sgn nb n = sgn (na != nb) (m / n) ∧ sgn na m % sgn nb n = sgn false (m % n) := by
  have hy : sgn nb n ≠ 0 := by cases nb <;> simp [sgn] <;> omega
  have e := Nat.div_add_mod m n
  have hl := Nat.mod_lt m (show 0 < n by omega)
  obtain ⟨q, hq⟩ : ∃ q, q = m / n := ⟨_, rfl⟩
  obtain ⟨r, hr⟩ : ∃ q, q = m % n := ⟨_, rfl⟩
  rw [← hq, ← hr] at e
  rw [← hr] at hl h
  rw [← hq, ← hr]
  have e2 : (n : Int) * (q : Int) + (r : Int) = (m : Int) := by exact_mod_cast e
  refine euclid hy ?_ ?_ ?_
  · rcases h with rfl | h
    · cases nb
      · exact e2
      · show -(n : Int) * -(q : Int) + (r : Int) = (m : Int)
        rw [Int.neg_mul_neg]; exact e2
    · have e3 : (r : Int) = 0 := by omega
      cases na <;> cases nb
      · exact e2
      · show -(n : Int) * -(q : Int) + (r : Int) = (m : Int)
        rw [Int.neg_mul_neg]; exact e2
      · show (n : Int) * -(q : Int) + (r : Int) = -(m : Int)
        rw [Int.mul_neg]; omega
      · show -(n : Int) * (q : Int) + (r : Int) = -(m : Int)
        rw [Int.neg_mul]; omega
  · show (0 : Int) ≤ (r : Int); omega
  · rw [sgn_natAbs]; show (r : Int) < (n : Int); omega

theorem div_up (nb : Bool) (m n : Nat) (hn : n ≠ 0) (h : m % n ≠ 0) : sgn true m / sgn nb n = sgn (true != nb) (m / n + 1) ∧ sgn true m % sgn nb n = sgn false (n - m % n) := by
  have hy : sgn nb n ≠ 0 := by cases nb <;> simp [sgn] <;> omega
  have e := Nat.div_add_mod m n
  have hl := Nat.mod_lt m (show 0 < n by omega)
  obtain ⟨q, hq⟩ : ∃ q, q = m / n := ⟨_, rfl⟩
  obtain ⟨r, hr⟩ : ∃ q, q = m % n := ⟨_, rfl⟩
  rw [← hq, ← hr] at e
  rw [← hr] at hl h
  rw [← hq, ← hr]
  have e2 : (n : Int) * (q : Int) + (r : Int) = (m : Int) := by exact_mod_cast e
  have e3 : ((n - r : Nat) : Int) = (n : Int) - (r : Int) := by omega
  have e4 : ((q + 1 : Nat) : Int) = (q : Int) + 1 := by omega
  refine euclid hy ?_ ?_ ?_
  · cases nb
    · show (n : Int) * -((q + 1 : Nat) : Int) + ((n - r : Nat) : Int) = -(m : Int)
      rw [e3, e4, Int.mul_neg, Int.mul_add]; omega
    · show -(n : Int) * ((q + 1 : Nat) : Int) + ((n - r : Nat) : Int) = -(m : Int)
      rw [e3, e4, Int.neg_mul, Int.mul_add]; omega
  · show (0 : Int) ≤ ((n - r : Nat) : Int); omega
  · rw [sgn_natAbs]; show ((n - r : Nat) : Int) < (n : Int); omega

def DivZPost (x y : Int) (W : World) (e : Ending) (w' : World) : Prop :=
  ∃ s1 uo ul uc s2 vo vl vc, e = .returned (.tuple #[.agg #[.bool s1, .slice uo ul uc], .agg #[.bool s2, .slice vo vl vc], .int .i64 0]) ∧ Z32 w' s1 uo ul (x / y) ∧ Z32 w' s2 vo vl (x % y) ∧ Below W.heap.size W w'

set_option maxHeartbeats 2000000 in
theorem div_any (na nb : Bool) (ao bo : Option Addr) (la lb ca cb : Nat) (x y : Int) (W : World) (ha : Z32 W na ao la x) (hb : Z32 W nb bo lb y) (hla : la ≤ 100000000) (hlb : lb ≤ 100000000) (hy : y ≠ 0)
    (hD : DivOk x.natAbs y.natAbs) :
    Calls Try.prog 9 #[.agg #[.bool na, .slice ao la ca], .agg #[.bool nb, .slice bo lb cb]] W (DivZPost x y W) := by
  have hf : Fr W ((((W.alloc (.cells #[.bool na, .slice ao la ca] 31)).alloc (.cells #[.bool nb, .slice bo lb cb] 31)).alloc (.cells #[.bool false, .slice none 0 0] 31)).alloc (.cells #[.bool false, .slice none 0 0] 31))
      [(31, #[.bool na, .slice ao la ca]), (31, #[.bool nb, .slice bo lb cb]), (31, #[.bool false, .slice none 0 0]), (31, #[.bool false, .slice none 0 0])] :=
    ((((Fr.nil W).alloc rfl _ _).alloc (by simp) _ _).alloc (by simp) _ _).alloc (by simp) _ _
  have hlb0 : lb ≠ 0 := fun h => hy (hb.zero.2 h)
  obtain ⟨m, hm, rfl, hmn⟩ := ha
  obtain ⟨n, hn, rfl, hnn⟩ := hb
  rw [sgn_natAbs, sgn_natAbs] at hD
  have hn0 : n ≠ 0 := fun h => hlb0 (hn.zero.1 h)
  have hbb : ((lb : Int) == 0) = false := by simp; omega
  have HM := Lib.hid hm
  have HN := Lib.hid hn
  have HD := Lib.hid hD
  have HN0 := Lib.hid hn0
  clear hm hn hD hn0 hy hmn hnn
  go_enter Try.func9, Try.ntmps9
  go_wp2_with fail
  obtain ⟨W3, hW3⟩ : ∃ W3, W3 = (((W.alloc (.cells #[.bool na, .slice ao la ca] 31)).alloc (.cells #[.bool nb, .slice bo lb cb] 31)).alloc (.cells #[.bool false, .slice none 0 0] 31)).alloc (.cells #[.bool false, .slice none 0 0] 31) := ⟨_, rfl⟩
  rw [← hW3] at hf ⊢
  clear hW3
  have HF := Lib.hid hf
  clear hf
  refine (HD.out _ _ _ _ _ _ _ (HM.out.keep HF.out.below) (HN.out.keep HF.out.below) (by omega) (by omega)).mono ?_
  rintro e w1 ⟨qo, ql, qc, ro, rl, rc, rfl, hq1, hr1, hb1⟩
  have hql : ql ≤ 100000000 := Nat.le_trans (hq1.len_le (Nat.lt_of_le_of_lt (Nat.div_le_self _ _) HM.out.lt)) hla
  have hrl : rl ≤ 100000000 := Nat.le_trans (hr1.len_le (Nat.lt_trans (Nat.mod_lt _ (Nat.pos_of_ne_zero HN0.out)) HN.out.lt)) hlb
  have hrz := hr1.zero
  have HF1 := Lib.hid (HF.out.later hb1)
  have HQ := Lib.hid hq1
  have HR := Lib.hid hr1
  have HRZ := Lib.hid hrz
  clear hq1 hr1 hb1 hrz
  have c0 : w1.cell? ⟨W.heap.size, 0, none⟩ = some (.bool na) := HF1.out.cell 0 0 rfl rfl
  cases na with
  | false =>
    have HXQ := Lib.hid (div_cases false nb m n HN0.out (.inl rfl)).1
    have HXR := Lib.hid (div_cases false nb m n HN0.out (.inl rfl)).2
    have hrl := HR.out
    have e0 : w1.cell? ⟨W.heap.size, 0, none⟩ = some (.bool false) := HF1.out.cell 0 0 rfl rfl
    have e1 : w1.cell? ⟨W.heap.size + 1, 0, none⟩ = some (.bool nb) := HF1.out.cell 1 0 rfl rfl
    clear hrl
    go_wp2_with fail
    refine (signed_any _ _ _ _ _ _ HQ.out).mono ?_
    rintro e w5 ⟨s1, uo, ul, uc, rfl, hz5, hb5⟩
    have HF5 := Lib.hid (HF1.out.later hb5)
    have HZ5 := Lib.hid hz5
    have HR5 := Lib.hid (HR.out.keep hb5)
    clear hz5 hb5
    go_wp2_with fail
    refine (signed_any _ _ _ _ _ _ HR5.out).mono ?_
    rintro e w6 ⟨s2, vo, vl, vc, rfl, hz6, hb6⟩
    have HF6 := Lib.hid (HF5.out.later hb6)
    have HZ6 := Lib.hid (HZ5.out.keep hb6)
    have HY6 := Lib.hid hz6
    clear hz6 hb6
    have g0 : w6.cell? ⟨W.heap.size + 1 + 1, 0, none⟩ = some (.bool false) := HF6.out.cell 2 0 rfl rfl
    have g1 : w6.cell? ⟨W.heap.size + 1 + 1, 1, none⟩ = some (.slice none 0 0) := HF6.out.cell 2 1 rfl rfl
    have g2 : w6.frozen? ⟨W.heap.size + 1 + 1, 0, none⟩ = false := HF6.out.frozen 2 0 rfl
    have g3 : w6.frozen? ⟨W.heap.size + 1 + 1, 1, none⟩ = false := HF6.out.frozen 2 1 rfl
    have g4 : w6.cell? ⟨W.heap.size + 1 + 1 + 1, 0, none⟩ = some (.bool false) := HF6.out.cell 3 0 rfl rfl
    have g5 : w6.cell? ⟨W.heap.size + 1 + 1 + 1, 1, none⟩ = some (.slice none 0 0) := HF6.out.cell 3 1 rfl rfl
    have g6 : w6.frozen? ⟨W.heap.size + 1 + 1 + 1, 0, none⟩ = false := HF6.out.frozen 3 0 rfl
    have g7 : w6.frozen? ⟨W.heap.size + 1 + 1 + 1, 1, none⟩ = false := HF6.out.frozen 3 1 rfl
    go_wp2
    obtain ⟨k0, k1, hz, _, hfr⟩ := HF6.out.finI (cap := uc) 2 rfl HZ6.out
    have hy2 := ((HY6.out.setFr HF6.out 2 0 rfl rfl (.bool s1)).setFr (HF6.out.set 2 0 rfl (.bool s1)) 2 1 rfl rfl (.slice uo ul uc))
    obtain ⟨k2, k3, hy3, hbel, hfr2⟩ := hfr.finI (cap := vc) 3 rfl hy2
    have hz3 := ((hz.setFr hfr 3 0 rfl rfl (.bool s2)).setFr (hfr.set 3 0 rfl (.bool s2)) 3 1 rfl rfl (.slice vo vl vc))
    have k4 := hfr2.cell 2 0 (v := .bool s1) rfl rfl
    have k5 := hfr2.cell 2 1 (v := .slice uo ul uc) rfl rfl
    exact bodyPost_ret (v := .tuple #[.agg #[.bool s1, .slice uo ul uc], .agg #[.bool s2, .slice vo vl vc], .int .i64 0]) (by simp [results, Try.results9, go_sem, k2, k3, k4, k5]) rfl ⟨s1, uo, ul, uc, s2, vo, vl, vc, rfl, by rw [HXQ.out, bne_false]; exact hz3, by rw [HXR.out]; exact hy3, hbel⟩
  | true =>
    by_cases hr0 : rl = 0
    · have HXQ := Lib.hid (div_cases true nb m n HN0.out (.inr (HRZ.out.2 hr0))).1
      have HXR := Lib.hid (div_cases true nb m n HN0.out (.inr (HRZ.out.2 hr0))).2
      have q1 : ¬ (0 : Int) < (rl : Int) := by omega
      have q3 : decide (0 < rl) = false := by simp; omega
      clear hr0
      have hrl := HR.out
      have e0 : w1.cell? ⟨W.heap.size, 0, none⟩ = some (.bool true) := HF1.out.cell 0 0 rfl rfl
      have e1 : w1.cell? ⟨W.heap.size + 1, 0, none⟩ = some (.bool nb) := HF1.out.cell 1 0 rfl rfl
      clear hrl
      go_wp2_with fail
      refine (signed_any _ _ _ _ _ _ HQ.out).mono ?_
      rintro e w5 ⟨s1, uo, ul, uc, rfl, hz5, hb5⟩
      have HF5 := Lib.hid (HF1.out.later hb5)
      have HZ5 := Lib.hid hz5
      have HR5 := Lib.hid (HR.out.keep hb5)
      clear hz5 hb5
      go_wp2_with fail
      refine (signed_any _ _ _ _ _ _ HR5.out).mono ?_
      rintro e w6 ⟨s2, vo, vl, vc, rfl, hz6, hb6⟩
      have HF6 := Lib.hid (HF5.out.later hb6)
      have HZ6 := Lib.hid (HZ5.out.keep hb6)
      have HY6 := Lib.hid hz6
      clear hz6 hb6
      have g0 : w6.cell? ⟨W.heap.size + 1 + 1, 0, none⟩ = some (.bool false) := HF6.out.cell 2 0 rfl rfl
      have g1 : w6.cell? ⟨W.heap.size + 1 + 1, 1, none⟩ = some (.slice none 0 0) := HF6.out.cell 2 1 rfl rfl
      have g2 : w6.frozen? ⟨W.heap.size + 1 + 1, 0, none⟩ = false := HF6.out.frozen 2 0 rfl
      have g3 : w6.frozen? ⟨W.heap.size + 1 + 1, 1, none⟩ = false := HF6.out.frozen 2 1 rfl
      have g4 : w6.cell? ⟨W.heap.size + 1 + 1 + 1, 0, none⟩ = some (.bool false) := HF6.out.cell 3 0 rfl rfl
      have g5 : w6.cell? ⟨W.heap.size + 1 + 1 + 1, 1, none⟩ = some (.slice none 0 0) := HF6.out.cell 3 1 rfl rfl
      have g6 : w6.frozen? ⟨W.heap.size + 1 + 1 + 1, 0, none⟩ = false := HF6.out.frozen 3 0 rfl
      have g7 : w6.frozen? ⟨W.heap.size + 1 + 1 + 1, 1, none⟩ = false := HF6.out.frozen 3 1 rfl
      go_wp2
      obtain ⟨k0, k1, hz, _, hfr⟩ := HF6.out.finI (cap := uc) 2 rfl HZ6.out
      have hy2 := ((HY6.out.setFr HF6.out 2 0 rfl rfl (.bool s1)).setFr (HF6.out.set 2 0 rfl (.bool s1)) 2 1 rfl rfl (.slice uo ul uc))
      obtain ⟨k2, k3, hy3, hbel, hfr2⟩ := hfr.finI (cap := vc) 3 rfl hy2
      have hz3 := ((hz.setFr hfr 3 0 rfl rfl (.bool s2)).setFr (hfr.set 3 0 rfl (.bool s2)) 3 1 rfl rfl (.slice vo vl vc))
      have k4 := hfr2.cell 2 0 (v := .bool s1) rfl rfl
      have k5 := hfr2.cell 2 1 (v := .slice uo ul uc) rfl rfl
      exact bodyPost_ret (v := .tuple #[.agg #[.bool s1, .slice uo ul uc], .agg #[.bool s2, .slice vo vl vc], .int .i64 0]) (by simp [results, Try.results9, go_sem, k2, k3, k4, k5]) rfl ⟨s1, uo, ul, uc, s2, vo, vl, vc, rfl, by rw [HXQ.out, bne_true]; exact hz3, by rw [HXR.out]; exact hy3, hbel⟩
    · have hmr : m % n ≠ 0 := fun h => hr0 (HRZ.out.1 h)
      have HXQ := Lib.hid (div_up nb m n HN0.out hmr).1
      have HXR := Lib.hid (div_up nb m n HN0.out hmr).2
      have q1 : (0 : Int) < (rl : Int) := by omega
      have q3 : decide (0 < rl) = true := by simp; omega
      clear hr0 hmr
      have HONE := Lib.hid (one_slice w1)
      have HF1a := Lib.hid (HF1.out.later (box_below w1 68 #[.int .u32 1]))
      go_wp2_with fail
      refine (sum_any _ _ _ _ _ _ (m / n) 1 _ (HQ.out.keep (box_below _ _ _)) HONE.out (by omega) (by omega)).mono ?_
      rintro e w2 ⟨so, sl, sc, rfl, hs2, hb2⟩
      have HF2 := Lib.hid (HF1a.out.later hb2)
      have HQ2 := Lib.hid hs2
      have HR2 := Lib.hid ((HR.out.keep (box_below _ _ _)).keep hb2)
      clear hs2 hb2
      have c1 : w2.cell? ⟨W.heap.size + 1, 1, none⟩ = some (.slice bo lb cb) := HF2.out.cell 1 1 rfl rfl
      go_wp2_with fail
      refine (difference_any _ _ _ _ _ _ n (m % n) _ (HN.out.keep HF2.out.below) HR2.out (by omega) (Nat.le_of_lt (Nat.mod_lt _ (Nat.pos_of_ne_zero HN0.out)))).mono ?_
      rintro e w4 ⟨to_, tl, tc, rfl, hd4, hb4⟩
      have HF4 := Lib.hid (HF2.out.later hb4)
      have HQ4 := Lib.hid (HQ2.out.keep hb4)
      have HR4 := Lib.hid hd4
      clear hd4 hb4
      have hrl := HR4.out
      have e0 : w4.cell? ⟨W.heap.size, 0, none⟩ = some (.bool true) := HF4.out.cell 0 0 rfl rfl
      have e1 : w4.cell? ⟨W.heap.size + 1, 0, none⟩ = some (.bool nb) := HF4.out.cell 1 0 rfl rfl
      clear hrl
      go_wp2_with fail
      refine (signed_any _ _ _ _ _ _ HQ4.out).mono ?_
      rintro e w5 ⟨s1, uo, ul, uc, rfl, hz5, hb5⟩
      have HF5 := Lib.hid (HF4.out.later hb5)
      have HZ5 := Lib.hid hz5
      have HR5 := Lib.hid (HR4.out.keep hb5)
      clear hz5 hb5
      go_wp2_with fail
      refine (signed_any _ _ _ _ _ _ HR5.out).mono ?_
      rintro e w6 ⟨s2, vo, vl, vc, rfl, hz6, hb6⟩
      have HF6 := Lib.hid (HF5.out.later hb6)
      have HZ6 := Lib.hid (HZ5.out.keep hb6)
      have HY6 := Lib.hid hz6
      clear hz6 hb6
      have g0 : w6.cell? ⟨W.heap.size + 1 + 1, 0, none⟩ = some (.bool false) := HF6.out.cell 2 0 rfl rfl
      have g1 : w6.cell? ⟨W.heap.size + 1 + 1, 1, none⟩ = some (.slice none 0 0) := HF6.out.cell 2 1 rfl rfl
      have g2 : w6.frozen? ⟨W.heap.size + 1 + 1, 0, none⟩ = false := HF6.out.frozen 2 0 rfl
      have g3 : w6.frozen? ⟨W.heap.size + 1 + 1, 1, none⟩ = false := HF6.out.frozen 2 1 rfl
      have g4 : w6.cell? ⟨W.heap.size + 1 + 1 + 1, 0, none⟩ = some (.bool false) := HF6.out.cell 3 0 rfl rfl
      have g5 : w6.cell? ⟨W.heap.size + 1 + 1 + 1, 1, none⟩ = some (.slice none 0 0) := HF6.out.cell 3 1 rfl rfl
      have g6 : w6.frozen? ⟨W.heap.size + 1 + 1 + 1, 0, none⟩ = false := HF6.out.frozen 3 0 rfl
      have g7 : w6.frozen? ⟨W.heap.size + 1 + 1 + 1, 1, none⟩ = false := HF6.out.frozen 3 1 rfl
      go_wp2
      obtain ⟨k0, k1, hz, _, hfr⟩ := HF6.out.finI (cap := uc) 2 rfl HZ6.out
      have hy2 := ((HY6.out.setFr HF6.out 2 0 rfl rfl (.bool s1)).setFr (HF6.out.set 2 0 rfl (.bool s1)) 2 1 rfl rfl (.slice uo ul uc))
      obtain ⟨k2, k3, hy3, hbel, hfr2⟩ := hfr.finI (cap := vc) 3 rfl hy2
      have hz3 := ((hz.setFr hfr 3 0 rfl rfl (.bool s2)).setFr (hfr.set 3 0 rfl (.bool s2)) 3 1 rfl rfl (.slice vo vl vc))
      have k4 := hfr2.cell 2 0 (v := .bool s1) rfl rfl
      have k5 := hfr2.cell 2 1 (v := .slice uo ul uc) rfl rfl
      exact bodyPost_ret (v := .tuple #[.agg #[.bool s1, .slice uo ul uc], .agg #[.bool s2, .slice vo vl vc], .int .i64 0]) (by simp [results, Try.results9, go_sem, k2, k3, k4, k5]) rfl ⟨s1, uo, ul, uc, s2, vo, vl, vc, rfl, by rw [HXQ.out, bne_true]; exact hz3, by rw [HXR.out]; exact hy3, hbel⟩
end Go.Proofs.Ytbihgllfllkkaaa

/- The specification's numbers: rows of digits to the base 2^16. at, trim, of, add. -/
set_option linter.unusedVariables false
namespace Go.Proofs.Ytbihgllfllkkaaa
open Go.RowKit

def B16 : Nat := 65536
theorem B16_eq : B16 = 65536 := rfl
theorem B16_pos : 0 < B16 := by decide
theorem B16_gt : 1 < B16 := by decide

/-- The slice is the digits to the base 2^16 of n, without a zero at the top. -/
def N16 (w : World) (ao : Option Addr) (len : Nat) (n : Nat) : Prop := ∃ xs, Sl .i64 w ao len xs ∧ Dig B16 xs ∧ Top xs ∧ val B16 xs = n

theorem N16.keep {w w' : World} {ao : Option Addr} {len n : Nat} (h : N16 w ao len n) (hb : Below w.heap.size w w') : N16 w' ao len n := by
  obtain ⟨xs, h1, h2⟩ := h
  exact ⟨xs, h1.keep hb, h2⟩
theorem N16.nil (w : World) (ao : Option Addr) : N16 w ao 0 0 := ⟨[], Sl.nil _ _ _, Dig.nil _, Top.nil, rfl⟩
theorem N16.zero {w : World} {ao : Option Addr} {len n : Nat} (h : N16 w ao len n) : n = 0 ↔ len = 0 := by
  obtain ⟨xs, h1, h2, h3, rfl⟩ := h
  rw [val_zero_iff B16_pos h3, ← h1.len, List.length_eq_zero_iff]
theorem N16.lt {w : World} {ao : Option Addr} {len n : Nat} (h : N16 w ao len n) : n < B16 ^ len := by
  obtain ⟨xs, h1, h2, h3, rfl⟩ := h
  have := val_lt B16_pos h2
  rwa [h1.len] at this
theorem N16.len_le {w : World} {ao : Option Addr} {len n k : Nat} (h : N16 w ao len n) (hn : n < B16 ^ k) : len ≤ k := by
  obtain ⟨xs, h1, h2, h3, rfl⟩ := h
  rw [← h1.len]
  exact len_le_of_lt B16_gt h3 hn

def Out16 (w : World) (n : Nat) (e : Ending) (w' : World) : Prop := ∃ ao len cap, e = .returned (.slice ao len cap) ∧ len ≤ cap ∧ cap ≤ 9223372036854775807 ∧ N16 w' ao len n ∧ Below w.heap.size w w'

set_option maxHeartbeats 400000 in
theorem at_any (ao : Option Addr) (len cap : Nat) (xs : List Nat) (I : Int) (i : Nat) (w : World) (hs : Sl .i64 w ao len xs) (hI : I = (i : Int)) :
    Calls Try.prog 78 #[.slice ao len cap, .int .i64 I] w fun e w' => e = .returned (.int .i64 ((xs[i]?.getD 0 : Nat) : Int)) ∧ w = w' := by
  subst hI
  obtain ⟨hx, b, off, h0, hc⟩ := hs
  have hX := Lib.hid hx
  clear hx
  by_cases hil : i < len
  · obtain rfl := h0 (by omega)
    have hci := hc i hil
    clear hc h0
    go_enter Try.func78, Try.ntmps78
    go_wp2
    go_ret
    exact ⟨rfl, rfl⟩
  · have hn : xs[i]?.getD 0 = 0 := by rw [List.getElem?_eq_none (by have := hX.out; omega)]; rfl
    rw [hn]
    clear hn h0 hc
    go_enter Try.func78, Try.ntmps78
    go_wp2
    go_ret
    exact ⟨rfl, rfl⟩

def Trim16Post (ao : Option Addr) (len cap : Nat) (xs : List Nat) (e : Ending) : Prop :=
  ∃ ao' n, e = .returned (.slice ao' n cap) ∧ n ≤ len ∧ (0 < n → ao' = ao) ∧ Top (xs.take n) ∧ (∀ j, n ≤ j → xs[j]?.getD 0 = 0)

set_option maxHeartbeats 400000 in
theorem trim16_raw (ao : Option Addr) (len cap : Nat) (xs : List Nat) (w : World) (hs : Sl .i64 w ao len xs) (hcap : len ≤ cap) (hl : cap ≤ 9223372036854775807) :
    Calls Try.prog 77 #[.slice ao len cap] w fun e w' => Trim16Post ao len cap xs e ∧ w = w' := by
  obtain ⟨hx, b, off, h0, hc⟩ := hs
  have hX := Lib.hid hx
  clear hx
  go_enter Try.func77, Try.ntmps77
  go_wp2
  go_loop [3] (fun t => ∃ n : Nat, n ≤ len ∧ t = .int .i64 n ∧ ∀ j, n ≤ j → xs[j]?.getD 0 = 0) (fun t => (intOf t).toNat)
  case atStart => exact ⟨len, Nat.le_refl _, rfl, fun j hj => by rw [List.getElem?_eq_none (by have := hX.out; omega)]; rfl⟩
  case round =>
    obtain ⟨n, hn, rfl, hz⟩ := hrel
    have hZ := Lib.hid hz
    clear hz
    have hX2 := hX.out
    by_cases h1 : n = 0
    · subst h1
      clear hX2
      go_wp2
      go_ret
      exact ⟨⟨_, 0, rfl, by omega, fun h => by omega, by simpa using Top.nil, hZ.out⟩, rfl⟩
    · have hlen : 0 < len := by omega
      obtain rfl := h0 hlen
      obtain ⟨m, rfl⟩ : ∃ m, n = m + 1 := ⟨n - 1, by omega⟩
      have hcell := hc m (by omega)
      clear hc h0
      obtain ⟨x, hxe⟩ : ∃ x, x = xs[m]?.getD 0 := ⟨_, rfl⟩
      rw [← hxe] at hcell
      have hE := Lib.hid hxe
      clear hxe hX2
      by_cases hx0 : x = 0
      · subst hx0
        go_wp2
        go_round
        case rel => exact ⟨m, by omega, by go_num, fun j hj => (by
          by_cases hj' : j = m
          · subst hj'; exact hE.out.symm
          · exact hZ.out j (by omega))⟩
        case measure => simp [intOf]
      · have hb : ((x : Int) == 0) = false := by simp; omega
        go_wp2
        go_ret
        exact ⟨⟨_, m + 1, rfl, hn, fun _ => rfl, top_take (by have := hX.out; omega) (Or.inr (by have := hE.out; simp only [Nat.add_sub_cancel]; omega)), hZ.out⟩, rfl⟩

def OfRel (n : Nat) (W : World) (nv ov : Value) (wr : World) : Prop :=
  ∃ (r k : Nat) (zs : List Nat), nv = .int .i64 (r : Int) ∧ Own .i64 wr W.heap.size 3 ov k zs ∧ Dig B16 zs ∧ val B16 zs + B16 ^ k * r = n ∧ (r = 0 → Top zs) ∧ r ≤ n ∧ Below W.heap.size W wr

theorem of_len {n k r : Nat} {zs : List Nat} (hv : val B16 zs + B16 ^ k * r = n) (hn : n ≤ 9223372036854775807) (hr : 0 < r) : k ≤ 4 := by
  have h1 : B16 ^ k * 1 ≤ B16 ^ k * r := Nat.mul_le_mul_left _ hr
  have h2 : B16 ^ k < B16 ^ 4 := by
    have : B16 ^ 4 = 18446744073709551616 := by decide
    omega
  have := (Nat.pow_lt_pow_iff_right B16_gt).1 h2
  omega

set_option maxHeartbeats 400000 in
theorem of_any (N : Int) (n : Nat) (W : World) (hN : N = (n : Int)) (hn : n ≤ 9223372036854775807) :
    Calls Try.prog 44 #[.int .i64 N] W (Out16 W n) := by
  subst hN
  have HN := Lib.hid hn
  go_enter Try.func44, Try.ntmps44
  go_wp2
  go_loopw [0, 3] (fun nv ov wr => OfRel n W nv ov wr) (fun nv ov _ => (intOf nv).toNat)
  case atStart => exact ⟨n, 0, [], rfl, Own.nil _ _ _ _, Dig.nil _, by simp [val], fun _ => Top.nil, Nat.le_refl _, Below.refl _ _⟩
  case round =>
    obtain ⟨r, k, zs, rfl, hown, hd, hv, ht, hrn, hbel⟩ := hrel
    have HO := Lib.hid hown
    have HD := Lib.hid hd
    have HV := Lib.hid hv
    have HT := Lib.hid ht
    have HB := Lib.hid hbel
    clear hown hd hv ht hbel
    by_cases hr0 : r = 0
    · subst hr0
      obtain ⟨ao, cap, rfl, hlc, hcm, hsl⟩ := HO.out.sl
      have HS := Lib.hid hsl
      clear hsl
      go_wp2
      go_ret
      have := HV.out
      exact ⟨ao, k, cap, rfl, hlc, hcm, ⟨zs, HS.out, HD.out, (by first | exact HT.out rfl | exact HT.out trivial), by simpa using this⟩, HB.out⟩
    · have t1 : (0 : Int) < (r : Int) := by omega
      have hk4 : k ≤ 4 := of_len HV.out HN.out (by omega)
      go_wp2_with (at_builtin; refine wpList_app rfl _ _ 25 rfl W.heap.size 3 .i64 8 Try.underlying25 (by kernel_rfl) _ k zs rfl HO.out _ (r % B16) rfl (by rw [B16_eq]; omega) (by omega) (by omega) HB.out.size ?_; intro v' w2 hown' hbel')
      go_roundw
      case rel =>
        refine ⟨r / B16, k + 1, zs ++ [r % B16], congrArg (Value.int _) (by rw [B16_eq]; omega), hown', HD.out.append (Dig.cons (Nat.mod_lt _ B16_pos) (Dig.nil _)), ?_, ?_, Nat.le_trans (Nat.div_le_self _ _) hrn, HB.out.trans hbel'⟩
        · rw [val_snoc, HO.out.len, Nat.pow_succ]
          have h1 := HV.out
          have h2 := Nat.mod_add_div r B16
          generalize r % B16 = d at *
          generalize r / B16 = q at *
          generalize B16 ^ k = p at *
          grind
        · intro hq _
          have : r % B16 = r := Nat.mod_eq_of_lt (by rw [Nat.div_eq_zero_iff] at hq; rcases hq with h | h; exact absurd h (by decide); exact h)
          simp
          omega
      case measure => simp only [intOf]; omega

def AddRel (la lb : Nat) (xa xb : List Nat) (W : World) (ov cv iv : Value) (wr : World) : Prop :=
  ∃ (c i : Nat) (zs : List Nat), cv = .int .i64 (c : Int) ∧ iv = .int .i64 (i : Int) ∧ Own .i64 wr W.heap.size 3 ov i zs ∧ Dig B16 zs ∧ c ≤ 1 ∧ i ≤ max la lb + 1 ∧
    val B16 zs + c * B16 ^ i = val B16 (xa.take i) + val B16 (xb.take i) ∧ (la < i → lb < i → B16 ^ (i - 1) ≤ val B16 zs) ∧ Below W.heap.size W wr

theorem add_rel {la lb i c x y : Nat} {xa xb zs : List Nat} {W wr w2 : World} {v' : Value} (hlz : zs.length = i) (hd : Dig B16 zs) (hc : c ≤ 1) (hi : i ≤ max la lb) (hla : xa.length = la) (hlb : xb.length = lb) (hx : x = xa[i]?.getD 0) (hy : y = xb[i]?.getD 0) (hxb : x < B16) (hyb : y < B16)
    (hgo : i < la ∨ i < lb ∨ 0 < c)
    (hv : val B16 zs + c * B16 ^ i = val B16 (xa.take i) + val B16 (xb.take i)) (hb : Below W.heap.size W wr) (ho : Own .i64 w2 W.heap.size 3 v' (i + 1) (zs ++ [(c + (x + y)) % B16])) (hb2 : Below W.heap.size wr w2)
    (C I : Int) (hC : C = (((c + (x + y)) / B16 : Nat) : Int)) (hI : I = (i : Int) + 1) : AddRel la lb xa xb W v' (.int .i64 C) (.int .i64 I) w2 := by
  rw [B16_eq] at hxb hyb
  have e := Nat.mod_add_div (c + (x + y)) B16
  refine ⟨(c + (x + y)) / B16, i + 1, zs ++ [(c + (x + y)) % B16], by rw [hC], by rw [hI]; rfl, ho, hd.append (Dig.cons (Nat.mod_lt _ B16_pos) (Dig.nil _)), by rw [B16_eq]; omega, by omega, ?_, ?_, hb.trans hb2⟩
  · rw [val_snoc, hlz, val_take_succ, val_take_succ, ← hx, ← hy, Nat.pow_succ]
    generalize (c + (x + y)) % B16 = d at *
    generalize (c + (x + y)) / B16 = q at *
    generalize B16 ^ i = p at *
    grind
  · intro h1 h2
    have hx0 : x = 0 := by rw [hx, List.getElem?_eq_none (by omega)]; rfl
    have hy0 : y = 0 := by rw [hy, List.getElem?_eq_none (by omega)]; rfl
    have hc1 : c = 1 := by omega
    subst hx0 hy0 hc1
    rw [val_snoc, hlz]
    have : (1 + (0 + 0)) % B16 = 1 := by decide
    rw [this]
    simp

set_option maxHeartbeats 1000000 in
theorem add_any (ao bo : Option Addr) (la lb ca cb : Nat) (m n : Nat) (W : World) (ha : N16 W ao la m) (hb : N16 W bo lb n) (hla : la ≤ 1000000000) (hlb : lb ≤ 1000000000) :
    Calls Try.prog 43 #[.slice ao la ca, .slice bo lb cb] W (Out16 W (m + n)) := by
  obtain ⟨xa, ha, hda, hta, rfl⟩ := ha
  obtain ⟨xb, hb, hdb, htb, rfl⟩ := hb
  have HA := Lib.hid ha
  have HB := Lib.hid hb
  have HDA := Lib.hid hda
  have HDB := Lib.hid hdb
  have HTA := Lib.hid hta
  have HTB := Lib.hid htb
  clear ha hb hda hdb hta htb
  go_enter Try.func43, Try.ntmps43
  go_wp2
  go_loopw [5, 6, 7] (fun ov cv iv wr => AddRel la lb xa xb W ov cv iv wr) (fun ov cv iv _ => la + lb + 2 - (intOf iv).toNat)
  case atStart => exact ⟨0, 0, [], rfl, rfl, Own.nil _ _ _ _, Dig.nil _, by omega, by omega, by simp [val], fun h => by omega, Below.refl _ _⟩
  case round =>
    obtain ⟨c, i, zs, rfl, rfl, hown, hd, hc, hi, hv, htop, hbel⟩ := hrel
    have GO := Lib.hid hown
    have GD := Lib.hid hd
    have GV := Lib.hid hv
    have GT := Lib.hid htop
    have GW := Lib.hid hbel
    clear hown hd hv htop hbel
    by_cases hgo : i < la ∨ i < lb ∨ 0 < c
    · have hx := HDA.out.get B16_pos i
      have hy := HDB.out.get B16_pos i
      have him : i ≤ max la lb := by
        rcases hgo with h | h | h
        · omega
        · omega
        · rcases Nat.lt_or_ge (max la lb) i with h4 | h4
          · exfalso
            have h1 := val_lt B16_pos HDA.out
            have h2 := val_lt B16_pos HDB.out
            rw [HA.out.len] at h1
            rw [HB.out.len] at h2
            have h3 := GV.out
            rw [List.take_of_length_le (by rw [HA.out.len]; omega), List.take_of_length_le (by rw [HB.out.len]; omega)] at h3
            have h5 : B16 ^ la ≤ B16 ^ (i - 1) := Nat.pow_le_pow_right B16_pos (by omega)
            have h6 : B16 ^ lb ≤ B16 ^ (i - 1) := Nat.pow_le_pow_right B16_pos (by omega)
            have h7 : B16 ^ i = B16 ^ (i - 1) * B16 := by rw [← Nat.pow_succ]; congr 1; omega
            obtain rfl : c = 1 := by omega
            rw [h7, B16_eq] at h3
            rw [B16_eq] at h1 h2 h5 h6
            omega
          · exact h4
      obtain ⟨x, hxe⟩ : ∃ x, x = xa[i]?.getD 0 := ⟨_, rfl⟩
      obtain ⟨y, hye⟩ : ∃ x, x = xb[i]?.getD 0 := ⟨_, rfl⟩
      rw [← hxe] at hx
      rw [← hye] at hy
      have HXB := Lib.hid hx
      have HYB := Lib.hid hy
      rw [B16_eq] at hx hy
      have HX := Lib.hid hxe
      have HY := Lib.hid hye
      have HAr := Lib.hid (HA.out.keep GW.out)
      have HBr := Lib.hid (HB.out.keep GW.out)
      clear hxe hye
      have hrest : i < la ∨ (¬ i < la ∧ (i < lb ∨ (¬ i < lb ∧ 0 < c))) := by omega
      rcases hrest with h1 | ⟨h1, h2 | ⟨h2, h3⟩⟩
      · have t1 : (i : Int) < (la : Int) := by omega
        go_wp2_with fail
        refine (at_any _ _ _ xa _ i _ HAr.out rfl).mono ?_
        rw [← HX.out]
        rintro e w1 ⟨rfl, rfl⟩
        go_wp2_with fail
        refine (at_any _ _ _ xb _ i _ HBr.out rfl).mono ?_
        rw [← HY.out]
        rintro e w1 ⟨rfl, rfl⟩
        go_wp2_with (at_builtin; refine wpList_app rfl _ _ 25 rfl W.heap.size 3 .i64 8 Try.underlying25 (by kernel_rfl) _ i zs rfl GO.out _ ((c + (x + y)) % B16) rfl (by rw [B16_eq]; omega) (by omega) (by omega) GW.out.size ?_; intro v' w2 hown' hbel')
        go_roundw
        case rel => exact add_rel GO.out.len GD.out hc him HA.out.len HB.out.len HX.out HY.out HXB.out HYB.out hgo GV.out GW.out hown' hbel' _ _ (by rw [B16_eq]; omega) rfl
        case measure => simp only [intOf]; omega
      · have t1 : ¬ (i : Int) < (la : Int) := by omega
        have t2 : (i : Int) < (lb : Int) := by omega
        go_wp2_with fail
        refine (at_any _ _ _ xa _ i _ HAr.out rfl).mono ?_
        rw [← HX.out]
        rintro e w1 ⟨rfl, rfl⟩
        go_wp2_with fail
        refine (at_any _ _ _ xb _ i _ HBr.out rfl).mono ?_
        rw [← HY.out]
        rintro e w1 ⟨rfl, rfl⟩
        go_wp2_with (at_builtin; refine wpList_app rfl _ _ 25 rfl W.heap.size 3 .i64 8 Try.underlying25 (by kernel_rfl) _ i zs rfl GO.out _ ((c + (x + y)) % B16) rfl (by rw [B16_eq]; omega) (by omega) (by omega) GW.out.size ?_; intro v' w2 hown' hbel')
        go_roundw
        case rel => exact add_rel GO.out.len GD.out hc him HA.out.len HB.out.len HX.out HY.out HXB.out HYB.out hgo GV.out GW.out hown' hbel' _ _ (by rw [B16_eq]; omega) rfl
        case measure => simp only [intOf]; omega
      · have t1 : ¬ (i : Int) < (la : Int) := by omega
        have t2 : ¬ (i : Int) < (lb : Int) := by omega
        have t3 : (0 : Int) < (c : Int) := by omega
        go_wp2_with fail
        refine (at_any _ _ _ xa _ i _ HAr.out rfl).mono ?_
        rw [← HX.out]
        rintro e w1 ⟨rfl, rfl⟩
        go_wp2_with fail
        refine (at_any _ _ _ xb _ i _ HBr.out rfl).mono ?_
        rw [← HY.out]
        rintro e w1 ⟨rfl, rfl⟩
        go_wp2_with (at_builtin; refine wpList_app rfl _ _ 25 rfl W.heap.size 3 .i64 8 Try.underlying25 (by kernel_rfl) _ i zs rfl GO.out _ ((c + (x + y)) % B16) rfl (by rw [B16_eq]; omega) (by omega) (by omega) GW.out.size ?_; intro v' w2 hown' hbel')
        go_roundw
        case rel => exact add_rel GO.out.len GD.out hc him HA.out.len HB.out.len HX.out HY.out HXB.out HYB.out hgo GV.out GW.out hown' hbel' _ _ (by rw [B16_eq]; omega) rfl
        case measure => simp only [intOf]; omega
    · have t1 : ¬ (i : Int) < (la : Int) := by omega
      have t2 : ¬ (i : Int) < (lb : Int) := by omega
      obtain rfl : c = 0 := by omega
      obtain ⟨oo, cap, rfl, hlc, hcm, hsl⟩ := GO.out.sl
      have HS := Lib.hid hsl
      clear hsl
      go_wp2
      go_ret
      have hval : val B16 zs = val B16 xa + val B16 xb := by
        have h := GV.out
        rw [List.take_of_length_le (l := xa) (by rw [HA.out.len]; omega), List.take_of_length_le (l := xb) (by rw [HB.out.len]; omega)] at h
        omega
      have hzl := GO.out.len
      refine ⟨oo, i, cap, rfl, hlc, hcm, ⟨zs, HS.out, GD.out, top_of_ge B16_pos GD.out (fun hne => ?_), hval⟩, GW.out⟩
      rw [hzl]
      by_cases h5 : la < i
      · by_cases h6 : lb < i
        · exact GT.out h5 h6
        · have : i = lb := by omega
          have := val_ge (B := B16) HTB.out (by intro e; have := HB.out.len; rw [e] at this; simp at this; exact hne (List.eq_nil_of_length_eq_zero (by omega)))
          rw [HB.out.len] at this
          rw [hval, ‹i = lb›]; omega
      · have : i = la := by omega
        have := val_ge (B := B16) HTA.out (by intro e; have := HA.out.len; rw [e] at this; simp at this; exact hne (List.eq_nil_of_length_eq_zero (by omega)))
        rw [HA.out.len] at this
        rw [hval, ‹i = la›]; omega
end Go.Proofs.Ytbihgllfllkkaaa
