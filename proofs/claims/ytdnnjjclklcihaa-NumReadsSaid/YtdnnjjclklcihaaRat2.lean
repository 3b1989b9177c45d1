/- NewRat, Den, withPoint, Decimal. -/
import Derived.Test.YtdnnjjclklcihaaRat1
set_option linter.unusedVariables false
namespace Go.Proofs.Ytdnnjjclklcihaa
open Go.RowKit

theorem Z32.neg_eq {w : World} {neg : Bool} {ao : Option Addr} {len : Nat} {z : Int} (h : Z32 w neg ao len z) : neg = decide (z < 0) := by
  obtain ⟨n, h1, rfl, h3⟩ := h
  cases neg with
  | true => have := h3 rfl; simp only [sgn, if_true]; symm; simp; omega
  | false => simp [sgn]

theorem Z32.n32 {w : World} {neg : Bool} {ao : Option Addr} {len : Nat} {z : Int} (h : Z32 w neg ao len z) : N32 w ao len z.natAbs := by
  obtain ⟨n, h1, rfl, _⟩ := h
  rw [sgn_natAbs]; exact h1

theorem Z32.zero {w : World} {neg : Bool} {ao : Option Addr} {len : Nat} {z : Int} (h : Z32 w neg ao len z) : z = 0 ↔ len = 0 := by
  rw [← h.n32.zero]; omega

/-- x / y in lowest terms -/
def lowP (x y : Int) : Int := sgn (decide (x < 0) != decide (y < 0)) (x.natAbs / Nat.gcd x.natAbs y.natAbs)
def lowQ (x y : Int) : Nat := y.natAbs / Nat.gcd x.natAbs y.natAbs

def OutQE (W : World) (p : Int) (q : Nat) (e : Ending) (w' : World) : Prop :=
  ∃ neg ao len cap bo bl bc, e = .returned (.tuple #[.agg #[.bool neg, .slice ao len cap, .slice bo bl bc], .int .i64 0]) ∧ Q32 w' neg ao len bo bl p q ∧ Below W.heap.size W w'

set_option maxHeartbeats 1000000 in
theorem newRat_any (na nb : Bool) (ao bo : Option Addr) (la lb ca cb : Nat) (x y : Int) (W : World) (ha : Z32 W na ao la x) (hb : Z32 W nb bo lb y) (hla : la ≤ 1000000000) (hlb : lb ≤ 1000000000) (hy : y ≠ 0)
    (hG : GcdOk x.natAbs y.natAbs) (hD1 : DivOk x.natAbs (Nat.gcd x.natAbs y.natAbs)) (hD2 : DivOk y.natAbs (Nat.gcd x.natAbs y.natAbs)) :
    Calls Try.prog 56 #[.agg #[.bool na, .slice ao la ca], .agg #[.bool nb, .slice bo lb cb]] W (OutQE W (lowP x y) (lowQ x y)) := by
  have hf : Fr W (((W.alloc (.cells #[.bool na, .slice ao la ca] 24)).alloc (.cells #[.bool nb, .slice bo lb cb] 24)).alloc (.cells #[.bool false, .slice none 0 0, .slice none 0 0] 67))
      [(24, #[.bool na, .slice ao la ca]), (24, #[.bool nb, .slice bo lb cb]), (67, #[.bool false, .slice none 0 0, .slice none 0 0])] :=
    (((Fr.nil W).alloc rfl _ _).alloc (by simp) _ _).alloc (by simp) _ _
  have hp : lowP x y = sgn (na != nb) (x.natAbs / Nat.gcd x.natAbs y.natAbs) := by unfold lowP; rw [ha.neg_eq, hb.neg_eq]
  have hsg : y.sign ≠ 0 := fun h => hy (Int.sign_eq_zero_iff_zero.1 h)
  have hs2 : (y.sign == 0) = false := by simpa using hsg
  have HA := Lib.hid ha
  have HB := Lib.hid hb
  have HP := Lib.hid hp
  have HR := Lib.hid (fun w h1 h2 => reduced_any na nb ao bo la lb ca cb x.natAbs y.natAbs w h1 h2 hla hlb (by omega) hG hD1 hD2)
  clear ha hb hp hy hG hD1 hD2
  go_enter Try.func56, Try.ntmps56
  go_wp2_with fail
  obtain ⟨W3, hW3⟩ : ∃ W3, W3 = ((W.alloc (.cells #[.bool na, .slice ao la ca] 24)).alloc (.cells #[.bool nb, .slice bo lb cb] 24)).alloc (.cells #[.bool false, .slice none 0 0, .slice none 0 0] 67) := ⟨_, rfl⟩
  rw [← hW3] at hf ⊢
  clear hW3
  have HF := Lib.hid hf
  clear hf
  refine (sign_any _ _ _ _ y _ (HB.out.keep HF.out.below)).mono ?_
  rintro e w1 ⟨rfl, hb1⟩
  have HF1 := Lib.hid (HF.out.later hb1)
  clear hb1
  have c0 : w1.cell? ⟨W.heap.size, 0, none⟩ = some (.bool na) := HF1.out.cell 0 0 rfl rfl
  have c1 : w1.cell? ⟨W.heap.size, 1, none⟩ = some (.slice ao la ca) := HF1.out.cell 0 1 rfl rfl
  have c2 : w1.cell? ⟨W.heap.size + 1, 0, none⟩ = some (.bool nb) := HF1.out.cell 1 0 rfl rfl
  have c3 : w1.cell? ⟨W.heap.size + 1, 1, none⟩ = some (.slice bo lb cb) := HF1.out.cell 1 1 rfl rfl
  clear hsg
  go_wp2_with fail
  refine (HR.out w1 (HA.out.keep HF1.out.below).n32 (HB.out.keep HF1.out.below).n32).mono ?_
  rintro e w2 ⟨neg, uo, ul, uc, so, sl, sc, rfl, hq, hb2⟩
  have HF2 := Lib.hid (HF1.out.later hb2)
  have HQ := Lib.hid hq
  clear hb2 hq
  have g0 : w2.cell? ⟨W.heap.size + 1 + 1, 0, none⟩ = some (.bool false) := HF2.out.cell 2 0 rfl rfl
  have g1 : w2.cell? ⟨W.heap.size + 1 + 1, 1, none⟩ = some (.slice none 0 0) := HF2.out.cell 2 1 rfl rfl
  have g2 : w2.cell? ⟨W.heap.size + 1 + 1, 2, none⟩ = some (.slice none 0 0) := HF2.out.cell 2 2 rfl rfl
  have g3 : w2.frozen? ⟨W.heap.size + 1 + 1, 0, none⟩ = false := HF2.out.frozen 2 0 rfl
  have g4 : w2.frozen? ⟨W.heap.size + 1 + 1, 1, none⟩ = false := HF2.out.frozen 2 1 rfl
  have g5 : w2.frozen? ⟨W.heap.size + 1 + 1, 2, none⟩ = false := HF2.out.frozen 2 2 rfl
  go_wp2
  obtain ⟨e0, e1, e2, hq, hbel⟩ := HF2.out.finQ (cap := uc) (bc := sc) 2 rfl HQ.out
  exact bodyPost_ret (v := .tuple #[.agg #[.bool neg, .slice uo ul uc, .slice so sl sc], .int .i64 0]) (by simp [results, Try.results56, go_sem, e0, e1, e2]) rfl ⟨neg, uo, ul, uc, so, sl, sc, rfl, by rw [HP.out]; exact hq, hbel⟩

set_option maxHeartbeats 1000000 in
theorem den_any (na : Bool) (ao bo : Option Addr) (la lb ca cb : Nat) (p : Int) (q : Nat) (W : World) (h : Q32 W na ao la bo lb p q) (hlb : lb ≤ 1000000000) :
    Calls Try.prog 52 #[.agg #[.bool na, .slice ao la ca, .slice bo lb cb]] W (OutI W q) := by
  have hf : Fr W ((W.alloc (.cells #[.bool na, .slice ao la ca, .slice bo lb cb] 67)).alloc (.cells #[.bool false, .slice none 0 0] 24))
      [(67, #[.bool na, .slice ao la ca, .slice bo lb cb]), (24, #[.bool false, .slice none 0 0])] :=
    ((Fr.nil W).alloc rfl _ _).alloc (by simp) _ _
  have hbl := h.bl0
  by_cases h0 : lb = 0
  · have hq : q = 1 := hbl.1 h0
    subst h0 hq
    clear h hbl
    go_enter Try.func52, Try.ntmps52
    go_wp2_with fail
    obtain ⟨W3, hW3⟩ : ∃ W3, W3 = (W.alloc (.cells #[.bool na, .slice ao la ca, .slice bo 0 cb] 67)).alloc (.cells #[.bool false, .slice none 0 0] 24) := ⟨_, rfl⟩
    rw [← hW3] at hf ⊢
    clear hW3
    have HF := Lib.hid hf
    clear hf
    refine (new_any 1 _ (by omega) (by omega)).mono ?_
    rintro e w1 ⟨neg, uo, ul, uc, rfl, hz, hb1⟩
    have HF1 := Lib.hid (HF.out.later hb1)
    have HZ := Lib.hid hz
    clear hb1 hz
    have g0 : w1.cell? ⟨W.heap.size + 1, 0, none⟩ = some (.bool false) := HF1.out.cell 1 0 rfl rfl
    have g1 : w1.cell? ⟨W.heap.size + 1, 1, none⟩ = some (.slice none 0 0) := HF1.out.cell 1 1 rfl rfl
    have g3 : w1.frozen? ⟨W.heap.size + 1, 0, none⟩ = false := HF1.out.frozen 1 0 rfl
    have g4 : w1.frozen? ⟨W.heap.size + 1, 1, none⟩ = false := HF1.out.frozen 1 1 rfl
    go_wp2
    obtain ⟨e0, e1, hz, hbel, _⟩ := HF1.out.finI (cap := uc) 1 rfl HZ.out
    exact bodyPost_ret (v := .agg #[.bool neg, .slice uo ul uc]) (by simp [results, Try.results52, go_sem, e0, e1]) rfl ⟨neg, uo, ul, uc, rfl, hz, hbel⟩
  · have hN : N32 W bo lb q := by
      rcases h.2 with ⟨h2, _⟩ | ⟨h2, _⟩
      · exact absurd h2 h0
      · exact h2
    have HN := Lib.hid hN
    have hb0 : ((lb : Int) == 0) = false := by simp; omega
    clear h hbl hN
    go_enter Try.func52, Try.ntmps52
    go_wp2_with fail
    obtain ⟨W3, hW3⟩ : ∃ W3, W3 = (W.alloc (.cells #[.bool na, .slice ao la ca, .slice bo lb cb] 67)).alloc (.cells #[.bool false, .slice none 0 0] 24) := ⟨_, rfl⟩
    rw [← hW3] at hf ⊢
    clear hW3
    have HF := Lib.hid hf
    clear hf
    refine (duplicate_n _ _ _ q _ (HN.out.keep HF.out.below) hlb).mono ?_
    rintro e w1 ⟨do_, dc, rfl, hd, hb1⟩
    have HF1 := Lib.hid (HF.out.later hb1)
    have HD := Lib.hid hd
    clear hb1 hd
    go_wp2_with fail
    refine (signed_any _ _ _ _ _ _ HD.out).mono ?_
    rintro e w2 ⟨neg, uo, ul, uc, rfl, hz, hb2⟩
    have HF2 := Lib.hid (HF1.out.later hb2)
    have HZ := Lib.hid hz
    clear hb2 hz
    have g0 : w2.cell? ⟨W.heap.size + 1, 0, none⟩ = some (.bool false) := HF2.out.cell 1 0 rfl rfl
    have g1 : w2.cell? ⟨W.heap.size + 1, 1, none⟩ = some (.slice none 0 0) := HF2.out.cell 1 1 rfl rfl
    have g3 : w2.frozen? ⟨W.heap.size + 1, 0, none⟩ = false := HF2.out.frozen 1 0 rfl
    have g4 : w2.frozen? ⟨W.heap.size + 1, 1, none⟩ = false := HF2.out.frozen 1 1 rfl
    go_wp2
    obtain ⟨e0, e1, hz, hbel, _⟩ := HF2.out.finI (cap := uc) 1 rfl HZ.out
    exact bodyPost_ret (v := .agg #[.bool neg, .slice uo ul uc]) (by simp [results, Try.results52, go_sem, e0, e1]) rfl ⟨neg, uo, ul, uc, rfl, hz, hbel⟩

theorem bytes_extract (l : List UInt8) (a b : Nat) : (⟨l.toArray⟩ : ByteArray).extract a b = ⟨((l.drop a).take (b - a)).toArray⟩ := by
  apply ByteArray.ext
  rw [ByteArray.data_extract]
  simp

/-- a point before the last k bytes -/
def pointed (l : List UInt8) (k : Nat) : List UInt8 := if k = 0 then l else l.take (l.length - k) ++ [46] ++ l.drop (l.length - k)

set_option maxHeartbeats 1000000 in
theorem withPoint_any (l : List UInt8) (K : Int) (k : Nat) (W : World) (hK : K = (k : Int)) (hk : k = 0 ∨ k < l.length) (hl : l.length ≤ 1000000000000) :
    Calls Try.prog 97 #[.string ⟨l.toArray⟩, .int .i64 K] W (fun e w' => e = .returned (.string ⟨(pointed l k).toArray⟩) ∧ Drew W w') := by
  subst hK
  by_cases h0 : k = 0
  · subst h0
    have HE : Hid (pointed l 0 = l) := by unfold pointed; rw [if_pos rfl]; rfl
    rw [HE.out]
    go_enter Try.func97, Try.ntmps97
    go_wp2
    go_ret
    exact ⟨rfl, Drew.refl _⟩
  · have HE : Hid (pointed l k = l.take (l.length - k) ++ [46] ++ l.drop (l.length - k)) := by unfold pointed; rw [if_neg h0]; rfl
    rw [HE.out]
    have hkl : k < l.length := by omega
    have b0 : ((k : Int) == 0) = false := by simp; omega
    have b1 : ¬ ((l.length : Int) ≤ (k : Int)) := by omega
    go_enter Try.func97, Try.ntmps97
    go_wp2
    obtain ⟨j, hj⟩ : ∃ j, j = l.length - k := ⟨_, rfl⟩
    have ej : ((l.length : Int) - (k : Int)) = (j : Int) := by omega
    rw [ej]
    have c1 : (0 : Int) ≤ (j : Int) := by omega
    have c2 : (j : Int) ≤ (l.length : Int) := by omega
    have c3 : j ≤ l.length := by omega
    have HJ := Lib.hid hj
    clear ej hj b1
    go_region
    go_wp2
    go_ret
    refine ⟨congrArg (fun x => Ending.returned (Value.string x)) ?_, ⟨1, rfl⟩⟩
    rw [bytes_extract, bytes_extract]
    have h1 := bytes_append (List.take (j - 0) (List.drop 0 l)) [46]
    have h2 := bytes_append (List.take (j - 0) (List.drop 0 l) ++ [46]) (List.take (l.length - j) (List.drop j l))
    rw [← h1] at h2
    refine h2.trans ?_
    rw [← HJ.out, List.drop_zero, Nat.sub_zero, List.take_of_length_le (l := List.drop j l) (by simp)]
end Go.Proofs.Ytdnnjjclklcihaa
