/- Part 11 of the contracts: RefY, GcdZ. -/
import Derived.Deep.CutRange
import Derived.Deep.CutBlock
import Derived.Test.YtbihgllfllkkaaaPart10

/- The specification's gcd. -/
set_option linter.unusedVariables false
namespace Go.Proofs.Ytbihgllfllkkaaa
open Go.RowKit

theorem par16 {xs : List Nat} (hd : Dig B16 xs) : xs[0]?.getD 0 % 2 = val B16 xs % 2 := by
  have := bit_of hd 0
  simpa using this.symm

theorem N16.low {w : World} {ao : Option Addr} {la a : Nat} (h : N16 w ao la a) (ha : 0 < a) : 0 < la ∧ ∃ b off x, ao = some ⟨b, off, none⟩ ∧ w.cell? ⟨b, off, none⟩ = some (.int .i64 ((x : Nat) : Int)) ∧ x < 65536 ∧ x % 2 = a % 2 := by
  have hla : 0 < la := by
    rcases Nat.eq_zero_or_pos la with h0 | h0
    · have := h.zero.2 h0; omega
    · exact h0
  obtain ⟨xs, ⟨hx, b, off, h0, hc⟩, hd, ht, hv⟩ := h
  refine ⟨hla, b, off, xs[0]?.getD 0, h0 hla, hc 0 hla, ?_, ?_⟩
  · have := hd.get B16_pos 0; rwa [B16_eq] at this
  · rw [par16 hd, hv]

def GcdS (L G k : Nat) (W : World) (av bv : Value) (wr : World) (a b : Nat) : Prop :=
  ∃ (ao bo : Option Addr) (la ca lb cb : Nat), av = .slice ao la ca ∧ bv = .slice bo lb cb ∧ la ≤ ca ∧ ca ≤ 9223372036854775807 ∧ lb ≤ cb ∧ cb ≤ 9223372036854775807 ∧ N16 wr ao la a ∧ N16 wr bo lb b ∧ a < B16 ^ L ∧ b < B16 ^ L ∧ 0 < b ∧ 2 ^ k * Nat.gcd a b = G ∧ Below W.heap.size W wr

def Gcd1 (L G : Nat) (W : World) (av bv kv : Value) (wr : World) : Prop :=
  ∃ k a b, kv = .int .i64 ((k : Nat) : Int) ∧ k ≤ 16 * L ∧ 0 < a ∧ GcdS L G k W av bv wr a b

def Gcd2 (L G : Nat) (W : World) (av bv kv : Value) (wr : World) : Prop :=
  ∃ k a b, kv = .int .i64 ((k : Nat) : Int) ∧ k ≤ 16 * L ∧ ¬ (a % 2 = 0 ∧ b % 2 = 0) ∧ GcdS L G k W av bv wr a b

/-- the inner loops: a is halved until it is odd; b, which is odd or a is, stays -/
def Gcd3 (a b : Nat) (w0 : World) (av : Value) (wr : World) : Prop :=
  ∃ (a' : Nat) (ao : Option Addr) (la ca : Nat), av = .slice ao la ca ∧ la ≤ ca ∧ ca ≤ 9223372036854775807 ∧ N16 wr ao la a' ∧ 0 < a' ∧ a' ≤ a ∧ ¬ (a' % 2 = 0 ∧ b % 2 = 0) ∧ Nat.gcd a' b = Nat.gcd a b ∧ Below w0.heap.size w0 wr

theorem gcd_k {L G k a b : Nat} (hG : G < 2 ^ (16 * L)) (hb : 0 < b) (h : 2 ^ k * Nat.gcd a b = G) : k < 16 * L := by
  have h1 : 0 < Nat.gcd a b := Nat.gcd_pos_of_pos_right _ hb
  have h2 : 2 ^ k * 1 ≤ 2 ^ k * Nat.gcd a b := Nat.mul_le_mul_left _ h1
  exact (Nat.pow_lt_pow_iff_right (a := 2) (by decide)).1 (by omega)

theorem tmod2 {x a : Nat} (h : x % 2 = a % 2) : ((x : Int).tmod 2 = ((a % 2 : Nat) : Int)) ∧ ((x : Int) % 2 = ((a % 2 : Nat) : Int)) := by
  have h1 : (x : Int).tmod 2 = (x : Int) % 2 := Int.tmod_eq_emod_of_nonneg (Int.natCast_nonneg _)
  constructor
  · rw [h1]; omega
  · omega

set_option maxRecDepth 8000 in
set_option maxHeartbeats 4000000 in
theorem gcd16_any (ao bo : Option Addr) (la lb ca cb A B : Nat) (W : World) (ha : N16 W ao la A) (hb : N16 W bo lb B) (hla : la ≤ 10000000) (hlb : lb ≤ 10000000) (hac : la ≤ ca) (hacm : ca ≤ 9223372036854775807) (hbc : lb ≤ cb) (hbcm : cb ≤ 9223372036854775807) :
    Calls Try.prog 48 #[.slice ao la ca, .slice bo lb cb] W (Out16 W (Nat.gcd A B)) := by
  by_cases hA0 : la = 0
  · have hA : A = 0 := ha.zero.2 hA0
    subst hA0 hA
    have HB := Lib.hid hb
    clear ha hb
    go_enter Try.func48, Try.ntmps48
    go_wp2
    go_ret
    exact ⟨bo, lb, cb, rfl, hbc, hbcm, by rw [Nat.gcd_zero_left]; exact HB.out, Below.refl _ _⟩
  by_cases hB0 : lb = 0
  · have hB : B = 0 := hb.zero.2 hB0
    have b2 : ((la : Int) == 0) = false := by simp; omega
    subst hB0 hB
    have HA := Lib.hid ha
    clear ha hb
    go_enter Try.func48, Try.ntmps48
    go_wp2
    go_ret
    exact ⟨ao, la, ca, rfl, hac, hacm, by rw [Nat.gcd_zero_right]; exact HA.out, Below.refl _ _⟩
  have hA1 : 0 < A := by
    rcases Nat.eq_zero_or_pos A with h | h
    · exact absurd (ha.zero.1 h) hA0
    · exact h
  have hB1 : 0 < B := by
    rcases Nat.eq_zero_or_pos B with h | h
    · exact absurd (hb.zero.1 h) hB0
    · exact h
  have b1 : ((la : Int) == 0) = false := by simp; omega
  have b2 : ((lb : Int) == 0) = false := by simp; omega
  obtain ⟨L, hLe⟩ : ∃ L, L = max la lb := ⟨_, rfl⟩
  have hL : L ≤ 10000000 := by omega
  have hAL : A < B16 ^ L := Nat.lt_of_lt_of_le ha.lt (Nat.pow_le_pow_right B16_pos (by omega))
  have hBL : B < B16 ^ L := Nat.lt_of_lt_of_le hb.lt (Nat.pow_le_pow_right B16_pos (by omega))
  obtain ⟨G, hG⟩ : ∃ G, G = Nat.gcd A B := ⟨_, rfl⟩
  have hGL : G < 2 ^ (16 * L) := by
    rw [hG, ← B16_pow]
    exact Nat.lt_of_le_of_lt (Nat.gcd_le_right A hB1) hBL
  rw [← hG]
  have HS : Hid (Gcd1 L G W (.slice ao la ca) (.slice bo lb cb) (.int .i64 0) W) :=
    ⟨0, A, B, rfl, Nat.zero_le _, hA1, ao, bo, la, ca, lb, cb, rfl, rfl, hac, hacm, hbc, hbcm, ha, hb, hAL, hBL, hB1, by rw [hG]; simp, Below.refl _ _⟩
  have HGL := Lib.hid hGL
  clear ha hb hAL hBL hG hGL hLe hA0 hB0 hA1 hB1
  go_enter Try.func48, Try.ntmps48
  go_upto_block 0 with fail
  go_cut [0, 1, 5] from 14 to 31 (fun av bv kv wx => Gcd2 L G W av bv kv wx)
  case first =>
    go_wp2_with fail
    go_loopw [0, 1, 5] (fun av bv kv wr => Gcd1 L G W av bv kv wr) (fun av bv kv wr => readN16 wr av)
    case atStart => exact HS.out
    case round =>
      obtain ⟨k, a, b, rfl, hk, ha1, ao, bo, la, ca, lb, cb, rfl, rfl, hac, hacm, hbc, hbcm, ha, hb, haL, hbL, hb1, hg, hw⟩ := hrel
      have hla : la ≤ 10000000 := Nat.le_trans (ha.len_le haL) hL
      have hlb : lb ≤ 10000000 := Nat.le_trans (hb.len_le hbL) hL
      obtain ⟨hla0, ab, aoff, x, rfl, ca0, hx, hxa⟩ := ha.low ha1
      obtain ⟨hlb0, bb, boff, y, rfl, cb0, hy, hyb⟩ := hb.low hb1
      have hkl := gcd_k HGL.out hb1 hg
      have HA := Lib.hid ha
      have HB := Lib.hid hb
      have HAL := Lib.hid haL
      have HBL := Lib.hid hbL
      have HG := Lib.hid hg
      have HW := Lib.hid hw
      have i1 : (0 : Int) < (la : Int) := by omega
      have i2 : (0 : Int) < (lb : Int) := by omega
      have m1 := (tmod2 hxa).1
      have m2 := (tmod2 hxa).2
      have m3 := (tmod2 hyb).1
      have m4 := (tmod2 hyb).2
      clear ha hb haL hbL hg hw hxa hyb
      by_cases hae : a % 2 = 0
      · rw [hae] at m1 m2
        by_cases hbe : b % 2 = 0
        · rw [hbe] at m3 m4
          go_wp2_with fail
          refine (shr1_any _ _ _ a _ HA.out (by omega)).mono ?_
          rintro e w1 ⟨so, sl, sc, rfl, hs1, hs2, hn1, hb1'⟩
          have HA1 := Lib.hid hn1
          have HB1 := Lib.hid (HB.out.keep hb1')
          have HW1 := Lib.hid (below_then HW.out hb1')
          clear hn1 hb1'
          go_wp2_with fail
          refine (shr1_any _ _ _ b _ HB1.out (by omega)).mono ?_
          rintro e w2 ⟨to_, tl, tc, rfl, ht1, ht2, hn2, hb2'⟩
          have HA2 := Lib.hid (HA1.out.keep hb2')
          have HB2 := Lib.hid hn2
          have HW2 := Lib.hid (below_then HW1.out hb2')
          clear hn2 hb2'
          go_wp2_with fail
          go_roundw
          case rel =>
            refine ⟨k + 1, a / 2, b / 2, by go_num, by omega, by omega, so, to_, sl, sc, tl, tc, rfl, rfl, hs1, hs2, ht1, ht2, HA2.out, HB2.out, ?_, ?_, by omega, ?_, HW2.out⟩
            · exact Nat.lt_of_le_of_lt (Nat.div_le_self _ _) HAL.out
            · exact Nat.lt_of_le_of_lt (Nat.div_le_self _ _) HBL.out
            · rw [Nat.pow_succ, Nat.mul_assoc, bg_both hae hbe]; exact HG.out
          case measure => rw [readN16_of HA2.out, readN16_of HA.out]; omega
        · have hbo : b % 2 = 1 := by omega
          rw [hbo] at m3 m4
          go_wp2_with fail
          go_meet
          case rel => exact ⟨k, a, b, rfl, hk, fun h => hbe h.2, _, _, la, ca, lb, cb, rfl, rfl, hac, hacm, hbc, hbcm, HA.out, HB.out, HAL.out, HBL.out, hb1, HG.out, HW.out⟩
      · have hao : a % 2 = 1 := by omega
        rw [hao] at m1 m2
        go_wp2_with fail
        go_meet
        case rel => exact ⟨k, a, b, rfl, hk, fun h => hae h.1, _, _, la, ca, lb, cb, rfl, rfl, hac, hacm, hbc, hbcm, HA.out, HB.out, HAL.out, HBL.out, hb1, HG.out, HW.out⟩
  case rest =>
    obtain ⟨k, a0, b0, rfl, hk, hnb, hs⟩ := hcut
    have HS2 : Hid (∃ a b, ¬ (a % 2 = 0 ∧ b % 2 = 0) ∧ GcdS L G k W u0 u1 wc a b) := ⟨a0, b0, hnb, hs⟩
    clear hnb hs HS b1 b2
    go_wp2_with fail
    go_loopw [0, 1] (fun av bv wr => ∃ a b, ¬ (a % 2 = 0 ∧ b % 2 = 0) ∧ GcdS L G k W av bv wr a b) (fun av bv wr => readN16 wr av + readN16 wr bv)
    case atStart => exact HS2.out
    case round =>
      clear HS2
      obtain ⟨a, b, hnb, ao, bo, la, ca, lb, cb, rfl, rfl, hac, hacm, hbc, hbcm, ha, hb, haL, hbL, hb1, hg, hw⟩ := hrel
      obtain ⟨w0, hw0⟩ : ∃ w0, w0 = wr := ⟨_, rfl⟩
      subst hw0
      have hla : la ≤ 10000000 := Nat.le_trans (ha.len_le haL) hL
      have hlb : lb ≤ 10000000 := Nat.le_trans (hb.len_le hbL) hL
      have HA := Lib.hid ha
      have HB := Lib.hid hb
      have HAL := Lib.hid haL
      have HBL := Lib.hid hbL
      have HG := Lib.hid hg
      have HW := Lib.hid hw
      clear ha hb haL hbL hg hw
      by_cases hla0 : la = 0
      · have ha0 : a = 0 := HA.out.zero.2 hla0
        have t1 : ¬ (0 : Int) < (la : Int) := by omega
        have HR : Hid (2 ^ k * b = G) := by show _ = _; rw [← HG.out, ha0, Nat.gcd_zero_left]
        clear ha0 hla0
        go_wp2_with fail
        refine (shl_any _ _ _ b k _ _ HB.out rfl (by omega) (by omega)).mono ?_
        rintro e w1 ⟨so, sl, sc, rfl, hs1, hs2, hn1, hb1'⟩
        have HN := Lib.hid hn1
        have HW1 := Lib.hid (below_then HW.out hb1')
        clear hn1 hb1'
        go_wp2
        go_ret
        exact ⟨so, sl, sc, rfl, hs1, hs2, by rw [← HR.out]; exact HN.out, HW1.out⟩
      · have t1 : (0 : Int) < (la : Int) := by omega
        have t3 : decide (0 < la) = true := by simp; omega
        have ha1 : 0 < a := by
          rcases Nat.eq_zero_or_pos a with h | h
          · exact absurd (HA.out.zero.1 h) hla0
          · exact h
        have HST : Hid (Gcd3 a b w0 (.slice ao la ca) w0) := ⟨a, ao, la, ca, rfl, hac, hacm, HA.out, ha1, Nat.le_refl _, hnb, rfl, Below.refl _ _⟩
        clear hla0 hnb
        go_wp2_with fail
        go_loopw [0] (fun av wr => Gcd3 a b w0 av wr) (fun av wr => readN16 wr av)
        case atStart => exact HST.out
        case round =>
          clear HST
          obtain ⟨a', ao, la', ca', rfl, hac', hacm', ha', ha1', haa, hnb, hg', hw'⟩ := hrel
          have hla' : la' ≤ 10000000 := Nat.le_trans (ha'.len_le (Nat.lt_of_le_of_lt haa HAL.out)) hL
          obtain ⟨hla0, ab, aoff, x, rfl, ca0, hx, hxa⟩ := ha'.low ha1'
          have HA' := Lib.hid ha'
          have HG' := Lib.hid hg'
          have HW' := Lib.hid hw'
          have i1 : (0 : Int) < (la' : Int) := by omega
          have m1 := (tmod2 hxa).1
          have m2 := (tmod2 hxa).2
          clear ha' hg' hw' hxa
          by_cases hae : a' % 2 = 0
          · rw [hae] at m1 m2
            have hbo : ¬ b % 2 = 0 := fun h => hnb ⟨hae, h⟩
            go_wp2_with fail
            refine (shr1_any _ _ _ a' _ HA'.out (by omega)).mono ?_
            rintro e w1 ⟨so, sl, sc, rfl, hs1, hs2, hn1, hb1'⟩
            have HN := Lib.hid hn1
            have HW1 := Lib.hid (below_then HW'.out hb1')
            clear hn1 hb1'
            go_wp2_with fail
            go_roundw
            case rel => exact ⟨a' / 2, so, sl, sc, rfl, hs1, hs2, HN.out, by omega, by omega, fun h => hbo h.2, by rw [bg_left hae hbo]; exact HG'.out, HW1.out⟩
            case measure => rw [readN16_of HN.out, readN16_of HA'.out]; omega
          · have hao : a' % 2 = 1 := by omega
            rw [hao] at m1 m2
            clear hnb
            obtain ⟨w1, hw1⟩ : ∃ w1, w1 = wr := ⟨_, rfl⟩
            subst hw1
            have HST : Hid (Gcd3 b a' w1 (.slice bo lb cb) w1) := ⟨b, bo, lb, cb, rfl, hbc, hbcm, HB.out.keep HW'.out, hb1, Nat.le_refl _, fun h => hae h.2, rfl, Below.refl _ _⟩
            go_wp2_with fail
            go_loopw [1] (fun bv wr => Gcd3 b a' w1 bv wr) (fun bv wr => readN16 wr bv)
            case atStart => exact HST.out
            case round =>
              clear HST
              obtain ⟨b', bo, lb', cb', rfl, hbc', hbcm', hb', hb1', hbb, _, hg2, hw2⟩ := hrel
              have hlb' : lb' ≤ 10000000 := Nat.le_trans (hb'.len_le (Nat.lt_of_le_of_lt hbb HBL.out)) hL
              obtain ⟨hlb0, bb, boff, y, rfl, cb0, hy, hyb⟩ := hb'.low hb1'
              have HB' := Lib.hid hb'
              have HG2 := Lib.hid hg2
              have HW2 := Lib.hid hw2
              have i2 : (0 : Int) < (lb' : Int) := by omega
              have m3 := (tmod2 hyb).1
              have m4 := (tmod2 hyb).2
              clear hb' hg2 hw2 hyb
              by_cases hbe : b' % 2 = 0
              · rw [hbe] at m3 m4
                go_wp2_with fail
                refine (shr1_any _ _ _ b' _ HB'.out (by omega)).mono ?_
                rintro e w3 ⟨so, sl, sc, rfl, hs1, hs2, hn1, hb3⟩
                have HN := Lib.hid hn1
                have HW3 := Lib.hid (below_then HW2.out hb3)
                clear hn1 hb3
                go_wp2_with fail
                go_roundw
                case rel => exact ⟨b' / 2, so, sl, sc, rfl, hs1, hs2, HN.out, by omega, by omega, fun h => hae h.2, by rw [bg_left hbe hae]; exact HG2.out, HW3.out⟩
                case measure => rw [readN16_of HN.out, readN16_of HB'.out]; omega
              · have hbo : b' % 2 = 1 := by omega
                rw [hbo] at m3 m4
                have HA2 := Lib.hid (HA'.out.keep HW2.out)
                have HGG : Hid (2 ^ k * Nat.gcd a' b' = G) := by show _ = _; rw [Nat.gcd_comm a' b', HG2.out, Nat.gcd_comm b a', HG'.out]; exact HG.out
                have HWW := Lib.hid (below_then (below_then HW.out HW'.out) HW2.out)
                have HKA := Lib.hid (readN16_of (cap := ca) HA.out)
                have HKB := Lib.hid (readN16_of (cap := cb) HB.out)
                go_wp2_with fail
                refine (cmp16_any _ _ _ _ _ _ a' b' _ HA2.out HB'.out (by omega) (by omega)).mono ?_
                rintro e w3 ⟨rfl, hd3⟩
                have HA3 := Lib.hid (HA2.out.keep hd3.below)
                have HB3 := Lib.hid (HB'.out.keep hd3.below)
                have HW3 := Lib.hid (HWW.out.trans hd3.below)
                clear hd3
                obtain ⟨cc, hcc⟩ : ∃ c, c = cmpN a' b' := ⟨_, rfl⟩
                rw [← hcc]
                by_cases hlt : a' < b'
                · have hc0 : ¬ 0 ≤ cc := by
                    rw [hcc]; unfold cmpN; rw [if_pos hlt]; decide
                  clear hcc
                  go_wp2_with fail
                  refine (sub16_new _ _ _ _ _ _ b' a' _ HB3.out HA3.out (by omega) (by omega)).mono ?_
                  rintro e w4 ⟨so, sl, sc, rfl, hs1, hs2, hn1, hb4, _⟩
                  have HN := Lib.hid hn1
                  have HA4 := Lib.hid (HA3.out.keep hb4)
                  have HW4 := Lib.hid (below_then HW3.out hb4)
                  clear hn1 hb4
                  go_wp2_with fail
                  go_roundw
                  case rel =>
                    refine ⟨a', b' - a', fun h => hae h.1, _, so, la', ca', sl, sc, rfl, rfl, hac', hacm', hs1, hs2, HA4.out, HN.out, Nat.lt_of_le_of_lt haa HAL.out, Nat.lt_of_le_of_lt (Nat.le_trans (Nat.sub_le _ _) hbb) HBL.out, by omega, ?_, HW4.out⟩
                    rw [bg_sub_right (by omega)]; exact HGG.out
                  case measure => rw [readN16_of HA4.out, readN16_of HN.out, HKA.out, HKB.out]; omega
                · have hc0 : 0 ≤ cc := by
                    rw [hcc]; unfold cmpN; rw [if_neg hlt]; split <;> decide
                  clear hcc
                  go_wp2_with fail
                  refine (sub16_new _ _ _ _ _ _ a' b' _ HA3.out HB3.out (by omega) (by omega)).mono ?_
                  rintro e w4 ⟨so, sl, sc, rfl, hs1, hs2, hn1, hb4, _⟩
                  have HN := Lib.hid hn1
                  have HB4 := Lib.hid (HB3.out.keep hb4)
                  have HW4 := Lib.hid (below_then HW3.out hb4)
                  clear hn1 hb4
                  go_wp2_with fail
                  go_roundw
                  case rel =>
                    refine ⟨a' - b', b', fun h => hbe h.2, so, _, sl, sc, lb', cb', rfl, rfl, hs1, hs2, hbc', hbcm', HN.out, HB4.out, Nat.lt_of_le_of_lt (Nat.le_trans (Nat.sub_le _ _) haa) HAL.out, Nat.lt_of_le_of_lt hbb HBL.out, hb1', ?_, HW4.out⟩
                    rw [bg_sub_left (by omega)]; exact HGG.out
                  case measure => rw [readN16_of HB4.out, readN16_of HN.out, HKA.out, HKB.out]; omega
end Go.Proofs.Ytbihgllfllkkaaa

/- Gcd of the program and of the specification. -/
set_option linter.unusedVariables false
namespace Go.Proofs.Ytbihgllfllkkaaa
open Go.RowKit Go.Proofs

theorem fits_gcd {x y : Int} (hx : Fits x) (hy : Fits y) : Fits ((Int.gcd x y : Nat) : Int) := by
  unfold Fits at *
  rw [blen_le] at *
  rw [Int.natAbs_natCast]
  by_cases h : x = 0
  · rw [h, Int.gcd_zero_left]; exact hy
  · exact Nat.lt_of_le_of_lt (Nat.le_of_dvd (by omega) (Nat.gcd_dvd_left _ _)) hx

set_option maxHeartbeats 2000000 in
theorem gcdI_any (na nb : Bool) (ao bo : Option Addr) (la lb ca cb : Nat) (x y : Int) (W : World) (ha : Z32 W na ao la x) (hb : Z32 W nb bo lb y) (hla : la ≤ 1000000000) (hlb : lb ≤ 1000000000) :
    Calls Try.prog 17 #[.agg #[.bool na, .slice ao la ca], .agg #[.bool nb, .slice bo lb cb]] W (OutI W ((Int.gcd x y : Nat) : Int)) := by
  have hf : Fr W (((W.alloc (.cells #[.bool na, .slice ao la ca] 31)).alloc (.cells #[.bool nb, .slice bo lb cb] 31)).alloc (.cells #[.bool false, .slice none 0 0] 31)) [(31, #[.bool na, .slice ao la ca]), (31, #[.bool nb, .slice bo lb cb]), (31, #[.bool false, .slice none 0 0])] := (((Fr.nil W).alloc rfl _ _).alloc (by simp) _ _).alloc (by simp) _ _
  obtain ⟨m, hm, rfl, hpm⟩ := ha
  obtain ⟨n, hn, rfl, hpn⟩ := hb
  have HGE : Hid (Int.gcd (sgn na m) (sgn nb n) = Nat.gcd m n) := by show _ = _; unfold Int.gcd; rw [sgn_natAbs, sgn_natAbs]
  rw [HGE.out]
  have HM := Lib.hid hm
  have HN := Lib.hid hn
  clear hm hn hpm hpn
  go_enter Try.func17, Try.ntmps17
  go_wp2_with fail
  obtain ⟨W3, hW3⟩ : ∃ W3, W3 = (((W.alloc (.cells #[.bool na, .slice ao la ca] 31)).alloc (.cells #[.bool nb, .slice bo lb cb] 31)).alloc (.cells #[.bool false, .slice none 0 0] 31)) := ⟨_, rfl⟩
  rw [← hW3] at hf ⊢
  clear hW3
  have HF := Lib.hid hf
  clear hf
  refine (gcd_ok m n _ _ _ _ _ _ _ (HM.out.keep HF.out.below) (HN.out.keep HF.out.below) hla hlb).mono ?_
  rintro e w1 ⟨go, gl, gc, rfl, hg1, hb1⟩
  have HF1 := Lib.hid (HF.out.later hb1)
  have HG1 := Lib.hid hg1
  clear hg1 hb1
  go_wp2_with fail
  refine (signed_any _ _ _ _ _ _ HG1.out).mono ?_
  rintro e w2 ⟨neg, uo, ul, uc, rfl, hz2, hb2⟩
  have HF2 := Lib.hid (HF1.out.later hb2)
  have HZ2 := Lib.hid hz2
  clear hz2 hb2
  have g0 : w2.cell? ⟨W.heap.size + 1 + 1, 0, none⟩ = some (.bool false) := HF2.out.cell 2 0 rfl rfl
  have g1 : w2.cell? ⟨W.heap.size + 1 + 1, 1, none⟩ = some (.slice none 0 0) := HF2.out.cell 2 1 rfl rfl
  have g2 : w2.frozen? ⟨W.heap.size + 1 + 1, 0, none⟩ = false := HF2.out.frozen 2 0 rfl
  have g3 : w2.frozen? ⟨W.heap.size + 1 + 1, 1, none⟩ = false := HF2.out.frozen 2 1 rfl
  go_wp2
  obtain ⟨e0, e1, hz, hbel, _⟩ := HF2.out.finI (cap := uc) 2 rfl HZ2.out
  exact bodyPost_ret (v := .agg #[.bool neg, .slice uo ul uc]) (by simp [results, Try.results17, go_sem, e0, e1]) rfl ⟨neg, uo, ul, uc, rfl, hz, hbel⟩

set_option maxHeartbeats 2000000 in
theorem gcdZ16_any (na nb : Bool) (ao bo : Option Addr) (la lb ca cb : Nat) (x y : Int) (W : World) (ha : Z16 W na ao la x) (hb : Z16 W nb bo lb y) (hla : la ≤ 1000000) (hlb : lb ≤ 1000000) (hac : la ≤ ca) (hacm : ca ≤ 9223372036854775807) (hbc : lb ≤ cb) (hbcm : cb ≤ 9223372036854775807) :
    Calls Try.prog 15 #[.agg #[.bool na, .slice ao la ca], .agg #[.bool nb, .slice bo lb cb]] W (OutJ W ((Int.gcd x y : Nat) : Int)) := by
  have hf : Fr W (((W.alloc (.cells #[.bool na, .slice ao la ca] 27)).alloc (.cells #[.bool nb, .slice bo lb cb] 27)).alloc (.cells #[.bool false, .slice none 0 0] 27)) [(27, #[.bool na, .slice ao la ca]), (27, #[.bool nb, .slice bo lb cb]), (27, #[.bool false, .slice none 0 0])] := (((Fr.nil W).alloc rfl _ _).alloc (by simp) _ _).alloc (by simp) _ _
  obtain ⟨m, hm, rfl, hpm⟩ := ha
  obtain ⟨n, hn, rfl, hpn⟩ := hb
  have HGE : Hid (Int.gcd (sgn na m) (sgn nb n) = Nat.gcd m n) := by show _ = _; unfold Int.gcd; rw [sgn_natAbs, sgn_natAbs]
  rw [HGE.out]
  have HM := Lib.hid hm
  have HN := Lib.hid hn
  clear hm hn hpm hpn
  go_enter Try.func15, Try.ntmps15
  go_wp2_with fail
  obtain ⟨W3, hW3⟩ : ∃ W3, W3 = (((W.alloc (.cells #[.bool na, .slice ao la ca] 27)).alloc (.cells #[.bool nb, .slice bo lb cb] 27)).alloc (.cells #[.bool false, .slice none 0 0] 27)) := ⟨_, rfl⟩
  rw [← hW3] at hf ⊢
  clear hW3
  have HF := Lib.hid hf
  clear hf
  refine (gcd16_any _ _ _ _ _ _ m n _ (HM.out.keep HF.out.below) (HN.out.keep HF.out.below) (by omega) (by omega) hac hacm hbc hbcm).mono ?_
  rintro e w1 ⟨go, gl, gc, rfl, hglc, hgcm, hg1, hb1⟩
  have HF1 := Lib.hid (HF.out.later hb1)
  have HG1 := Lib.hid hg1
  clear hg1 hb1
  go_wp2_with fail
  refine (made_any _ _ _ _ _ _ HG1.out hglc hgcm).mono ?_
  rintro e w2 ⟨neg, uo, ul, uc, rfl, huc, hum, hz2, hb2⟩
  have HF2 := Lib.hid (HF1.out.later hb2)
  have HZ2 := Lib.hid hz2
  clear hz2 hb2
  have g0 : w2.cell? ⟨W.heap.size + 1 + 1, 0, none⟩ = some (.bool false) := HF2.out.cell 2 0 rfl rfl
  have g1 : w2.cell? ⟨W.heap.size + 1 + 1, 1, none⟩ = some (.slice none 0 0) := HF2.out.cell 2 1 rfl rfl
  have g2 : w2.frozen? ⟨W.heap.size + 1 + 1, 0, none⟩ = false := HF2.out.frozen 2 0 rfl
  have g3 : w2.frozen? ⟨W.heap.size + 1 + 1, 1, none⟩ = false := HF2.out.frozen 2 1 rfl
  go_wp2
  obtain ⟨e0, e1, hz, hbel, _⟩ := HF2.out.finJ (cap := uc) 2 rfl HZ2.out
  exact bodyPost_ret (v := .agg #[.bool neg, .slice uo ul uc]) (by simp [results, Try.results15, go_sem, e0, e1]) rfl ⟨neg, uo, ul, uc, rfl, huc, hum, hz, hbel⟩
end Go.Proofs.Ytbihgllfllkkaaa
