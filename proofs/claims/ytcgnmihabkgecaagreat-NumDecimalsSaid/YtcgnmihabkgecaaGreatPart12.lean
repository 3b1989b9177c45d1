/- Part 12 of the contracts: RefY, GcdZ, RatA, RatB, TwoTwo, Nested, Fine, Ring, Whole2. -/
import Derived.Deep.CutRange
import Derived.Deep.CutBlock
import Derived.Test.YtcgnmihabkgecaaGreatPart11

/- The specification's gcd. -/
set_option linter.unusedVariables false
namespace Go.Proofs.YtcgnmihabkgecaaGreat
open Go.RowKit

theorem par16 {xs : List Nat} (hd : Dig B16 xs) : xs[0]?.getD 0 % 2 = val B16 xs % 2 := by
  have := bit_of hd 0
  simpa using this.symm

theorem N16.low {w : World} {ao : Option Addr} {la a : Nat} (h : N16 w ao la a) (ha : 0 < a) : 0 < la ∧ ∃ b off x, ao = some ⟨b, off, none⟩ ∧ w.cell? ⟨b, off, none⟩ = some (.int .i64 ((x : Nat) : Int)) ∧ x < 65536 ∧ x % 2 = a % 2 := by
  have hla : 0 < la := by
    rcases Nat.eq_zero_or_pos la with h0 | h0
    · have := h.zero.2 h0; omega
    · exact h0
  obtain ⟨xs, ⟨hx, b, off, h0, hc⟩, hd, ht, hv⟩ := h
  refine ⟨hla, b, off, xs[0]?.getD 0, h0 hla, hc 0 hla, ?_, ?_⟩
  · have := hd.get B16_pos 0; rwa [B16_eq] at this
  · rw [par16 hd, hv]

def GcdS (L G k : Nat) (W : World) (av bv : Value) (wr : World) (a b : Nat) : Prop :=
  ∃ (ao bo : Option Addr) (la ca lb cb : Nat), av = .slice ao la ca ∧ bv = .slice bo lb cb ∧ la ≤ ca ∧ ca ≤ 9223372036854775807 ∧ lb ≤ cb ∧ cb ≤ 9223372036854775807 ∧ N16 wr ao la a ∧ N16 wr bo lb b ∧ a < B16 ^ L ∧ b < B16 ^ L ∧ 0 < b ∧ 2 ^ k * Nat.gcd a b = G ∧ Below W.heap.size W wr

def Gcd1 (L G : Nat) (W : World) (av bv kv : Value) (wr : World) : Prop :=
  ∃ k a b, kv = .int .i64 ((k : Nat) : Int) ∧ k ≤ 16 * L ∧ 0 < a ∧ GcdS L G k W av bv wr a b

def Gcd2 (L G : Nat) (W : World) (av bv kv : Value) (wr : World) : Prop :=
  ∃ k a b, kv = .int .i64 ((k : Nat) : Int) ∧ k ≤ 16 * L ∧ ¬ (a % 2 = 0 ∧ b % 2 = 0) ∧ GcdS L G k W av bv wr a b

/-- the inner loops: a is halved until it is odd; b, which is odd or a is, stays -/
def Gcd3 (a b : Nat) (w0 : World) (av : Value) (wr : World) : Prop :=
  ∃ (a' : Nat) (ao : Option Addr) (la ca : Nat), av = .slice ao la ca ∧ la ≤ ca ∧ ca ≤ 9223372036854775807 ∧ N16 wr ao la a' ∧ 0 < a' ∧ a' ≤ a ∧ ¬ (a' % 2 = 0 ∧ b % 2 = 0) ∧ Nat.gcd a' b = Nat.gcd a b ∧ Below w0.heap.size w0 wr

theorem gcd_k {L G k a b : Nat} (hG : G < 2 ^ (16 * L)) (hb : 0 < b) (h : 2 ^ k * Nat.gcd a b = G) : k < 16 * L := by
  have h1 : 0 < Nat.gcd a b := Nat.gcd_pos_of_pos_right _ hb
  have h2 : 2 ^ k * 1 ≤ 2 ^ k * Nat.gcd a b := Nat.mul_le_mul_left _ h1
  exact (Nat.pow_lt_pow_iff_right (a := 2) (by decide)).1 (by omega)

theorem tmod2 {x a : Nat} (h : x % 2 = a % 2) : ((x : Int).tmod 2 = ((a % 2 : Nat) : Int)) ∧ ((x : Int) % 2 = ((a % 2 : Nat) : Int)) := by
  have h1 : (x : Int).tmod 2 = (x : Int) % 2 := Int.tmod_eq_emod_of_nonneg (Int.natCast_nonneg _)
  constructor
  · rw [h1]; omega
  · omega

set_option maxRecDepth 8000 in
set_option maxHeartbeats 4000000 in
theorem gcd16_any (ao bo : Option Addr) (la lb ca cb A B : Nat) (W : World) (ha : N16 W ao la A) (hb : N16 W bo lb B) (hla : la ≤ 10000000) (hlb : lb ≤ 10000000) (hac : la ≤ ca) (hacm : ca ≤ 9223372036854775807) (hbc : lb ≤ cb) (hbcm : cb ≤ 9223372036854775807) :
    Calls Tryz.prog 85 #[.slice ao la ca, .slice bo lb cb] W (Out16 W (Nat.gcd A B)) := by
  by_cases hA0 : la = 0
  · have hA : A = 0 := ha.zero.2 hA0
    subst hA0 hA
    have HB := Lib.hid hb
    clear ha hb
    go_enter Tryz.func85, Tryz.ntmps85
    go_wp2
    go_ret
    exact ⟨bo, lb, cb, rfl, hbc, hbcm, by rw [Nat.gcd_zero_left]; exact HB.out, Below.refl _ _⟩
  by_cases hB0 : lb = 0
  · have hB : B = 0 := hb.zero.2 hB0
    have b2 : ((la : Int) == 0) = false := by simp; omega
    subst hB0 hB
    have HA := Lib.hid ha
    clear ha hb
    go_enter Tryz.func85, Tryz.ntmps85
    go_wp2
    go_ret
    exact ⟨ao, la, ca, rfl, hac, hacm, by rw [Nat.gcd_zero_right]; exact HA.out, Below.refl _ _⟩
  have hA1 : 0 < A := by
    rcases Nat.eq_zero_or_pos A with h | h
    · exact absurd (ha.zero.1 h) hA0
    · exact h
  have hB1 : 0 < B := by
    rcases Nat.eq_zero_or_pos B with h | h
    · exact absurd (hb.zero.1 h) hB0
    · exact h
  have b1 : ((la : Int) == 0) = false := by simp; omega
  have b2 : ((lb : Int) == 0) = false := by simp; omega
  obtain ⟨L, hLe⟩ : ∃ L, L = max la lb := ⟨_, rfl⟩
  have hL : L ≤ 10000000 := by omega
  have hAL : A < B16 ^ L := Nat.lt_of_lt_of_le ha.lt (Nat.pow_le_pow_right B16_pos (by omega))
  have hBL : B < B16 ^ L := Nat.lt_of_lt_of_le hb.lt (Nat.pow_le_pow_right B16_pos (by omega))
  obtain ⟨G, hG⟩ : ∃ G, G = Nat.gcd A B := ⟨_, rfl⟩
  have hGL : G < 2 ^ (16 * L) := by
    rw [hG, ← B16_pow]
    exact Nat.lt_of_le_of_lt (Nat.gcd_le_right A hB1) hBL
  rw [← hG]
  have HS : Hid (Gcd1 L G W (.slice ao la ca) (.slice bo lb cb) (.int .i64 0) W) :=
    ⟨0, A, B, rfl, Nat.zero_le _, hA1, ao, bo, la, ca, lb, cb, rfl, rfl, hac, hacm, hbc, hbcm, ha, hb, hAL, hBL, hB1, by rw [hG]; simp, Below.refl _ _⟩
  have HGL := Lib.hid hGL
  clear ha hb hAL hBL hG hGL hLe hA0 hB0 hA1 hB1
  go_enter Tryz.func85, Tryz.ntmps85
  go_upto_block 0 with fail
  go_cut [0, 1, 5] from 14 to 31 (fun av bv kv wx => Gcd2 L G W av bv kv wx)
  case first =>
    go_wp2_with fail
    go_loopw [0, 1, 5] (fun av bv kv wr => Gcd1 L G W av bv kv wr) (fun av bv kv wr => readN16 wr av)
    case atStart => exact HS.out
    case round =>
      obtain ⟨k, a, b, rfl, hk, ha1, ao, bo, la, ca, lb, cb, rfl, rfl, hac, hacm, hbc, hbcm, ha, hb, haL, hbL, hb1, hg, hw⟩ := hrel
      have hla : la ≤ 10000000 := Nat.le_trans (ha.len_le haL) hL
      have hlb : lb ≤ 10000000 := Nat.le_trans (hb.len_le hbL) hL
      obtain ⟨hla0, ab, aoff, x, rfl, ca0, hx, hxa⟩ := ha.low ha1
      obtain ⟨hlb0, bb, boff, y, rfl, cb0, hy, hyb⟩ := hb.low hb1
      have hkl := gcd_k HGL.out hb1 hg
      have HA := Lib.hid ha
      have HB := Lib.hid hb
      have HAL := Lib.hid haL
      have HBL := Lib.hid hbL
      have HG := Lib.hid hg
      have HW := Lib.hid hw
      have i1 : (0 : Int) < (la : Int) := by omega
      have i2 : (0 : Int) < (lb : Int) := by omega
      have m1 := (tmod2 hxa).1
      have m2 := (tmod2 hxa).2
      have m3 := (tmod2 hyb).1
      have m4 := (tmod2 hyb).2
      clear ha hb haL hbL hg hw hxa hyb
      by_cases hae : a % 2 = 0
      · rw [hae] at m1 m2
        by_cases hbe : b % 2 = 0
        · rw [hbe] at m3 m4
          go_wp2_with fail
          refine (shr1_any _ _ _ a _ HA.out (by omega)).mono ?_
          rintro e w1 ⟨so, sl, sc, rfl, hs1, hs2, hn1, hb1'⟩
          have HA1 := Lib.hid hn1
          have HB1 := Lib.hid (HB.out.keep hb1')
          have HW1 := Lib.hid (below_then HW.out hb1')
          clear hn1 hb1'
          go_wp2_with fail
          refine (shr1_any _ _ _ b _ HB1.out (by omega)).mono ?_
          rintro e w2 ⟨to_, tl, tc, rfl, ht1, ht2, hn2, hb2'⟩
          have HA2 := Lib.hid (HA1.out.keep hb2')
          have HB2 := Lib.hid hn2
          have HW2 := Lib.hid (below_then HW1.out hb2')
          clear hn2 hb2'
          go_wp2_with fail
          go_roundw
          case rel =>
            refine ⟨k + 1, a / 2, b / 2, by go_num, by omega, by omega, so, to_, sl, sc, tl, tc, rfl, rfl, hs1, hs2, ht1, ht2, HA2.out, HB2.out, ?_, ?_, by omega, ?_, HW2.out⟩
            · exact Nat.lt_of_le_of_lt (Nat.div_le_self _ _) HAL.out
            · exact Nat.lt_of_le_of_lt (Nat.div_le_self _ _) HBL.out
            · rw [Nat.pow_succ, Nat.mul_assoc, bg_both hae hbe]; exact HG.out
          case measure => rw [readN16_of HA2.out, readN16_of HA.out]; omega
        · have hbo : b % 2 = 1 := by omega
          rw [hbo] at m3 m4
          go_wp2_with fail
          go_meet
          case rel => exact ⟨k, a, b, rfl, hk, fun h => hbe h.2, _, _, la, ca, lb, cb, rfl, rfl, hac, hacm, hbc, hbcm, HA.out, HB.out, HAL.out, HBL.out, hb1, HG.out, HW.out⟩
      · have hao : a % 2 = 1 := by omega
        rw [hao] at m1 m2
        go_wp2_with fail
        go_meet
        case rel => exact ⟨k, a, b, rfl, hk, fun h => hae h.1, _, _, la, ca, lb, cb, rfl, rfl, hac, hacm, hbc, hbcm, HA.out, HB.out, HAL.out, HBL.out, hb1, HG.out, HW.out⟩
  case rest =>
    obtain ⟨k, a0, b0, rfl, hk, hnb, hs⟩ := hcut
    have HS2 : Hid (∃ a b, ¬ (a % 2 = 0 ∧ b % 2 = 0) ∧ GcdS L G k W u0 u1 wc a b) := ⟨a0, b0, hnb, hs⟩
    clear hnb hs HS b1 b2
    go_wp2_with fail
    go_loopw [0, 1] (fun av bv wr => ∃ a b, ¬ (a % 2 = 0 ∧ b % 2 = 0) ∧ GcdS L G k W av bv wr a b) (fun av bv wr => readN16 wr av + readN16 wr bv)
    case atStart => exact HS2.out
    case round =>
      clear HS2
      obtain ⟨a, b, hnb, ao, bo, la, ca, lb, cb, rfl, rfl, hac, hacm, hbc, hbcm, ha, hb, haL, hbL, hb1, hg, hw⟩ := hrel
      obtain ⟨w0, hw0⟩ : ∃ w0, w0 = wr := ⟨_, rfl⟩
      subst hw0
      have hla : la ≤ 10000000 := Nat.le_trans (ha.len_le haL) hL
      have hlb : lb ≤ 10000000 := Nat.le_trans (hb.len_le hbL) hL
      have HA := Lib.hid ha
      have HB := Lib.hid hb
      have HAL := Lib.hid haL
      have HBL := Lib.hid hbL
      have HG := Lib.hid hg
      have HW := Lib.hid hw
      clear ha hb haL hbL hg hw
      by_cases hla0 : la = 0
      · have ha0 : a = 0 := HA.out.zero.2 hla0
        have t1 : ¬ (0 : Int) < (la : Int) := by omega
        have HR : Hid (2 ^ k * b = G) := by show _ = _; rw [← HG.out, ha0, Nat.gcd_zero_left]
        clear ha0 hla0
        go_wp2_with fail
        refine (shl_any _ _ _ b k _ _ HB.out rfl (by omega) (by omega)).mono ?_
        rintro e w1 ⟨so, sl, sc, rfl, hs1, hs2, hn1, hb1'⟩
        have HN := Lib.hid hn1
        have HW1 := Lib.hid (below_then HW.out hb1')
        clear hn1 hb1'
        go_wp2
        go_ret
        exact ⟨so, sl, sc, rfl, hs1, hs2, by rw [← HR.out]; exact HN.out, HW1.out⟩
      · have t1 : (0 : Int) < (la : Int) := by omega
        have t3 : decide (0 < la) = true := by simp; omega
        have ha1 : 0 < a := by
          rcases Nat.eq_zero_or_pos a with h | h
          · exact absurd (HA.out.zero.1 h) hla0
          · exact h
        have HST : Hid (Gcd3 a b w0 (.slice ao la ca) w0) := ⟨a, ao, la, ca, rfl, hac, hacm, HA.out, ha1, Nat.le_refl _, hnb, rfl, Below.refl _ _⟩
        clear hla0 hnb
        go_wp2_with fail
        go_loopw [0] (fun av wr => Gcd3 a b w0 av wr) (fun av wr => readN16 wr av)
        case atStart => exact HST.out
        case round =>
          clear HST
          obtain ⟨a', ao, la', ca', rfl, hac', hacm', ha', ha1', haa, hnb, hg', hw'⟩ := hrel
          have hla' : la' ≤ 10000000 := Nat.le_trans (ha'.len_le (Nat.lt_of_le_of_lt haa HAL.out)) hL
          obtain ⟨hla0, ab, aoff, x, rfl, ca0, hx, hxa⟩ := ha'.low ha1'
          have HA' := Lib.hid ha'
          have HG' := Lib.hid hg'
          have HW' := Lib.hid hw'
          have i1 : (0 : Int) < (la' : Int) := by omega
          have m1 := (tmod2 hxa).1
          have m2 := (tmod2 hxa).2
          clear ha' hg' hw' hxa
          by_cases hae : a' % 2 = 0
          · rw [hae] at m1 m2
            have hbo : ¬ b % 2 = 0 := fun h => hnb ⟨hae, h⟩
            go_wp2_with fail
            refine (shr1_any _ _ _ a' _ HA'.out (by omega)).mono ?_
            rintro e w1 ⟨so, sl, sc, rfl, hs1, hs2, hn1, hb1'⟩
            have HN := Lib.hid hn1
            have HW1 := Lib.hid (below_then HW'.out hb1')
            clear hn1 hb1'
            go_wp2_with fail
            go_roundw
            case rel => exact ⟨a' / 2, so, sl, sc, rfl, hs1, hs2, HN.out, by omega, by omega, fun h => hbo h.2, by rw [bg_left hae hbo]; exact HG'.out, HW1.out⟩
            case measure => rw [readN16_of HN.out, readN16_of HA'.out]; omega
          · have hao : a' % 2 = 1 := by omega
            rw [hao] at m1 m2
            clear hnb
            obtain ⟨w1, hw1⟩ : ∃ w1, w1 = wr := ⟨_, rfl⟩
            subst hw1
            have HST : Hid (Gcd3 b a' w1 (.slice bo lb cb) w1) := ⟨b, bo, lb, cb, rfl, hbc, hbcm, HB.out.keep HW'.out, hb1, Nat.le_refl _, fun h => hae h.2, rfl, Below.refl _ _⟩
            go_wp2_with fail
            go_loopw [1] (fun bv wr => Gcd3 b a' w1 bv wr) (fun bv wr => readN16 wr bv)
            case atStart => exact HST.out
            case round =>
              clear HST
              obtain ⟨b', bo, lb', cb', rfl, hbc', hbcm', hb', hb1', hbb, _, hg2, hw2⟩ := hrel
              have hlb' : lb' ≤ 10000000 := Nat.le_trans (hb'.len_le (Nat.lt_of_le_of_lt hbb HBL.out)) hL
              obtain ⟨hlb0, bb, boff, y, rfl, cb0, hy, hyb⟩ := hb'.low hb1'
              have HB' := Lib.hid hb'
              have HG2 := Lib.hid hg2
              have HW2 := Lib.hid hw2
              have i2 : (0 : Int) < (lb' : Int) := by omega
              have m3 := (tmod2 hyb).1
              have m4 := (tmod2 hyb).2
              clear hb' hg2 hw2 hyb
              by_cases hbe : b' % 2 = 0
              · rw [hbe] at m3 m4
                go_wp2_with fail
                refine (shr1_any _ _ _ b' _ HB'.out (by omega)).mono ?_
                rintro e w3 ⟨so, sl, sc, rfl, hs1, hs2, hn1, hb3⟩
                have HN := Lib.hid hn1
                have HW3 := Lib.hid (below_then HW2.out hb3)
                clear hn1 hb3
                go_wp2_with fail
                go_roundw
                case rel => exact ⟨b' / 2, so, sl, sc, rfl, hs1, hs2, HN.out, by omega, by omega, fun h => hae h.2, by rw [bg_left hbe hae]; exact HG2.out, HW3.out⟩
                case measure => rw [readN16_of HN.out, readN16_of HB'.out]; omega
              · have hbo : b' % 2 = 1 := by omega
                rw [hbo] at m3 m4
                have HA2 := Lib.hid (HA'.out.keep HW2.out)
                have HGG : Hid (2 ^ k * Nat.gcd a' b' = G) := by show _ = _; rw [Nat.gcd_comm a' b', HG2.out, Nat.gcd_comm b a', HG'.out]; exact HG.out
                have HWW := Lib.hid (below_then (below_then HW.out HW'.out) HW2.out)
                have HKA := Lib.hid (readN16_of (cap := ca) HA.out)
                have HKB := Lib.hid (readN16_of (cap := cb) HB.out)
                go_wp2_with fail
                refine (cmp16_any _ _ _ _ _ _ a' b' _ HA2.out HB'.out (by omega) (by omega)).mono ?_
                rintro e w3 ⟨rfl, hd3⟩
                have HA3 := Lib.hid (HA2.out.keep hd3.below)
                have HB3 := Lib.hid (HB'.out.keep hd3.below)
                have HW3 := Lib.hid (HWW.out.trans hd3.below)
                clear hd3
                obtain ⟨cc, hcc⟩ : ∃ c, c = cmpN a' b' := ⟨_, rfl⟩
                rw [← hcc]
                by_cases hlt : a' < b'
                · have hc0 : ¬ 0 ≤ cc := by
                    rw [hcc]; unfold cmpN; rw [if_pos hlt]; decide
                  clear hcc
                  go_wp2_with fail
                  refine (sub16_new _ _ _ _ _ _ b' a' _ HB3.out HA3.out (by omega) (by omega)).mono ?_
                  rintro e w4 ⟨so, sl, sc, rfl, hs1, hs2, hn1, hb4, _⟩
                  have HN := Lib.hid hn1
                  have HA4 := Lib.hid (HA3.out.keep hb4)
                  have HW4 := Lib.hid (below_then HW3.out hb4)
                  clear hn1 hb4
                  go_wp2_with fail
                  go_roundw
                  case rel =>
                    refine ⟨a', b' - a', fun h => hae h.1, _, so, la', ca', sl, sc, rfl, rfl, hac', hacm', hs1, hs2, HA4.out, HN.out, Nat.lt_of_le_of_lt haa HAL.out, Nat.lt_of_le_of_lt (Nat.le_trans (Nat.sub_le _ _) hbb) HBL.out, by omega, ?_, HW4.out⟩
                    rw [bg_sub_right (by omega)]; exact HGG.out
                  case measure => rw [readN16_of HA4.out, readN16_of HN.out, HKA.out, HKB.out]; omega
                · have hc0 : 0 ≤ cc := by
                    rw [hcc]; unfold cmpN; rw [if_neg hlt]; split <;> decide
                  clear hcc
                  go_wp2_with fail
                  refine (sub16_new _ _ _ _ _ _ a' b' _ HA3.out HB3.out (by omega) (by omega)).mono ?_
                  rintro e w4 ⟨so, sl, sc, rfl, hs1, hs2, hn1, hb4, _⟩
                  have HN := Lib.hid hn1
                  have HB4 := Lib.hid (HB3.out.keep hb4)
                  have HW4 := Lib.hid (below_then HW3.out hb4)
                  clear hn1 hb4
                  go_wp2_with fail
                  go_roundw
                  case rel =>
                    refine ⟨a' - b', b', fun h => hbe h.2, so, _, sl, sc, lb', cb', rfl, rfl, hs1, hs2, hbc', hbcm', HN.out, HB4.out, Nat.lt_of_le_of_lt (Nat.le_trans (Nat.sub_le _ _) haa) HAL.out, Nat.lt_of_le_of_lt hbb HBL.out, hb1', ?_, HW4.out⟩
                    rw [bg_sub_left (by omega)]; exact HGG.out
                  case measure => rw [readN16_of HB4.out, readN16_of HN.out, HKA.out, HKB.out]; omega
end Go.Proofs.YtcgnmihabkgecaaGreat

/- Gcd of the program and of the specification. -/
set_option linter.unusedVariables false
namespace Go.Proofs.YtcgnmihabkgecaaGreat
open Go.RowKit Go.Proofs

theorem fits_gcd {x y : Int} (hx : Fits x) (hy : Fits y) : Fits ((Int.gcd x y : Nat) : Int) := by
  unfold Fits at *
  rw [blen_le] at *
  rw [Int.natAbs_natCast]
  by_cases h : x = 0
  · rw [h, Int.gcd_zero_left]; exact hy
  · exact Nat.lt_of_le_of_lt (Nat.le_of_dvd (by omega) (Nat.gcd_dvd_left _ _)) hx

set_option maxHeartbeats 2000000 in
theorem gcdZ16_any (na nb : Bool) (ao bo : Option Addr) (la lb ca cb : Nat) (x y : Int) (W : World) (ha : Z16 W na ao la x) (hb : Z16 W nb bo lb y) (hla : la ≤ 1000000) (hlb : lb ≤ 1000000) (hac : la ≤ ca) (hacm : ca ≤ 9223372036854775807) (hbc : lb ≤ cb) (hbcm : cb ≤ 9223372036854775807) :
    Calls Tryz.prog 38 #[.agg #[.bool na, .slice ao la ca], .agg #[.bool nb, .slice bo lb cb]] W (OutJ W ((Int.gcd x y : Nat) : Int)) := by
  have hf : Fr W (((W.alloc (.cells #[.bool na, .slice ao la ca] 33)).alloc (.cells #[.bool nb, .slice bo lb cb] 33)).alloc (.cells #[.bool false, .slice none 0 0] 33)) [(33, #[.bool na, .slice ao la ca]), (33, #[.bool nb, .slice bo lb cb]), (33, #[.bool false, .slice none 0 0])] := (((Fr.nil W).alloc rfl _ _).alloc (by simp) _ _).alloc (by simp) _ _
  obtain ⟨m, hm, rfl, hpm⟩ := ha
  obtain ⟨n, hn, rfl, hpn⟩ := hb
  have HGE : Hid (Int.gcd (sgn na m) (sgn nb n) = Nat.gcd m n) := by show _ = _; unfold Int.gcd; rw [sgn_natAbs, sgn_natAbs]
  rw [HGE.out]
  have HM := Lib.hid hm
  have HN := Lib.hid hn
  clear hm hn hpm hpn
  go_enter Tryz.func38, Tryz.ntmps38
  go_wp2_with fail
  obtain ⟨W3, hW3⟩ : ∃ W3, W3 = (((W.alloc (.cells #[.bool na, .slice ao la ca] 33)).alloc (.cells #[.bool nb, .slice bo lb cb] 33)).alloc (.cells #[.bool false, .slice none 0 0] 33)) := ⟨_, rfl⟩
  rw [← hW3] at hf ⊢
  clear hW3
  have HF := Lib.hid hf
  clear hf
  refine (gcd16_any _ _ _ _ _ _ m n _ (HM.out.keep HF.out.below) (HN.out.keep HF.out.below) (by omega) (by omega) hac hacm hbc hbcm).mono ?_
  rintro e w1 ⟨go, gl, gc, rfl, hglc, hgcm, hg1, hb1⟩
  have HF1 := Lib.hid (HF.out.later hb1)
  have HG1 := Lib.hid hg1
  clear hg1 hb1
  go_wp2_with fail
  refine (made_any _ _ _ _ _ _ HG1.out hglc hgcm).mono ?_
  rintro e w2 ⟨neg, uo, ul, uc, rfl, huc, hum, hz2, hb2⟩
  have HF2 := Lib.hid (HF1.out.later hb2)
  have HZ2 := Lib.hid hz2
  clear hz2 hb2
  have g0 : w2.cell? ⟨W.heap.size + 1 + 1, 0, none⟩ = some (.bool false) := HF2.out.cell 2 0 rfl rfl
  have g1 : w2.cell? ⟨W.heap.size + 1 + 1, 1, none⟩ = some (.slice none 0 0) := HF2.out.cell 2 1 rfl rfl
  have g2 : w2.frozen? ⟨W.heap.size + 1 + 1, 0, none⟩ = false := HF2.out.frozen 2 0 rfl
  have g3 : w2.frozen? ⟨W.heap.size + 1 + 1, 1, none⟩ = false := HF2.out.frozen 2 1 rfl
  go_wp2
  obtain ⟨e0, e1, hz, hbel, _⟩ := HF2.out.finJ (cap := uc) 2 rfl HZ2.out
  exact bodyPost_ret (v := .agg #[.bool neg, .slice uo ul uc]) (by simp [results, Tryz.results38, go_sem, e0, e1]) rfl ⟨neg, uo, ul, uc, rfl, huc, hum, hz, hbel⟩
end Go.Proofs.YtcgnmihabkgecaaGreat

/- fittingRat, Rat.Sign. -/
set_option linter.unusedVariables false
namespace Go.Proofs.YtcgnmihabkgecaaGreat
open Go.RowKit

/-- the fraction p / q fits -/
def FitsQ (p : Int) (q : Nat) : Prop := Fits p ∧ blen q ≤ 16384

def OutFQ (W : World) (p : Int) (q : Nat) (e : Ending) (w' : World) : Prop :=
  (FitsQ p q ∧ OutQE W p q e w') ∨ (¬ FitsQ p q ∧ e = .returned (.tuple #[.agg #[.bool false, .slice none 0 0, .slice none 0 0], .int .i64 3]) ∧ Below W.heap.size W w')

theorem Q32.den {W : World} {na : Bool} {ao bo : Option Addr} {la lb : Nat} {p : Int} {q : Nat} (h : Q32 W na ao la bo lb p q) : ∃ d, N32 W bo lb d ∧ (blen d ≤ 16384 ↔ blen q ≤ 16384) := by
  rcases h.2 with ⟨h1, h2⟩ | ⟨h1, h2⟩
  · refine ⟨0, by rw [h1]; exact N32.nil _ _, ?_⟩
    have h3 : blen 0 ≤ 16384 := by rw [blen_zero]; omega
    have h4 : blen q ≤ 16384 := by
      rw [h2]
      have : blen 1 ≤ 1 := blen_le.2 (by decide)
      omega
    exact ⟨fun _ => h4, fun _ => h3⟩
  · exact ⟨q, h1, Iff.rfl⟩

set_option maxHeartbeats 1000000 in
theorem fittingRat_any (na : Bool) (ao bo : Option Addr) (la lb ca cb : Nat) (p : Int) (q : Nat) (W : World) (h : Q32 W na ao la bo lb p q) (hla : la ≤ 1000000000) (hlb : lb ≤ 1000000000) :
    Calls Tryz.prog 48 #[.agg #[.bool na, .slice ao la ca, .slice bo lb cb]] W (OutFQ W p q) := by
  have hf : Fr W ((W.alloc (.cells #[.bool na, .slice ao la ca, .slice bo lb cb] 27)).alloc (.cells #[.bool false, .slice none 0 0, .slice none 0 0] 27))
      [(27, #[.bool na, .slice ao la ca, .slice bo lb cb]), (27, #[.bool false, .slice none 0 0, .slice none 0 0])] := ((Fr.nil W).alloc rfl _ _).alloc (by simp) _ _
  obtain ⟨d, hd, hdq⟩ := h.den
  have HQ := Lib.hid h
  have HD := Lib.hid hd
  have HDQ := Lib.hid hdq
  clear h hd hdq
  go_enter Tryz.func48, Tryz.ntmps48
  go_wp2_with fail
  obtain ⟨W3, hW3⟩ : ∃ W3, W3 = (W.alloc (.cells #[.bool na, .slice ao la ca, .slice bo lb cb] 27)).alloc (.cells #[.bool false, .slice none 0 0, .slice none 0 0] 27) := ⟨_, rfl⟩
  rw [← hW3] at hf ⊢
  clear hW3
  have HF := Lib.hid hf
  clear hf
  refine (bitLen_any _ _ _ _ p _ (HQ.out.1.keep HF.out.below) hla).mono ?_
  rintro e w1 ⟨rfl, hb1⟩
  have HF1 := Lib.hid (HF.out.later hb1)
  clear hb1
  have c2 : w1.cell? ⟨W.heap.size, 2, none⟩ = some (.slice bo lb cb) := HF1.out.cell 0 2 rfl rfl
  have g0 : w1.cell? ⟨W.heap.size + 1, 0, none⟩ = some (.bool false) := HF1.out.cell 1 0 rfl rfl
  have g1 : w1.cell? ⟨W.heap.size + 1, 1, none⟩ = some (.slice none 0 0) := HF1.out.cell 1 1 rfl rfl
  have g2 : w1.cell? ⟨W.heap.size + 1, 2, none⟩ = some (.slice none 0 0) := HF1.out.cell 1 2 rfl rfl
  have g3 : w1.frozen? ⟨W.heap.size + 1, 0, none⟩ = false := HF1.out.frozen 1 0 rfl
  have g4 : w1.frozen? ⟨W.heap.size + 1, 1, none⟩ = false := HF1.out.frozen 1 1 rfl
  have g5 : w1.frozen? ⟨W.heap.size + 1, 2, none⟩ = false := HF1.out.frozen 1 2 rfl
  by_cases h1 : blen p.natAbs ≤ 16384
  · have t1 : ¬ (16384 : Int) < (blen p.natAbs : Int) := by omega
    have H1 := Lib.hid h1
    clear h1 g0 g1 g2 g3 g4 g5
    go_wp2_with fail
    refine (bitLength_any _ _ _ d _ (HD.out.keep HF1.out.below) hlb).mono ?_
    rintro e w2 ⟨rfl, hw⟩
    obtain rfl : w1 = w2 := hw
    have a0 : w1.cell? ⟨W.heap.size, 0, none⟩ = some (.bool na) := HF1.out.cell 0 0 rfl rfl
    have a1 : w1.cell? ⟨W.heap.size, 1, none⟩ = some (.slice ao la ca) := HF1.out.cell 0 1 rfl rfl
    have g0 : w1.cell? ⟨W.heap.size + 1, 0, none⟩ = some (.bool false) := HF1.out.cell 1 0 rfl rfl
    have g1 : w1.cell? ⟨W.heap.size + 1, 1, none⟩ = some (.slice none 0 0) := HF1.out.cell 1 1 rfl rfl
    have g2 : w1.cell? ⟨W.heap.size + 1, 2, none⟩ = some (.slice none 0 0) := HF1.out.cell 1 2 rfl rfl
    have g3 : w1.frozen? ⟨W.heap.size + 1, 0, none⟩ = false := HF1.out.frozen 1 0 rfl
    have g4 : w1.frozen? ⟨W.heap.size + 1, 1, none⟩ = false := HF1.out.frozen 1 1 rfl
    have g5 : w1.frozen? ⟨W.heap.size + 1, 2, none⟩ = false := HF1.out.frozen 1 2 rfl
    by_cases h2 : blen d ≤ 16384
    · have t2 : ¬ (16384 : Int) < (blen d : Int) := by omega
      have H2 := Lib.hid h2
      clear h2
      go_wp2
      obtain ⟨e0, e1, e2, hq, hbel⟩ := HF1.out.finQ (cap := ca) (bc := cb) 1 rfl (HQ.out.keep HF1.out.below)
      exact bodyPost_ret (v := .tuple #[.agg #[.bool na, .slice ao la ca, .slice bo lb cb], .int .i64 0]) (by simp [results, Tryz.results48, go_sem, e0, e1, e2]) rfl (.inl ⟨⟨H1.out, HDQ.out.1 H2.out⟩, na, ao, la, ca, bo, lb, cb, rfl, hq, hbel⟩)
    · have t2 : (16384 : Int) < (blen d : Int) := by omega
      have H2 := Lib.hid h2
      clear h2
      go_wp2
      obtain ⟨e0, e1, e2, hq, hbel⟩ := HF1.out.finQ (cap := 0) (bc := 0) (neg := false) (ao := none) (len := 0) (bo := none) (bl := 0) (p := 0) (q := 1) 1 rfl ⟨Z32.nil _, .inl ⟨rfl, rfl⟩⟩
      exact bodyPost_ret (v := .tuple #[.agg #[.bool false, .slice none 0 0, .slice none 0 0], .int .i64 3]) (by simp [results, Tryz.results48, go_sem, e0, e1, e2]) rfl (.inr ⟨fun h => H2.out (HDQ.out.2 h.2), rfl, hbel⟩)
  · have t1 : (16384 : Int) < (blen p.natAbs : Int) := by omega
    have H1 := Lib.hid h1
    clear h1
    go_wp2
    obtain ⟨e0, e1, e2, hq, hbel⟩ := HF1.out.finQ (cap := 0) (bc := 0) (neg := false) (ao := none) (len := 0) (bo := none) (bl := 0) (p := 0) (q := 1) 1 rfl ⟨Z32.nil _, .inl ⟨rfl, rfl⟩⟩
    exact bodyPost_ret (v := .tuple #[.agg #[.bool false, .slice none 0 0, .slice none 0 0], .int .i64 3]) (by simp [results, Tryz.results48, go_sem, e0, e1, e2]) rfl (.inr ⟨fun h => H1.out h.1, rfl, hbel⟩)

theorem ratSign_any (na : Bool) (ao bo : Option Addr) (la lb ca cb : Nat) (p : Int) (q : Nat) (W : World) (h : Q32 W na ao la bo lb p q) :
    Calls Tryz.prog 21 #[.agg #[.bool na, .slice ao la ca, .slice bo lb cb]] W (fun e w' => e = .returned (.int .i64 p.sign) ∧ Below W.heap.size W w') := by
  have hf : Fr W (W.alloc (.cells #[.bool na, .slice ao la ca, .slice bo lb cb] 27)) [(27, #[.bool na, .slice ao la ca, .slice bo lb cb])] := (Fr.nil W).alloc rfl _ _
  have HQ := Lib.hid h
  have HF := Lib.hid hf
  clear h hf
  go_enter Tryz.func21, Tryz.ntmps21
  go_wp2_with fail
  refine (sign_any _ _ _ _ p _ (HQ.out.1.keep HF.out.below)).mono ?_
  rintro e w1 ⟨rfl, hb1⟩
  have HB1 := Lib.hid (below_then HF.out.below hb1)
  clear hb1
  go_wp2
  go_ret
  exact ⟨rfl, HB1.out⟩
end Go.Proofs.YtcgnmihabkgecaaGreat

/- Facts for the operations of fractions. -/
set_option linter.unusedVariables false
namespace Go.Proofs.YtcgnmihabkgecaaGreat
open Go.RowKit

/-- an answer with an error is told of p / q -/
def ToldQ (p : Int) (q : Nat) (er P : Int) (Q : Nat) : Prop := (FitsQ p q ∧ er = 0 ∧ P = p ∧ Q = q) ∨ (¬ FitsQ p q ∧ er = 3 ∧ P = 0 ∧ Q = 1)

def OutTQ (W : World) (p : Int) (q : Nat) (e : Ending) (w' : World) : Prop :=
  ∃ na ao la ca bo lb cb er P Q, e = .returned (.tuple #[.agg #[.bool na, .slice ao la ca, .slice bo lb cb], .int .i64 er]) ∧ la ≤ 512 ∧ lb ≤ 512 ∧ Q32 w' na ao la bo lb P Q ∧ Below W.heap.size W w' ∧ ToldQ p q er P Q

theorem Q32.lens {W : World} {na : Bool} {ao bo : Option Addr} {la lb : Nat} {p : Int} {q : Nat} (h : Q32 W na ao la bo lb p q) (hf : FitsQ p q) : la ≤ 512 ∧ lb ≤ 512 := by
  refine ⟨fits_len h.1 hf.1, ?_⟩
  rcases h.2 with ⟨h1, _⟩ | ⟨h1, _⟩
  · omega
  · refine h1.len_le ?_
    obtain ⟨k, hk⟩ : ∃ k, k = 512 := ⟨_, rfl⟩
    rw [← hk, B32_pow]
    exact blen_le.1 (Nat.le_trans hf.2 (by omega))

theorem OutFQ.told {W w' : World} {p : Int} {q : Nat} {e : Ending} (h : OutFQ W p q e w') : OutTQ W p q e w' := by
  rcases h with ⟨h, na, ao, la, ca, bo, lb, cb, rfl, hq, hb⟩ | ⟨h, rfl, hb⟩
  · exact ⟨na, ao, la, ca, bo, lb, cb, 0, p, q, rfl, (hq.lens h).1, (hq.lens h).2, hq, hb, .inl ⟨h, rfl, rfl, rfl⟩⟩
  · exact ⟨false, none, 0, 0, none, 0, 0, 3, 0, 1, rfl, by omega, by omega, ⟨Z32.nil _, .inl ⟨rfl, rfl⟩⟩, hb, .inr ⟨h, rfl, rfl, rfl⟩⟩

theorem Q32.pos {W : World} {na : Bool} {ao bo : Option Addr} {la lb : Nat} {p : Int} {q : Nat} (h : Q32 W na ao la bo lb p q) : 0 < q := by
  rcases h.2 with ⟨_, h1⟩ | ⟨_, h1⟩ <;> omega

/-- OutI with a bound for the number of digits -/
def OutIL (W : World) (z : Int) (L : Nat) (e : Ending) (w' : World) : Prop := ∃ neg ao len cap, e = .returned (.agg #[.bool neg, .slice ao len cap]) ∧ len ≤ L ∧ Z32 w' neg ao len z ∧ Below W.heap.size W w'

theorem OutI.len {W w' : World} {z : Int} {L : Nat} {e : Ending} (h : OutI W z e w') (hL : z.natAbs < B32 ^ L) : OutIL W z L e w' := by
  obtain ⟨neg, ao, len, cap, rfl, hz, hb⟩ := h
  exact ⟨neg, ao, len, cap, rfl, hz.n32.len_le hL, hz, hb⟩

theorem times_L (na nb : Bool) (ao bo : Option Addr) (la lb ca cb : Nat) (x y : Int) (W : World) (ha : Z32 W na ao la x) (hb : Z32 W nb bo lb y) (hla : la ≤ 100000000) (hlb : lb ≤ 100000000) :
    Calls Tryz.prog 59 #[.agg #[.bool na, .slice ao la ca], .agg #[.bool nb, .slice bo lb cb]] W (OutIL W (x * y) (la + lb + 1)) :=
  (times_any na nb ao bo la lb ca cb x y W ha hb (by omega) (by omega)).mono fun e w h => h.len (mulI_len ha.n32.lt hb.n32.lt)

theorem plus_L (na nb : Bool) (ao bo : Option Addr) (la lb ca cb : Nat) (x y : Int) (W : World) (ha : Z32 W na ao la x) (hb : Z32 W nb bo lb y) (hla : la ≤ 100000000) (hlb : lb ≤ 100000000) :
    Calls Tryz.prog 58 #[.agg #[.bool na, .slice ao la ca], .agg #[.bool nb, .slice bo lb cb]] W (OutIL W (x + y) (la + lb + 1)) :=
  (plus_any na nb ao bo la lb ca cb x y W ha hb (by omega) (by omega)).mono fun e w h => h.len (addI_len ha.n32.lt hb.n32.lt)

theorem den_L (na : Bool) (ao bo : Option Addr) (la lb ca cb : Nat) (p : Int) (q : Nat) (W : World) (h : Q32 W na ao la bo lb p q) (hlb : lb ≤ 100000000) :
    Calls Tryz.prog 60 #[.agg #[.bool na, .slice ao la ca, .slice bo lb cb]] W (OutIL W q (lb + 1)) :=
  (den_any na ao bo la lb ca cb p q W h (by omega)).mono fun e w k => k.len (by
    rw [Int.natAbs_natCast]
    rcases h.2 with ⟨h1, h2⟩ | ⟨h1, _⟩
    · rw [h2]; exact Nat.one_lt_pow (by omega) (by decide)
    · exact Nat.lt_of_lt_of_le h1.lt (Nat.pow_le_pow_right B32_pos (by omega)))

def OutQL (W : World) (p : Int) (q L M : Nat) (e : Ending) (w' : World) : Prop :=
  ∃ neg ao len cap bo bl bc, e = .returned (.agg #[.bool neg, .slice ao len cap, .slice bo bl bc]) ∧ len ≤ L ∧ bl ≤ M ∧ Q32 w' neg ao len bo bl p q ∧ Below W.heap.size W w'

theorem reduced_L (na nb : Bool) (ao bo : Option Addr) (la lb ca cb : Nat) (x y : Int) (W : World) (ha : Z32 W na ao la x) (hb : Z32 W nb bo lb y) (hla : la ≤ 1000000000) (hlb : lb ≤ 1000000000) (hy : y ≠ 0) :
    Calls Tryz.prog 49 #[.agg #[.bool na, .slice ao la ca], .agg #[.bool nb, .slice bo lb cb]] W (OutQL W (lowP x y) (lowQ x y) la lb) := by
  have hp : lowP x y = sgn (na != nb) (x.natAbs / Nat.gcd x.natAbs y.natAbs) := by unfold lowP; rw [ha.neg_eq, hb.neg_eq]
  have hg : 0 < Nat.gcd x.natAbs y.natAbs := Nat.gcd_pos_of_pos_right _ (by omega)
  have h1 := ha.n32.lt
  have h2 := hb.n32.lt
  refine (reduced_any na nb ao bo la lb ca cb x.natAbs y.natAbs W ha.n32 hb.n32 hla hlb (by omega) (gcd_ok _ _) (divide_ok _ _ hg) (divide_ok _ _ hg)).mono fun e w h => ?_
  obtain ⟨neg, uo, ul, uc, so, sl, sc, rfl, hq, hbel⟩ := h
  rw [← hp] at hq
  refine ⟨neg, uo, ul, uc, so, sl, sc, rfl, hq.1.n32.len_le ?_, ?_, hq, hbel⟩
  · rw [hp, sgn_natAbs]; exact Nat.lt_of_le_of_lt (Nat.div_le_self _ _) h1
  · rcases hq.2 with ⟨h3, _⟩ | ⟨h3, _⟩
    · omega
    · exact h3.len_le (Nat.lt_of_le_of_lt (Nat.div_le_self _ _) h2)

theorem newRat_L (na nb : Bool) (ao bo : Option Addr) (la lb ca cb : Nat) (x y : Int) (W : World) (ha : Z32 W na ao la x) (hb : Z32 W nb bo lb y) (hla : la ≤ 1000000000) (hlb : lb ≤ 1000000000) (hy : y ≠ 0) :
    Calls Tryz.prog 27 #[.agg #[.bool na, .slice ao la ca], .agg #[.bool nb, .slice bo lb cb]] W (OutQE W (lowP x y) (lowQ x y)) := by
  have hg : 0 < Nat.gcd x.natAbs y.natAbs := Nat.gcd_pos_of_pos_right _ (by omega)
  exact newRat_any na nb ao bo la lb ca cb x y W ha hb hla hlb hy (gcd_ok _ _) (divide_ok _ _ hg) (divide_ok _ _ hg)

theorem cell_set3 (w : World) (g b o : Nat) (u v x : Value) (h : b ≠ g) : (((w.setCell ⟨g, 0, none⟩ u).setCell ⟨g, 1, none⟩ v).setCell ⟨g, 2, none⟩ x).cell? ⟨b, o, none⟩ = w.cell? ⟨b, o, none⟩ := by
  have e : (((w.setCell ⟨g, 0, none⟩ u).setCell ⟨g, 1, none⟩ v).setCell ⟨g, 2, none⟩ x).heap[b]? = w.heap[b]? := by
    rw [Below.heap_setCell _ _ _ _ h, Below.heap_setCell _ _ _ _ h, Below.heap_setCell _ _ _ _ h]
  simp only [World.cell?, e]
end Go.Proofs.YtcgnmihabkgecaaGreat

/- Two more regions whose blocks may be made in any order: 'x, y, ok := two(of(a, n), of(b, n))' and 'i, e := x.f(y.g())'. -/
set_option linter.unusedVariables false
namespace Go.Proofs.YtcgnmihabkgecaaGreat
open Go.RowKit Go.Proofs

/-- v is an integer of the program, not long -/
def IsS (z : Int) (v : Value) (w : World) : Prop := ∃ n o l c, v = .agg #[.bool n, .slice o l c] ∧ l ≤ 512 ∧ Z32 w n o l z
def IsTwo (x y : Int) (v : Value) (w : World) : Prop := ∃ na ao la ca nb bo lb cb, v = .tuple #[.agg #[.bool na, .slice ao la ca], .agg #[.bool nb, .slice bo lb cb], .bool true] ∧ la ≤ 512 ∧ lb ≤ 512 ∧ Z32 w na ao la x ∧ Z32 w nb bo lb y
/-- v is an integer and no error -/
def IsE (z : Int) (v : Value) (w : World) : Prop := ∃ n o l c, v = .tuple #[.agg #[.bool n, .slice o l c], .int .i64 0] ∧ l ≤ 512 ∧ Z32 w n o l z

theorem Stable.isS (base : Nat) (z : Int) (v : Value) : Stable base (IsS z v) :=
  Stable.ex fun n => Stable.ex fun o => Stable.ex fun l => Stable.ex fun c => (Stable.const base _).and ((Stable.const base _).and (Stable.z32 base n o l z))
theorem Stable.isE (base : Nat) (z : Int) (v : Value) : Stable base (IsE z v) :=
  Stable.ex fun n => Stable.ex fun o => Stable.ex fun l => Stable.ex fun c => (Stable.const base _).and ((Stable.const base _).and (Stable.z32 base n o l z))
theorem Stable.isTwo (base : Nat) (x y : Int) (v : Value) : Stable base (IsTwo x y v) :=
  Stable.ex fun na => Stable.ex fun ao => Stable.ex fun la => Stable.ex fun ca => Stable.ex fun nb => Stable.ex fun bo => Stable.ex fun lb => Stable.ex fun cb =>
    (Stable.const base _).and ((Stable.const base _).and ((Stable.const base _).and ((Stable.z32 base na ao la x).and (Stable.z32 base nb bo lb y))))

theorem OutF.noErr {W w' : World} {z : Int} {e : Ending} (h : OutF W z e w') (hf : Fits z) : ∃ v, e = .returned v ∧ IsE z v w' ∧ Below W.heap.size W w' := by
  rcases h with ⟨_, n, o, l, c, rfl, hz, hb⟩ | ⟨hn, _⟩
  · exact ⟨_, rfl, ⟨n, o, l, c, rfl, fits_len hz hf, hz⟩, hb⟩
  · exact absurd hf hn

theorem Two.is {x y : Int} {W w' : World} {e : Ending} (h : Two x y W e w') : ∃ v, e = .returned v ∧ IsTwo x y v w' ∧ Below W.heap.size W w' := by
  obtain ⟨na, ao, la, ca, nb, bo, lb, cb, rfl, h1, h2, h3, h4, h5⟩ := h
  exact ⟨_, rfl, ⟨na, ao, la, ca, nb, bo, lb, cb, rfl, h1, h2, h3, h4⟩, h5⟩

theorem OutI.is {W w' : World} {z : Int} {e : Ending} (h : OutI W z e w') : ∃ v, e = .returned v ∧ IsI z v w' ∧ Below W.heap.size W w' := by
  obtain ⟨n, o, l, c, rfl, h3, h4⟩ := h
  exact ⟨_, rfl, ⟨n, o, l, c, rfl, h3⟩, h4⟩

theorem run_move {P : Program} {o : Oper} {t : Nat} (h : o.op = .move (.tmp t)) (a : Act) (w : World) : (execOp a.eval o).run P w = .ok (.value (a.eval (.tmp t))) w := by
  unfold execOp
  rw [h]
  rfl
theorem run_assign {P : Program} {o : Oper} {t : Nat} (h : o.op = .assign (.tmp t)) (a : Act) (w : World) : (execOp a.eval o).run P w = .ok (.value (a.eval (.tmp t))) w := by
  unfold execOp
  rw [h]
  rfl
theorem run_extract {P : Program} {o : Oper} {t i : Nat} {vs : Array Value} {v : Value} (h : o.op = .extract (.tmp t) i) {a : Act} (he : a.eval (.tmp t) = .tuple vs) (hv : vs[i]? = some v) (w : World) : (execOp a.eval o).run P w = .ok (.value v) w := by
  unfold execOp
  rw [h]
  dsimp only
  rw [he]
  simp [go_sem, Instr.extract, hv]

def ttS (t0 t1 t2 t3 t4 t5 t6 t7 t8 p q k : Nat) (T : Nat) (z : Array Value) : Shape where
  f := fun i => match i with | 0 => t0 | 1 => t1 | 2 => t2 | 3 => t3 | 4 => t4 | 5 => t5 | 6 => t6 | 7 => t7 | 8 => t8 | 9 => p | 10 => q | 13 => k | _ => 0
  kd := fun i => match i with | 9 => .box T z | 10 => .box T z | 11 => .put 9 6 | 12 => .put 10 7 | _ => .val
  need := fun i => match i with | 1 => [0] | 3 => [2] | 4 => [1, 3] | 5 => [4] | 6 => [5] | 7 => [5] | 8 => [5] | 11 => [9, 6] | 12 => [10, 7] | 13 => [8] | _ => []
  st := fun i => match i with | 9 => 11 | _ => 12
  src := fun i => match i with | 9 => 6 | _ => 7

def ttΦ (r1 r2 : Value) (z1 z2 : Int) (i : Nat) (v : Value) (w : World) : Prop :=
  match i with | 0 => v = r1 | 1 => IsJ z1 v w | 2 => v = r2 | 3 => IsJ z2 v w | 4 => IsTwo z1 z2 v w | 5 => IsTwo z1 z2 v w | 6 => IsS z1 v w | 7 => IsS z2 v w | _ => v = .bool true

set_option maxHeartbeats 2000000 in
theorem two_two {Q : Exit → Act → World → Prop} {id : Nat} {a0 : Act} {W : World} {o0 o1 o2 o3 o4 o5 o6 o7 o8 o9 o10 o11 o12 o13 : Oper} (t0 t1 t2 t3 t4 t5 t6 t7 t8 p q k r s : Nat) (f f2 : FuncId) (K : Value) (u1 u2 v1 v2 : Value) (g h : Nat) (z1 z2 : Int) (ts ts2 : Array TypeId) {fn fn2 : Func} {cb cb2 : Code}
    (hfn : Tryz.prog.funcs[f]? = some fn) (hname : (fn.name == "runtime.NumGoroutine") = false) (hbody : fn.body = some cb)
    (hfn2 : Tryz.prog.funcs[f2]? = some fn2) (hname2 : (fn2.name == "runtime.NumGoroutine") = false) (hbody2 : fn2.body = some cb2)
    (hok : (ttS t0 t1 t2 t3 t4 t5 t6 t7 t8 p q k 25 #[.bool false, .slice none 0 0]).ok #[o0, o1, o2, o3, o4, o5, o6, o7, o8, o9, o10, o11, o12, o13] a0.tmps.size = true)
    (h0 : o0.op = .load 43 (.tmp r)) (h1 : o1.op = .call { callee := .value (.func f), args := #[.tmp t0, .const K], argTypes := ts })
    (h2 : o2.op = .load 43 (.tmp s)) (h3 : o3.op = .call { callee := .value (.func f), args := #[.tmp t2, .const K], argTypes := ts })
    (h4 : o4.op = .call { callee := .value (.func f2), args := #[.tmp t1, .tmp t3], argTypes := ts2 }) (h5 : o5.op = .move (.tmp t4))
    (h6 : o6.op = .extract (.tmp t5) 0) (h7 : o7.op = .extract (.tmp t5) 1) (h8 : o8.op = .extract (.tmp t5) 2)
    (h9 : o9.op = .alloc 25) (h10 : o10.op = .alloc 25) (h11 : o11.op = .store 25 (.tmp p) (.tmp t6)) (h12 : o12.op = .store 25 (.tmp q) (.tmp t7)) (h13 : o13.op = .assign (.tmp t8))
    (hr : a0.eval (.tmp r) = .pointer (some ⟨g, 0, none⟩)) (hs : a0.eval (.tmp s) = .pointer (some ⟨h, 0, none⟩))
    (hrs : r ∉ [t0, t1, t2, t3, t4, t5, t6, t7, t8, p, q, k]) (hss : s ∉ [t0, t1, t2, t3, t4, t5, t6, t7, t8, p, q, k]) (hg : g < W.heap.size) (hh : h < W.heap.size)
    (c1 : W.cell? ⟨g, 0, none⟩ = some u1) (c2 : W.cell? ⟨g, 1, none⟩ = some u2) (c3 : W.cell? ⟨h, 0, none⟩ = some v1) (c4 : W.cell? ⟨h, 1, none⟩ = some v2)
    (hc1 : ∀ w, Below W.heap.size W w → W.heap.size ≤ w.heap.size → Calls Tryz.prog f #[.agg #[u1, u2], K] w (OutJ w z1))
    (hc2 : ∀ w, Below W.heap.size W w → W.heap.size ≤ w.heap.size → Calls Tryz.prog f #[.agg #[v1, v2], K] w (OutJ w z2))
    (hc3 : ∀ w n1 x1 l1 k1 n2 x2 l2 k2, Z16 w n1 x1 l1 z1 → Z16 w n2 x2 l2 z2 → Calls Tryz.prog f2 #[.agg #[.bool n1, .slice x1 l1 k1], .agg #[.bool n2, .slice x2 l2 k2]] w (Two z1 z2 w))
    (hend : ∀ w b1 b2 n1 x1 l1 k1 n2 x2 l2 k2 d1 d3 d4 d5, Below W.heap.size W w → W.heap.size ≤ b1 → W.heap.size ≤ b2 → b1 ≠ b2 → Box w b1 25 #[.bool n1, .slice x1 l1 k1] → Box w b2 25 #[.bool n2, .slice x2 l2 k2] →
      l1 ≤ 512 → l2 ≤ 512 → Z32 w n1 x1 l1 z1 → Z32 w n2 x2 l2 z2 →
      Q .normal (puts a0 [(t0, .agg #[u1, u2]), (t1, d1), (t2, .agg #[v1, v2]), (t3, d3), (t4, d4), (t5, d5), (t6, .agg #[.bool n1, .slice x1 l1 k1]), (t7, .agg #[.bool n2, .slice x2 l2 k2]), (t8, .bool true),
        (p, .pointer (some ⟨b1, 0, none⟩)), (q, .pointer (some ⟨b2, 0, none⟩)), (k, .bool true)]) w) :
    (Code.region id #[o0, o1, o2, o3, o4, o5, o6, o7, o8, o9, o10, o11, o12, o13] true).wp Tryz.prog Q a0 W := by
  refine Shape.region (ttS t0 t1 t2 t3 t4 t5 t6 t7 t8 p q k 25 #[.bool false, .slice none 0 0]) (fun i v w => ttΦ (.agg #[u1, u2]) (.agg #[v1, v2]) z1 z2 i (v i) w) (by kernel_rfl) hok
    (fun i v v' w _ hj hΦ => by rw [← hj i (.inl rfl)]; exact hΦ) ?stab ?val ?box ?put rfl ?fin
  case stab =>
    intro i v hi
    match i with
    | 0 => exact Stable.const _ _
    | 1 => exact Stable.isJ _ _ _
    | 2 => exact Stable.const _ _
    | 3 => exact Stable.isJ _ _ _
    | 4 => exact Stable.isTwo _ _ _ _
    | 5 => exact Stable.isTwo _ _ _ _
    | 6 => exact Stable.isS _ _ _
    | 7 => exact Stable.isS _ _ _
    | i + 8 => exact Stable.const _ _
  case val =>
    intro i o ho hv a w hA hb hz hn K' hK
    match i, ho, hv with
    | 0, ho, _ =>
      have ho' : o0 = o := by simpa using ho
      subst ho'
      have e : a.eval (.tmp r) = .pointer (some ⟨g, 0, none⟩) := (hA.eval hrs).trans hr
      refine wp_value (v := .agg #[u1, u2]) (w' := w) ?_ (hK _ _ (Below.refl _ _) (by simp [upd, ttΦ]))
      have d1 := (hb.cell (p := ⟨g, 0, none⟩) hg).trans c1
      have d2 := (hb.cell (p := ⟨g, 1, none⟩) hg).trans c2
      unfold execOp
      rw [h0]
      dsimp only
      rw [e]
      simp [go_sem, d1, d2]
    | 1, ho, _ =>
      have ho' : o1 = o := by simpa using ho
      subst ho'
      have e := hn 0 (by simp [ttS]) rfl
      refine wp_call (run_call hfn hname hbody h1 a w) ((?_ : Calls _ _ _ _ _).mono fun e w' h => OutJ.is h) (fun v w' hb' hφ => hK v w' hb' (by simpa [upd, ttΦ] using hφ))
      have e2 : a.eval (.tmp t0) = .agg #[u1, u2] := e
      have em : Array.map a.eval #[Operand.tmp t0, Operand.const K] = #[a.eval (.tmp t0), K] := by simp only [List.map_toArray, List.map_cons, List.map_nil]; rfl
      rw [em, e2]
      exact hc1 w (below_undrew hb) hz
    | 2, ho, _ =>
      have ho' : o2 = o := by simpa using ho
      subst ho'
      have e : a.eval (.tmp s) = .pointer (some ⟨h, 0, none⟩) := (hA.eval hss).trans hs
      refine wp_value (v := .agg #[v1, v2]) (w' := w) ?_ (hK _ _ (Below.refl _ _) (by simp [upd, ttΦ]))
      have d1 := (hb.cell (p := ⟨h, 0, none⟩) hh).trans c3
      have d2 := (hb.cell (p := ⟨h, 1, none⟩) hh).trans c4
      unfold execOp
      rw [h2]
      dsimp only
      rw [e]
      simp [go_sem, d1, d2]
    | 3, ho, _ =>
      have ho' : o3 = o := by simpa using ho
      subst ho'
      have e := hn 2 (by simp [ttS]) rfl
      refine wp_call (run_call hfn hname hbody h3 a w) ((?_ : Calls _ _ _ _ _).mono fun e w' h => OutJ.is h) (fun v w' hb' hφ => hK v w' hb' (by simpa [upd, ttΦ] using hφ))
      have e2 : a.eval (.tmp t2) = .agg #[v1, v2] := e
      have em : Array.map a.eval #[Operand.tmp t2, Operand.const K] = #[a.eval (.tmp t2), K] := by simp only [List.map_toArray, List.map_cons, List.map_nil]; rfl
      rw [em, e2]
      exact hc2 w (below_undrew hb) hz
    | 4, ho, _ =>
      have ho' : o4 = o := by simpa using ho
      subst ho'
      obtain ⟨n1, x1, l1, k1, e1, _, _, y1⟩ : IsJ z1 (a.eval (.tmp t1)) w := hn 1 (by simp [ttS]) rfl
      obtain ⟨n2, x2, l2, k2, e2, _, _, y2⟩ : IsJ z2 (a.eval (.tmp t3)) w := hn 3 (by simp [ttS]) rfl
      refine wp_call (run_call hfn2 hname2 hbody2 h4 a w) ((?_ : Calls _ _ _ _ _).mono fun e w' h => Two.is h) (fun v w' hb' hφ => hK v w' hb' (by simpa [upd, ttΦ] using hφ))
      have em : Array.map a.eval #[Operand.tmp t1, Operand.tmp t3] = #[a.eval (.tmp t1), a.eval (.tmp t3)] := by simp only [List.map_toArray, List.map_cons, List.map_nil]
      rw [em, e1, e2]
      exact hc3 w n1 x1 l1 k1 n2 x2 l2 k2 y1 y2
    | 5, ho, _ =>
      have ho' : o5 = o := by simpa using ho
      subst ho'
      have e : IsTwo z1 z2 (a.eval (.tmp t4)) w := hn 4 (by simp [ttS]) rfl
      exact wp_value (run_move h5 a w) (hK _ _ (Below.refl _ _) (by simpa [upd, ttΦ] using e))
    | 6, ho, _ =>
      have ho' : o6 = o := by simpa using ho
      subst ho'
      obtain ⟨na, ao, la, ca, nb, bo, lb, cb, e, m1, m2, y1, y2⟩ : IsTwo z1 z2 (a.eval (.tmp t5)) w := hn 5 (by simp [ttS]) rfl
      exact wp_value (run_extract h6 e rfl w) (hK _ _ (Below.refl _ _) (by simp only [upd, ttΦ, if_true]; exact ⟨na, ao, la, ca, rfl, m1, y1⟩))
    | 7, ho, _ =>
      have ho' : o7 = o := by simpa using ho
      subst ho'
      obtain ⟨na, ao, la, ca, nb, bo, lb, cb, e, m1, m2, y1, y2⟩ : IsTwo z1 z2 (a.eval (.tmp t5)) w := hn 5 (by simp [ttS]) rfl
      exact wp_value (run_extract h7 e rfl w) (hK _ _ (Below.refl _ _) (by simp only [upd, ttΦ, if_true]; exact ⟨nb, bo, lb, cb, rfl, m2, y2⟩))
    | 8, ho, _ =>
      have ho' : o8 = o := by simpa using ho
      subst ho'
      obtain ⟨na, ao, la, ca, nb, bo, lb, cb, e, m1, m2, y1, y2⟩ : IsTwo z1 z2 (a.eval (.tmp t5)) w := hn 5 (by simp [ttS]) rfl
      exact wp_value (run_extract h8 e rfl w) (hK _ _ (Below.refl _ _) (by simp [upd, ttΦ]))
    | 13, ho, _ =>
      have ho' : o13 = o := by simpa using ho
      subst ho'
      have e : a.eval (.tmp t8) = .bool true := hn 8 (by simp [ttS]) rfl
      exact wp_value (run_assign h13 a w) (hK _ _ (Below.refl _ _) (by simpa [upd, ttΦ] using e))
    | 9, _, hv => cases hv
    | 10, _, hv => cases hv
    | 11, _, hv => cases hv
    | 12, _, hv => cases hv
    | i + 14, ho, _ => simp at ho
  case box =>
    intro i o T z ho hk a w
    match i, ho, hk with
    | 9, ho, hk => have ho' : o9 = o := by simpa using ho
                   subst ho'; cases hk; unfold execOp; rw [h9]; simp [go_sem]
    | 10, ho, hk => have ho' : o10 = o := by simpa using ho
                    subst ho'; cases hk; unfold execOp; rw [h10]; simp [go_sem]
    | 0, _, hk => cases hk
    | 1, _, hk => cases hk
    | 2, _, hk => cases hk
    | 3, _, hk => cases hk
    | 4, _, hk => cases hk
    | 5, _, hk => cases hk
    | 6, _, hk => cases hk
    | 7, _, hk => cases hk
    | 8, _, hk => cases hk
    | 11, _, hk => cases hk
    | 12, _, hk => cases hk
    | 13, _, hk => cases hk
    | i + 14, ho, _ => simp at ho
  case put =>
    intro i o p' s' T z ho hk hp a w b hva hφ hbx
    match i, ho, hk with
    | 0, _, hk => cases hk
    | 1, _, hk => cases hk
    | 2, _, hk => cases hk
    | 3, _, hk => cases hk
    | 4, _, hk => cases hk
    | 5, _, hk => cases hk
    | 6, _, hk => cases hk
    | 7, _, hk => cases hk
    | 8, _, hk => cases hk
    | 9, _, hk => cases hk
    | 10, _, hk => cases hk
    | 13, _, hk => cases hk
    | i + 14, ho, _ => simp at ho
    | 11, ho, hk =>
      have ho' : o11 = o := by simpa using ho
      subst ho'; cases hk; cases hp
      obtain ⟨n, x, l, c, e, _⟩ := hφ
      have e1 : a.eval (.tmp t6) = .agg #[.bool n, .slice x l c] := e
      have e2 : a.eval (.tmp p) = .pointer (some ⟨b, 0, none⟩) := hva
      have d1 := hbx.cell 0
      have d2 := hbx.cell 1
      have f1 := hbx.frozen 0
      have f2 := hbx.frozen 1
      refine ⟨[.bool n, .slice x l c], e, rfl, by simp [isInt], ?_⟩
      unfold execOp; rw [h11]
      dsimp only
      rw [e1, e2]
      simp [go_sem, d1, d2, f1, f2, setFrom]
    | 12, ho, hk =>
      have ho' : o12 = o := by simpa using ho
      subst ho'; cases hk; cases hp
      obtain ⟨n, x, l, c, e, _⟩ := hφ
      have e1 : a.eval (.tmp t7) = .agg #[.bool n, .slice x l c] := e
      have e2 : a.eval (.tmp q) = .pointer (some ⟨b, 0, none⟩) := hva
      have d1 := hbx.cell 0
      have d2 := hbx.cell 1
      have f1 := hbx.frozen 0
      have f2 := hbx.frozen 1
      refine ⟨[.bool n, .slice x l c], e, rfl, by simp [isInt], ?_⟩
      unfold execOp; rw [h12]
      dsimp only
      rw [e1, e2]
      simp [go_sem, d1, d2, f1, f2, setFrom]
  case fin =>
    intro a w blk hI
    have n8 : (#[o0, o1, o2, o3, o4, o5, o6, o7, o8, o9, o10, o11, o12, o13] : Array Oper).size = 14 := rfl
    rw [n8] at hI
    have hf := hI.agree.form
    have e0 : a.eval (.tmp t0) = .agg #[u1, u2] := hI.vals 0 (by decide) (by decide) rfl
    have e2 : a.eval (.tmp t2) = .agg #[v1, v2] := hI.vals 2 (by decide) (by decide) rfl
    obtain ⟨n1, x1, l1, k1, e6, a1, a3⟩ : IsS z1 (a.eval (.tmp t6)) w := hI.vals 6 (by decide) (by decide) rfl
    obtain ⟨n2, x2, l2, k2, e7, b1, b3⟩ : IsS z2 (a.eval (.tmp t7)) w := hI.vals 7 (by decide) (by decide) rfl
    have e8 : a.eval (.tmp t8) = .bool true := hI.vals 8 (by decide) (by decide) rfl
    have e13 : a.eval (.tmp k) = .bool true := hI.vals 13 (by decide) (by decide) rfl
    obtain ⟨p1, p2, _, p3⟩ := hI.boxes 9 25 #[.bool false, .slice none 0 0] (by decide) (by decide) rfl
    obtain ⟨us, y1, y2, y3, y4⟩ := p3 (show (11 : Nat) < 14 by decide)
    obtain ⟨q1, q2, _, q3⟩ := hI.boxes 10 25 #[.bool false, .slice none 0 0] (by decide) (by decide) rfl
    obtain ⟨vs, w1, w2, w3, w4⟩ := q3 (show (12 : Nat) < 14 by decide)
    have y5 : a.eval (.tmp t6) = .agg us.toArray := y1
    have w5 : a.eval (.tmp t7) = .agg vs.toArray := w1
    rw [e6] at y5
    rw [e7] at w5
    cases y5
    cases w5
    have e9 : a.eval (.tmp p) = .pointer (some ⟨blk 9, 0, none⟩) := p1
    have e10 : a.eval (.tmp q) = .pointer (some ⟨blk 10, 0, none⟩) := q1
    have hsl : (ttS t0 t1 t2 t3 t4 t5 t6 t7 t8 p q k 25 #[.bool false, .slice none 0 0]).slots 14 = [t0, t1, t2, t3, t4, t5, t6, t7, t8, p, q, k] := rfl
    rw [hsl] at hf
    simp only [List.map_cons, List.map_nil, e0, e2, e6, e7, e8, e9, e10, e13] at hf
    rw [hf]
    exact hend w (blk 9) (blk 10) n1 x1 l1 k1 n2 x2 l2 k2 _ _ _ _ (below_undrew hI.below) p2 q2 (hI.apart 9 10 _ _ _ _ (by decide) (by decide) (by decide) (by decide) rfl rfl (by decide)) y4 w4 a1 b1 a3 b3
end Go.Proofs.YtcgnmihabkgecaaGreat

/- A region 'i, e := x.f(y.g())', whose block may be made at any time. -/
set_option linter.unusedVariables false
namespace Go.Proofs.YtcgnmihabkgecaaGreat
open Go.RowKit Go.Proofs

def neS (t0 t1 t2 t3 t4 t5 t6 p k : Nat) (T : Nat) (z : Array Value) : Shape where
  f := fun i => match i with | 0 => t0 | 1 => t1 | 2 => t2 | 3 => t3 | 4 => t4 | 5 => t5 | 6 => t6 | 7 => p | 9 => k | _ => 0
  kd := fun i => match i with | 7 => .box T z | 8 => .put 7 5 | _ => .val
  need := fun i => match i with | 2 => [1] | 3 => [0, 2] | 4 => [3] | 5 => [4] | 6 => [4] | 8 => [7, 5] | 9 => [6] | _ => []
  st := fun _ => 8
  src := fun _ => 5

def neΦ (r1 r2 : Value) (zn z : Int) (i : Nat) (v : Value) (w : World) : Prop :=
  match i with | 0 => v = r1 | 1 => v = r2 | 2 => IsS zn v w | 3 => IsE z v w | 4 => IsE z v w | 5 => IsS z v w | _ => v = .int .i64 0

set_option maxHeartbeats 2000000 in
theorem nested {Q : Exit → Act → World → Prop} {id : Nat} {a0 : Act} {W : World} {o0 o1 o2 o3 o4 o5 o6 o7 o8 o9 : Oper} (t0 t1 t2 t3 t4 t5 t6 p k r s : Nat) (f f2 : FuncId) (u1 u2 v1 v2 : Value) (g h : Nat) (zn z : Int) (ts ts2 : Array TypeId) {fn fn2 : Func} {cb cb2 : Code}
    (hfn : Tryz.prog.funcs[f]? = some fn) (hname : (fn.name == "runtime.NumGoroutine") = false) (hbody : fn.body = some cb)
    (hfn2 : Tryz.prog.funcs[f2]? = some fn2) (hname2 : (fn2.name == "runtime.NumGoroutine") = false) (hbody2 : fn2.body = some cb2)
    (hok : (neS t0 t1 t2 t3 t4 t5 t6 p k 25 #[.bool false, .slice none 0 0]).ok #[o0, o1, o2, o3, o4, o5, o6, o7, o8, o9] a0.tmps.size = true)
    (h0 : o0.op = .load 25 (.tmp r)) (h1 : o1.op = .load 25 (.tmp s)) (h2 : o2.op = .call { callee := .value (.func f), args := #[.tmp t1], argTypes := ts })
    (h3 : o3.op = .call { callee := .value (.func f2), args := #[.tmp t0, .tmp t2], argTypes := ts2 }) (h4 : o4.op = .move (.tmp t3))
    (h5 : o5.op = .extract (.tmp t4) 0) (h6 : o6.op = .extract (.tmp t4) 1)
    (h7 : o7.op = .alloc 25) (h8 : o8.op = .store 25 (.tmp p) (.tmp t5)) (h9 : o9.op = .assign (.tmp t6))
    (hr : a0.eval (.tmp r) = .pointer (some ⟨g, 0, none⟩)) (hs : a0.eval (.tmp s) = .pointer (some ⟨h, 0, none⟩))
    (hrs : r ∉ [t0, t1, t2, t3, t4, t5, t6, p, k]) (hss : s ∉ [t0, t1, t2, t3, t4, t5, t6, p, k]) (hg : g < W.heap.size) (hh : h < W.heap.size)
    (c1 : W.cell? ⟨g, 0, none⟩ = some u1) (c2 : W.cell? ⟨g, 1, none⟩ = some u2) (c3 : W.cell? ⟨h, 0, none⟩ = some v1) (c4 : W.cell? ⟨h, 1, none⟩ = some v2)
    (hc1 : ∀ w, Below W.heap.size W w → Calls Tryz.prog f #[.agg #[v1, v2]] w (fun e w' => ∃ v, e = .returned v ∧ IsS zn v w' ∧ Below w.heap.size w w'))
    (hc2 : ∀ w n x l c, Below W.heap.size W w → l ≤ 512 → Z32 w n x l zn → Calls Tryz.prog f2 #[.agg #[u1, u2], .agg #[.bool n, .slice x l c]] w (fun e w' => ∃ v, e = .returned v ∧ IsE z v w' ∧ Below w.heap.size w w'))
    (hend : ∀ w b1 n x l c d2 d3 d4, Below W.heap.size W w → W.heap.size ≤ b1 → Box w b1 25 #[.bool n, .slice x l c] → l ≤ 512 → Z32 w n x l z →
      Q .normal (puts a0 [(t0, .agg #[u1, u2]), (t1, .agg #[v1, v2]), (t2, d2), (t3, d3), (t4, d4), (t5, .agg #[.bool n, .slice x l c]), (t6, .int .i64 0), (p, .pointer (some ⟨b1, 0, none⟩)), (k, .int .i64 0)]) w) :
    (Code.region id #[o0, o1, o2, o3, o4, o5, o6, o7, o8, o9] true).wp Tryz.prog Q a0 W := by
  refine Shape.region (neS t0 t1 t2 t3 t4 t5 t6 p k 25 #[.bool false, .slice none 0 0]) (fun i v w => neΦ (.agg #[u1, u2]) (.agg #[v1, v2]) zn z i (v i) w) (by kernel_rfl) hok
    (fun i v v' w _ hj hΦ => by rw [← hj i (.inl rfl)]; exact hΦ) ?stab ?val ?box ?put rfl ?fin
  case stab =>
    intro i v hi
    match i with
    | 0 => exact Stable.const _ _
    | 1 => exact Stable.const _ _
    | 2 => exact Stable.isS _ _ _
    | 3 => exact Stable.isE _ _ _
    | 4 => exact Stable.isE _ _ _
    | 5 => exact Stable.isS _ _ _
    | i + 6 => exact Stable.const _ _
  case val =>
    intro i o ho hv a w hA hb hz hn K' hK
    match i, ho, hv with
    | 0, ho, _ =>
      have ho' : o0 = o := by simpa using ho
      subst ho'
      have e : a.eval (.tmp r) = .pointer (some ⟨g, 0, none⟩) := (hA.eval hrs).trans hr
      refine wp_value (v := .agg #[u1, u2]) (w' := w) ?_ (hK _ _ (Below.refl _ _) (by simp [upd, neΦ]))
      have d1 := (hb.cell (p := ⟨g, 0, none⟩) hg).trans c1
      have d2 := (hb.cell (p := ⟨g, 1, none⟩) hg).trans c2
      unfold execOp
      rw [h0]
      dsimp only
      rw [e]
      simp [go_sem, d1, d2]
    | 1, ho, _ =>
      have ho' : o1 = o := by simpa using ho
      subst ho'
      have e : a.eval (.tmp s) = .pointer (some ⟨h, 0, none⟩) := (hA.eval hss).trans hs
      refine wp_value (v := .agg #[v1, v2]) (w' := w) ?_ (hK _ _ (Below.refl _ _) (by simp [upd, neΦ]))
      have d1 := (hb.cell (p := ⟨h, 0, none⟩) hh).trans c3
      have d2 := (hb.cell (p := ⟨h, 1, none⟩) hh).trans c4
      unfold execOp
      rw [h1]
      dsimp only
      rw [e]
      simp [go_sem, d1, d2]
    | 2, ho, _ =>
      have ho' : o2 = o := by simpa using ho
      subst ho'
      have e : a.eval (.tmp t1) = .agg #[v1, v2] := hn 1 (by simp [neS]) rfl
      refine wp_call (run_call hfn hname hbody h2 a w) ?_ (fun v w' hb' hφ => hK v w' hb' (by simpa [upd, neΦ] using hφ))
      have em : Array.map a.eval #[Operand.tmp t1] = #[a.eval (.tmp t1)] := by simp only [List.map_toArray, List.map_cons, List.map_nil]
      rw [em, e]
      exact hc1 w (below_undrew hb)
    | 3, ho, _ =>
      have ho' : o3 = o := by simpa using ho
      subst ho'
      have e : a.eval (.tmp t0) = .agg #[u1, u2] := hn 0 (by simp [neS]) rfl
      obtain ⟨n, x, l, c, e2, y1, y2⟩ : IsS zn (a.eval (.tmp t2)) w := hn 2 (by simp [neS]) rfl
      refine wp_call (run_call hfn2 hname2 hbody2 h3 a w) ?_ (fun v w' hb' hφ => hK v w' hb' (by simpa [upd, neΦ] using hφ))
      have em : Array.map a.eval #[Operand.tmp t0, Operand.tmp t2] = #[a.eval (.tmp t0), a.eval (.tmp t2)] := by simp only [List.map_toArray, List.map_cons, List.map_nil]
      rw [em, e, e2]
      exact hc2 w n x l c (below_undrew hb) y1 y2
    | 4, ho, _ =>
      have ho' : o4 = o := by simpa using ho
      subst ho'
      have e : IsE z (a.eval (.tmp t3)) w := hn 3 (by simp [neS]) rfl
      exact wp_value (run_move h4 a w) (hK _ _ (Below.refl _ _) (by simpa [upd, neΦ] using e))
    | 5, ho, _ =>
      have ho' : o5 = o := by simpa using ho
      subst ho'
      obtain ⟨n, x, l, c, e, m1, y1⟩ : IsE z (a.eval (.tmp t4)) w := hn 4 (by simp [neS]) rfl
      exact wp_value (run_extract h5 e rfl w) (hK _ _ (Below.refl _ _) (by simp only [upd, neΦ, if_true]; exact ⟨n, x, l, c, rfl, m1, y1⟩))
    | 6, ho, _ =>
      have ho' : o6 = o := by simpa using ho
      subst ho'
      obtain ⟨n, x, l, c, e, m1, y1⟩ : IsE z (a.eval (.tmp t4)) w := hn 4 (by simp [neS]) rfl
      exact wp_value (run_extract h6 e rfl w) (hK _ _ (Below.refl _ _) (by simp [upd, neΦ]))
    | 9, ho, _ =>
      have ho' : o9 = o := by simpa using ho
      subst ho'
      have e : a.eval (.tmp t6) = .int .i64 0 := hn 6 (by simp [neS]) rfl
      exact wp_value (run_assign h9 a w) (hK _ _ (Below.refl _ _) (by simpa [upd, neΦ] using e))
    | 7, _, hv => cases hv
    | 8, _, hv => cases hv
    | i + 10, ho, _ => simp at ho
  case box =>
    intro i o T z ho hk a w
    match i, ho, hk with
    | 7, ho, hk => have ho' : o7 = o := by simpa using ho
                   subst ho'; cases hk; unfold execOp; rw [h7]; simp [go_sem]
    | 0, _, hk => cases hk
    | 1, _, hk => cases hk
    | 2, _, hk => cases hk
    | 3, _, hk => cases hk
    | 4, _, hk => cases hk
    | 5, _, hk => cases hk
    | 6, _, hk => cases hk
    | 8, _, hk => cases hk
    | 9, _, hk => cases hk
    | i + 10, ho, _ => simp at ho
  case put =>
    intro i o p' s' T z ho hk hp a w b hva hφ hbx
    match i, ho, hk with
    | 0, _, hk => cases hk
    | 1, _, hk => cases hk
    | 2, _, hk => cases hk
    | 3, _, hk => cases hk
    | 4, _, hk => cases hk
    | 5, _, hk => cases hk
    | 6, _, hk => cases hk
    | 7, _, hk => cases hk
    | 9, _, hk => cases hk
    | i + 10, ho, _ => simp at ho
    | 8, ho, hk =>
      have ho' : o8 = o := by simpa using ho
      subst ho'; cases hk; cases hp
      obtain ⟨n, x, l, c, e, _⟩ := hφ
      have e1 : a.eval (.tmp t5) = .agg #[.bool n, .slice x l c] := e
      have e2 : a.eval (.tmp p) = .pointer (some ⟨b, 0, none⟩) := hva
      have d1 := hbx.cell 0
      have d2 := hbx.cell 1
      have f1 := hbx.frozen 0
      have f2 := hbx.frozen 1
      refine ⟨[.bool n, .slice x l c], e, rfl, by simp [isInt], ?_⟩
      unfold execOp; rw [h8]
      dsimp only
      rw [e1, e2]
      simp [go_sem, d1, d2, f1, f2, setFrom]
  case fin =>
    intro a w blk hI
    have n8 : (#[o0, o1, o2, o3, o4, o5, o6, o7, o8, o9] : Array Oper).size = 10 := rfl
    rw [n8] at hI
    have hf := hI.agree.form
    have e0 : a.eval (.tmp t0) = .agg #[u1, u2] := hI.vals 0 (by decide) (by decide) rfl
    have e1 : a.eval (.tmp t1) = .agg #[v1, v2] := hI.vals 1 (by decide) (by decide) rfl
    obtain ⟨n, x, l, c, e5, a1, a3⟩ : IsS z (a.eval (.tmp t5)) w := hI.vals 5 (by decide) (by decide) rfl
    have e6 : a.eval (.tmp t6) = .int .i64 0 := hI.vals 6 (by decide) (by decide) rfl
    have e9 : a.eval (.tmp k) = .int .i64 0 := hI.vals 9 (by decide) (by decide) rfl
    obtain ⟨p1, p2, _, p3⟩ := hI.boxes 7 25 #[.bool false, .slice none 0 0] (by decide) (by decide) rfl
    obtain ⟨us, y1, y2, y3, y4⟩ := p3 (show (8 : Nat) < 10 by decide)
    have y5 : a.eval (.tmp t5) = .agg us.toArray := y1
    rw [e5] at y5
    cases y5
    have e7 : a.eval (.tmp p) = .pointer (some ⟨blk 7, 0, none⟩) := p1
    have hsl : (neS t0 t1 t2 t3 t4 t5 t6 p k 25 #[.bool false, .slice none 0 0]).slots 10 = [t0, t1, t2, t3, t4, t5, t6, p, k] := rfl
    rw [hsl] at hf
    simp only [List.map_cons, List.map_nil, e0, e1, e5, e6, e7, e9] at hf
    rw [hf]
    exact hend w (blk 7) n x l c _ _ _ (below_undrew hI.below) p2 y4 a1 a3
end Go.Proofs.YtcgnmihabkgecaaGreat

/- The laws' helper fine. -/
set_option linter.unusedVariables false
namespace Go.Proofs.YtcgnmihabkgecaaGreat
open Go.RowKit Go.Proofs

set_option maxHeartbeats 400000 in
theorem fine_any (ao : Option Addr) (len cap : Nat) (w : World) (h : Sl .i64 w ao len (List.replicate len 0)) (hl : len ≤ 1000000) :
    Calls Tryz.prog 18 #[.slice ao len cap] w fun e w' => e = .returned (.bool true) ∧ w = w' := by
  obtain ⟨hx, b, off, h0, hc⟩ := h
  have H0 := Lib.hid h0
  have HC : Hid (∀ i, i < len → w.cell? ⟨b, off + i, none⟩ = some (.int .i64 0)) := by
    intro i hi
    rw [hc i hi, List.getElem?_replicate, if_pos hi]; rfl
  clear hx h0 hc
  go_enter Tryz.func18, Tryz.ntmps18
  go_wp2
  go_loop [7] (fun iv => ∃ i : Nat, i ≤ len ∧ iv = .int .i64 (i : Int)) (fun iv => len - (intOf iv).toNat)
  case atStart => exact ⟨0, by omega, rfl⟩
  case round =>
    obtain ⟨i, hi, rfl⟩ := hrel
    by_cases hil : i < len
    · obtain rfl := H0.out (by omega)
      have c1 := HC.out i hil
      have b1 : (i : Int) < (len : Int) := by omega
      have b2 : (0 : Int) ≤ (i : Int) := by omega
      go_wp2
      go_round
      case rel => exact ⟨i + 1, by omega, by go_num⟩
      case measure => simp only [intOf]; omega
    · have b1 : ¬ (i : Int) < (len : Int) := by omega
      go_wp2
      go_ret
      exact ⟨rfl, rfl⟩
end Go.Proofs.YtcgnmihabkgecaaGreat

/- Facts for the laws of rings. -/
set_option linter.unusedVariables false
namespace Go.Proofs.YtcgnmihabkgecaaGreat
open Go.RowKit Go.Proofs

def Bl (k : Nat) (z : Int) : Prop := blen z.natAbs ≤ k

theorem Bl.fits {k : Nat} {z : Int} (h : Bl k z) (hk : k ≤ 16384) : Fits z := Nat.le_trans h hk
theorem Bl.mono {k j : Nat} {z : Int} (h : Bl k z) (hk : k ≤ j) : Bl j z := Nat.le_trans h hk
theorem Bl.neg {k : Nat} {z : Int} (h : Bl k z) : Bl k (-z) := by unfold Bl at *; rwa [Int.natAbs_neg]
theorem Bl.add {k : Nat} {x y : Int} (hx : Bl k x) (hy : Bl k y) : Bl (k + 1) (x + y) := by
  unfold Bl at *
  rw [blen_le] at *
  have := Int.natAbs_add_le x y
  rw [Nat.pow_succ]
  omega
theorem Bl.sub {k : Nat} {x y : Int} (hx : Bl k x) (hy : Bl k y) : Bl (k + 1) (x - y) := hx.add hy.neg
theorem Bl.mul {j k : Nat} {x y : Int} (hx : Bl j x) (hy : Bl k y) : Bl (j + k) (x * y) := by
  unfold Bl at *
  rw [blen_le] at *
  rw [Int.natAbs_mul, Nat.pow_add]
  exact Nat.mul_lt_mul'' hx hy

theorem rawZ_bl (s : Bool) (xs : List Nat) (hd : Dig B16 xs) (most : Nat) : Bl (16 * most) (rawZ s xs most) := by
  have h1 := rawZ_lt s xs hd most
  rw [B16_pow] at h1
  exact blen_le.2 h1

def OutE (W : World) (z : Int) (e : Ending) (w' : World) : Prop :=
  ∃ neg ao len cap, e = .returned (.tuple #[.agg #[.bool neg, .slice ao len cap], .int .i64 0]) ∧ len ≤ 512 ∧ Z32 w' neg ao len z ∧ Below W.heap.size W w'

theorem OutF.fine {W w' : World} {z : Int} {e : Ending} (h : OutF W z e w') (hf : Fits z) : OutE W z e w' := by
  rcases h with ⟨_, n, o, l, c, rfl, hz, hb⟩ | ⟨hn, _⟩
  · exact ⟨n, o, l, c, rfl, fits_len hz hf, hz, hb⟩
  · exact absurd hf hn

theorem OutI.small {W w' : World} {z : Int} {e : Ending} (h : OutI W z e w') (hf : Fits z) : ∃ v, e = .returned v ∧ IsS z v w' ∧ Below W.heap.size W w' := by
  obtain ⟨n, o, l, c, rfl, hz, hb⟩ := h
  exact ⟨_, rfl, ⟨n, o, l, c, rfl, fits_len hz hf, hz⟩, hb⟩

theorem MadePost.fits {z : Int} {W w' : World} {e : Ending} (h : MadePost z W e w') (hf : Fits z) :
    ∃ neg ao len cap, e = .returned (.tuple #[.agg #[.bool neg, .slice ao len cap], .bool true]) ∧ len ≤ 512 ∧ Z32 w' neg ao len z ∧ Below W.heap.size W w' := by
  obtain ⟨n, o, l, c, ok, z', rfl, hl, hz, hb, ⟨_, rfl, rfl⟩ | ⟨hn, _⟩⟩ := h
  · exact ⟨n, o, l, c, rfl, hl, hz, hb⟩
  · exact absurd hf hn

/-- a row of zeros that was just made -/
theorem zeros_sl (W : World) (e n : Nat) (c : Array Value) (hc : c = cs .i64 (List.replicate n 0)) : Sl .i64 (W.alloc (.cells c e)) (some ⟨W.heap.size, 0, none⟩) n (List.replicate n 0) :=
  (Blk.new' W .i64 e (List.replicate n 0) c hc).whole (by simp)

theorem below_made {V w' : World} {o : Obj} (hb : Below (V.drew.alloc o).heap.size (V.drew.alloc o) w') : Below V.heap.size V w' :=
  below_then (((Below.refl _ _).drew).alloc (Nat.le_refl _) o) hb
end Go.Proofs.YtcgnmihabkgecaaGreat

/- The specification's text of a fraction; Floor. -/
set_option linter.unusedVariables false
namespace Go.Proofs.YtcgnmihabkgecaaGreat
open Go.RowKit

set_option maxHeartbeats 1000000 in
theorem text16Q_any (s1 s2 : Bool) (o1 o2 : Option Addr) (l1 l2 c1 c2 : Nat) (p : Int) (q : Nat) (W : World) (h1 : Z16 W s1 o1 l1 p) (h2 : Z16 W s2 o2 l2 (q : Int)) (hl1 : l1 ≤ 100000000) (hl2 : l2 ≤ 100000000) :
    Calls Tryz.prog 42 #[.agg #[.bool s1, .slice o1 l1 c1, .bool s2, .slice o2 l2 c2]] W (StrPost (textQ p q) W) := by
  have hf : Fr W (W.alloc (.cells #[.bool s1, .slice o1 l1 c1, .bool s2, .slice o2 l2 c2] 35)) [(35, #[.bool s1, .slice o1 l1 c1, .bool s2, .slice o2 l2 c2])] := (Fr.nil W).alloc rfl _ _
  have HP := Lib.hid (h1.keep hf.below)
  have HQ := Lib.hid (h2.keep hf.below)
  have hl1' : p.natAbs < B32 ^ l1 := Nat.lt_of_lt_of_le h1.n16.lt (Nat.pow_le_pow_left (by decide) _)
  have hl2' : q < B32 ^ l2 := Nat.lt_of_lt_of_le (by have := h2.n16.lt; simpa using this) (Nat.pow_le_pow_left (by decide) _)
  have hn1 := numeralZ_len hl1'
  have hn2 := numeral_len hl2'
  have HL1 : Hid (¬ 9223372036854775807 < (numeralZ p).length + 1) := by show ¬ _; omega
  have HL2 : Hid (¬ 9223372036854775807 < (numeralZ p).length + 1 + (numeral q).length) := by show ¬ _; omega
  have HNZ : Hid (numeralZ (q : Int) = numeral q) := numeralZ_pos q
  clear h1 h2 hl1' hl2' hn1 hn2
  go_enter Tryz.func42, Tryz.ntmps42
  go_wp2_with fail
  obtain ⟨W3, hW3⟩ : ∃ W3, W3 = W.alloc (.cells #[.bool s1, .slice o1 l1 c1, .bool s2, .slice o2 l2 c2] 35) := ⟨_, rfl⟩
  rw [← hW3] at hf HP HQ ⊢
  clear hW3
  have HF := Lib.hid hf
  clear hf
  have b0 : W3.cell? ⟨W.heap.size, 0, none⟩ = some (.bool s1) := HF.out.cell 0 0 rfl rfl
  have b1 : W3.cell? ⟨W.heap.size, 1, none⟩ = some (.slice o1 l1 c1) := HF.out.cell 0 1 rfl rfl
  have b2 : W3.cell? ⟨W.heap.size, 2, none⟩ = some (.bool s2) := HF.out.cell 0 2 rfl rfl
  have b3 : W3.cell? ⟨W.heap.size, 3, none⟩ = some (.slice o2 l2 c2) := HF.out.cell 0 3 rfl rfl
  go_region_held3 (fun w' => w'.cell? ⟨W.heap.size, 2, none⟩ = some (.bool s2) ∧ w'.cell? ⟨W.heap.size, 3, none⟩ = some (.slice o2 l2 c2)) (go_keep)
    (first | (go_at_call 36; refine (refOf_any 1 W3.drew (by omega) (by omega)).mono ?_; rintro e u1 ⟨s3, o3, l3, c3, rfl, hlc3, hcm3, hz, hb1⟩; have HB1 := Lib.hid (below_of_drew hb1); have HO := Lib.hid hz; have hl3 : l3 ≤ 1000000000 := Nat.le_trans (hz.n16.len_le (k := 1) (by decide)) (by decide); have HF1 := Lib.hid (HF.out.later HB1.out); have HQ1 := Lib.hid (HQ.out.keep HB1.out); have HP1 := Lib.hid (HP.out.keep HB1.out); clear hb1 hz; have k0 : u1.cell? ⟨W.heap.size, 2, none⟩ = some (.bool s2) := HF1.out.cell 0 2 rfl rfl; have k1 : u1.cell? ⟨W.heap.size, 3, none⟩ = some (.slice o2 l2 c2) := HF1.out.cell 0 3 rfl rfl) | (go_at_call 39; refine (cmpZ16_any _ _ _ _ _ _ _ _ (q : Int) 1 _ HQ1.out HO.out (by omega) hl3 hlc3 hcm3).mono ?_; rintro e u2 ⟨rfl, hb2⟩; have HF2 := Lib.hid (HF1.out.later hb2); have HP2 := Lib.hid (HP1.out.keep hb2); have HQ2 := Lib.hid (HQ1.out.keep hb2); clear hb2; have j0 : u2.cell? ⟨W.heap.size, 2, none⟩ = some (.bool s2) := HF2.out.cell 0 2 rfl rfl; have j1 : u2.cell? ⟨W.heap.size, 3, none⟩ = some (.slice o2 l2 c2) := HF2.out.cell 0 3 rfl rfl))
  have m0 : u2.cell? ⟨W.heap.size, 0, none⟩ = some (.bool s1) := HF2.out.cell 0 0 rfl rfl
  have m1 : u2.cell? ⟨W.heap.size, 1, none⟩ = some (.slice o1 l1 c1) := HF2.out.cell 0 1 rfl rfl
  by_cases hq : q = 1
  · have hs : ((q : Int) - 1).sign = 0 := by subst hq; rfl
    have HE : Hid (textQ p q = numeralZ p) := by unfold textQ; rw [if_pos hq]; rfl
    rw [HE.out, hs]
    clear hs hq
    go_wp2_with fail
    refine (text16_any _ _ _ _ p _ HP2.out (by omega)).mono ?_
    rintro e w3 ⟨rfl, hb3⟩
    have HF3 := Lib.hid (HF2.out.later hb3)
    clear hb3
    go_wp2
    go_ret
    exact ⟨by rw [HE.out]; rfl, HF3.out.below⟩
  · have HE : Hid (textQ p q = numeralZ p ++ [47] ++ numeral q) := by unfold textQ; rw [if_neg hq]; rfl
    obtain ⟨t, ht⟩ : ∃ t, t = ((q : Int) - 1).sign := ⟨_, rfl⟩
    have hs : (t == 0) = false := by
      rw [ht]
      have : ((q : Int) - 1).sign ≠ 0 := fun h => by
        have := Int.sign_eq_zero_iff_zero.1 h
        omega
      simp [this]
    rw [HE.out, ← ht]
    clear hq ht
    have l1' := HL1.out
    have l2' := HL2.out
    go_wp2_with fail
    go_region_held3 (fun w' => w'.cell? ⟨W.heap.size, 0, none⟩ = some (.bool s1) ∧ w'.cell? ⟨W.heap.size, 1, none⟩ = some (.slice o1 l1 c1) ∧ w'.cell? ⟨W.heap.size, 2, none⟩ = some (.bool s2) ∧ w'.cell? ⟨W.heap.size, 3, none⟩ = some (.slice o2 l2 c2)) (go_keep)
      (first | (go_at_call 90; refine (text16_any s2 _ _ _ (q : Int) _ HQ3.out (by omega)).mono ?_; rw [HNZ.out]; rintro e u4 ⟨rfl, hb⟩; have HF4 := Lib.hid (HF3.out.later hb); clear hb; have q0 : u4.cell? ⟨W.heap.size, 0, none⟩ = some (.bool s1) := HF4.out.cell 0 0 rfl rfl; have q1 : u4.cell? ⟨W.heap.size, 1, none⟩ = some (.slice o1 l1 c1) := HF4.out.cell 0 1 rfl rfl; have q2 : u4.cell? ⟨W.heap.size, 2, none⟩ = some (.bool s2) := HF4.out.cell 0 2 rfl rfl; have q3 : u4.cell? ⟨W.heap.size, 3, none⟩ = some (.slice o2 l2 c2) := HF4.out.cell 0 3 rfl rfl) | (go_at_call 90; refine (text16_any s1 _ _ _ p u2.drew (HP2.out.keep (Below.refl _ _).drew) (by omega)).mono ?_; rintro e u3 ⟨rfl, hb⟩; have HB3 := Lib.hid (below_of_drew hb); have HF3 := Lib.hid (HF2.out.later HB3.out); have HQ3 := Lib.hid (HQ2.out.keep HB3.out); clear hb; have p0 : u3.cell? ⟨W.heap.size, 0, none⟩ = some (.bool s1) := HF3.out.cell 0 0 rfl rfl; have p1 : u3.cell? ⟨W.heap.size, 1, none⟩ = some (.slice o1 l1 c1) := HF3.out.cell 0 1 rfl rfl; have p2 : u3.cell? ⟨W.heap.size, 2, none⟩ = some (.bool s2) := HF3.out.cell 0 2 rfl rfl; have p3 : u3.cell? ⟨W.heap.size, 3, none⟩ = some (.slice o2 l2 c2) := HF3.out.cell 0 3 rfl rfl))
    go_wp2
    go_ret
    refine ⟨?_, HF4.out.below⟩
    rw [HE.out]
    have h1 := bytes_append (numeralZ p) [47]
    have h2 := bytes_append (numeralZ p ++ [47]) (numeral q)
    rw [← h1] at h2
    exact congrArg (fun x => Ending.returned (Value.string x)) h2

end Go.Proofs.YtcgnmihabkgecaaGreat
