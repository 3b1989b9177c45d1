/- The specification's integers: made, Of, bitLen, BitLen, Sign. -/
import Derived.Test.YtdnnjjclklcihaaRefA
set_option linter.unusedVariables false
namespace Go.Proofs.Ytdnnjjclklcihaa
open Go.RowKit

def Z16 (w : World) (neg : Bool) (ao : Option Addr) (len : Nat) (z : Int) : Prop := ∃ n, N16 w ao len n ∧ z = sgn neg n ∧ (neg = true → n ≠ 0)

theorem Z16.keep {w w' : World} {neg : Bool} {ao : Option Addr} {len : Nat} {z : Int} (h : Z16 w neg ao len z) (hb : Below w.heap.size w w') : Z16 w' neg ao len z := by
  obtain ⟨n, h1, h2⟩ := h
  exact ⟨n, h1.keep hb, h2⟩

theorem Z16.n16 {w : World} {neg : Bool} {ao : Option Addr} {len : Nat} {z : Int} (h : Z16 w neg ao len z) : N16 w ao len z.natAbs := by
  obtain ⟨n, h1, rfl, _⟩ := h
  rw [sgn_natAbs]; exact h1

theorem Z16.neg_eq {w : World} {neg : Bool} {ao : Option Addr} {len : Nat} {z : Int} (h : Z16 w neg ao len z) : neg = decide (z < 0) := by
  obtain ⟨n, h1, rfl, h3⟩ := h
  cases neg with
  | true => have := h3 rfl; simp only [sgn, if_true]; symm; simp; omega
  | false => simp [sgn]

theorem Z16.zero {w : World} {neg : Bool} {ao : Option Addr} {len : Nat} {z : Int} (h : Z16 w neg ao len z) : z = 0 ↔ len = 0 := by
  rw [← h.n16.zero]; omega

theorem N16.setFr {W w : World} {bs : List (Nat × Array Value)} {ao : Option Addr} {len n : Nat} (h : N16 w ao len n) (hf : Fr W w bs) (i j : Nat) {T : Nat} {c : Array Value} (hi : bs[i]? = some (T, c)) (hc : noInts c = true) (u : Value) :
    N16 (w.setCell ⟨W.heap.size + i, j, none⟩ u) ao len n := by
  obtain ⟨xs, h1, h2⟩ := h
  exact ⟨xs, h1.setBox (hf.box i T c hi) (noInts_get hc) j u, h2⟩

theorem Z16.setFr {W w : World} {bs : List (Nat × Array Value)} {neg : Bool} {ao : Option Addr} {len : Nat} {z : Int} (h : Z16 w neg ao len z) (hf : Fr W w bs) (i j : Nat) {T : Nat} {c : Array Value} (hi : bs[i]? = some (T, c)) (hc : noInts c = true) (u : Value) :
    Z16 (w.setCell ⟨W.heap.size + i, j, none⟩ u) neg ao len z := by
  obtain ⟨n, h1, h2⟩ := h
  exact ⟨n, h1.setFr hf i j hi hc u, h2⟩

/-- an integer of the specification is stored in the call's own block number i -/
theorem Fr.finJ {W w : World} {bs : List (Nat × Array Value)} {neg : Bool} {ao : Option Addr} {len cap : Nat} {z : Int} (hf : Fr W w bs) (i : Nat) {T : Nat} {e0 : Bool} {a1 : Option Addr} {l1 c1 : Nat}
    (hi : bs[i]? = some (T, #[.bool e0, .slice a1 l1 c1])) (h : Z16 w neg ao len z) :
    let w' := (w.setCell ⟨W.heap.size + i, 0, none⟩ (.bool neg)).setCell ⟨W.heap.size + i, 1, none⟩ (.slice ao len cap)
    w'.cell? ⟨W.heap.size + i, 0, none⟩ = some (.bool neg) ∧ w'.cell? ⟨W.heap.size + i, 1, none⟩ = some (.slice ao len cap) ∧ Z16 w' neg ao len z ∧ Below W.heap.size W w' ∧ Fr W w' (bs.set i (T, #[.bool neg, .slice ao len cap])) := by
  have hl := (List.getElem?_eq_some_iff.1 hi).1
  have k1 := hf.set i 0 hi (.bool neg)
  have i1 : (bs.set i (T, #[.bool neg, .slice a1 l1 c1]))[i]? = some (T, #[.bool neg, .slice a1 l1 c1]) := List.getElem?_set_self hl
  have q1 := h.setFr hf i 0 hi rfl (.bool neg)
  have k2 := k1.set i 1 i1 (.slice ao len cap)
  have i2 : ((bs.set i (T, #[.bool neg, .slice a1 l1 c1])).set i (T, #[.bool neg, .slice ao len cap]))[i]? = some (T, #[.bool neg, .slice ao len cap]) := List.getElem?_set_self (by simpa using hl)
  have q2 := q1.setFr k1 i 1 i1 rfl (.slice ao len cap)
  refine ⟨k2.cell i 0 i2 rfl, k2.cell i 1 i2 rfl, q2, k2.below, ?_⟩
  have := k2
  rw [List.set_set] at this
  exact this

def OutJ (W : World) (z : Int) (e : Ending) (w' : World) : Prop := ∃ neg ao len cap, e = .returned (.agg #[.bool neg, .slice ao len cap]) ∧ len ≤ cap ∧ cap ≤ 9223372036854775807 ∧ Z16 w' neg ao len z ∧ Below W.heap.size W w'

/-- made of a row that may have zeros at its top -/
theorem made_raw (s : Bool) (ao : Option Addr) (len cap n : Nat) (xs : List Nat) (W : World) (h : Sl .i64 W ao len xs) (hd : Dig B16 xs) (hv : val B16 xs = n) (hcap : len ≤ cap) (hl : cap ≤ 9223372036854775807) :
    Calls Try.prog 64 #[.bool s, .slice ao len cap] W (OutJ W (sgn s n)) := by
  have HS := Lib.hid (h.keep (box_below W 28 #[.bool false, .slice none 0 0]))
  have H0 := Lib.hid h
  have HD := Lib.hid hd
  have HV := Lib.hid hv
  clear h hd hv
  go_enter Try.func64, Try.ntmps64
  go_wp2_with fail
  refine (trim16_raw _ _ _ xs _ HS.out hcap hl).mono ?_
  rintro e w1 ⟨⟨ao', m, rfl, hm, ha', ht, hz⟩, rfl⟩
  have hN : N16 W ao' m n := ⟨xs.take m, trim_sl H0.out hm ha', HD.out.take _, ht, by rw [val_take_of_zeros hz]; exact HV.out⟩
  have hnz := hN.zero
  have HN := Lib.hid hN
  have HNZ := Lib.hid hnz
  have hmc : m ≤ cap := by omega
  clear ha' ht hz hN hnz
  cases s with
  | false =>
    go_wp2
    exact bodyPost_ret (v := .agg #[.bool false, .slice ao' m cap]) (by simp [results, Try.results64, go_sem]) rfl ⟨false, ao', m, cap, rfl, hmc, hl, ⟨n, HN.out.keep (box_below _ _ _), rfl, by simp⟩, box_below _ _ _⟩
  | true =>
    by_cases h0 : m = 0
    · have q3 : decide (0 < m) = false := by simp; omega
      have q1 : ¬ (0 : Int) < (m : Int) := by omega
      have hn0 := Lib.hid (HNZ.out.2 h0)
      clear h0
      go_wp2
      exact bodyPost_ret (v := .agg #[.bool false, .slice ao' m cap]) (by simp [results, Try.results64, go_sem]) rfl ⟨false, ao', m, cap, rfl, hmc, hl, ⟨n, HN.out.keep (box_below _ _ _), by rw [hn0.out]; rfl, by simp⟩, box_below _ _ _⟩
    · have q3 : decide (0 < m) = true := by simp; omega
      have q1 : (0 : Int) < (m : Int) := by omega
      have hn0 : Hid (n ≠ 0) := fun h => h0 (HNZ.out.1 h)
      clear h0
      go_wp2
      exact bodyPost_ret (v := .agg #[.bool true, .slice ao' m cap]) (by simp [results, Try.results64, go_sem]) rfl ⟨true, ao', m, cap, rfl, hmc, hl, ⟨n, HN.out.keep (box_below _ _ _), rfl, fun _ => hn0.out⟩, box_below _ _ _⟩

theorem made_any (s : Bool) (ao : Option Addr) (len cap n : Nat) (W : World) (h : N16 W ao len n) (hcap : len ≤ cap) (hl : cap ≤ 9223372036854775807) :
    Calls Try.prog 64 #[.bool s, .slice ao len cap] W (OutJ W (sgn s n)) := by
  obtain ⟨xs, h1, h2, h3, h4⟩ := h
  exact made_raw s ao len cap n xs W h1 h2 h4 hcap hl

set_option maxHeartbeats 800000 in
theorem refOf_any (z : Int) (W : World) (h1 : -9223372036854775808 ≤ z) (h2 : z ≤ 9223372036854775807) :
    Calls Try.prog 16 #[.int .i64 z] W (OutJ W z) := by
  have hf : Fr W (W.alloc (.cells #[.bool false, .slice none 0 0] 28)) [(28, #[.bool false, .slice none 0 0])] := (Fr.nil W).alloc rfl _ _
  have HF := Lib.hid hf
  clear hf
  by_cases h0 : 0 ≤ z
  · obtain ⟨n, rfl⟩ : ∃ n : Nat, z = (n : Int) := ⟨z.toNat, by omega⟩
    have b1 : (n : Int) ≤ 9223372036854775807 := h2
    go_enter Try.func16, Try.ntmps16
    go_wp2_with fail
    refine (of_any _ n _ rfl (by omega)).mono ?_
    rintro e w1 ⟨ao, len, cap, rfl, hlc, hcm, hn1, hb1⟩
    have HF1 := Lib.hid (HF.out.later hb1)
    have HN := Lib.hid hn1
    clear hn1 hb1
    go_wp2_with fail
    refine (made_any false ao len cap n w1 HN.out hlc hcm).mono ?_
    rintro e w2 ⟨neg, uo, ul, uc, rfl, huc, hum, hz2, hb2⟩
    have HF2 := Lib.hid (HF1.out.later hb2)
    have HZ2 := Lib.hid hz2
    clear hz2 hb2
    have g0 : w2.cell? ⟨W.heap.size, 0, none⟩ = some (.bool false) := HF2.out.cell 0 0 rfl rfl
    have g1 : w2.cell? ⟨W.heap.size, 1, none⟩ = some (.slice none 0 0) := HF2.out.cell 0 1 rfl rfl
    have g2 : w2.frozen? ⟨W.heap.size, 0, none⟩ = false := HF2.out.frozen 0 0 rfl
    have g3 : w2.frozen? ⟨W.heap.size, 1, none⟩ = false := HF2.out.frozen 0 1 rfl
    go_wp2
    obtain ⟨e0, e1, hz, hbel, _⟩ := HF2.out.finJ (cap := uc) 0 rfl HZ2.out
    exact bodyPost_ret (v := .agg #[.bool neg, .slice uo ul uc]) (by simp only [Nat.add_zero] at e0 e1; simp [results, Try.results16, go_sem, e0, e1]) rfl ⟨neg, uo, ul, uc, rfl, huc, hum, hz, hbel⟩
  · have b0 : z < 0 := by omega
    clear h0
    go_enter Try.func16, Try.ntmps16
    go_wp2_with fail
    refine (of_any _ (-(z + 1)).toNat _ (by omega) (by omega)).mono ?_
    rintro e w1 ⟨ao, len, cap, rfl, hlc, hcm, hn1, hb1⟩
    have hl1 : len ≤ 4 := hn1.len_le (by have : B16 ^ 4 = 18446744073709551616 := by decide
                                         omega)
    have HF1 := Lib.hid (HF.out.later hb1)
    have HN := Lib.hid hn1
    clear hn1 hb1
    go_wp2_with fail
    refine (of_any 1 1 _ rfl (by omega)).mono ?_
    rintro e w2 ⟨bo, bl, bc, rfl, hlc2, hcm2, hn2, hb2⟩
    have hl2 : bl ≤ 1 := hn2.len_le (by decide)
    have HF2 := Lib.hid (HF1.out.later hb2)
    have HN2 := Lib.hid (HN.out.keep hb2)
    have HB2 := Lib.hid hn2
    clear hn2 hb2
    go_wp2_with fail
    refine (add_any _ _ _ _ _ _ _ _ _ HN2.out HB2.out (by omega) (by omega)).mono ?_
    rintro e w3 ⟨so, sl, sc, rfl, hlc3, hcm3, hn3, hb3⟩
    have HF3 := Lib.hid (HF2.out.later hb3)
    have HN3 := Lib.hid hn3
    clear hn3 hb3
    go_wp2_with fail
    refine (made_any true so sl sc _ w3 HN3.out hlc3 hcm3).mono ?_
    rintro e w4 ⟨neg, uo, ul, uc, rfl, huc, hum, hz4, hb4⟩
    have HF4 := Lib.hid (HF3.out.later hb4)
    have hz5 : Z16 w4 neg uo ul z := by
      have e : sgn true ((-(z + 1)).toNat + 1) = z := by rw [sgn_true]; omega
      rw [e] at hz4
      exact hz4
    have HZ4 := Lib.hid hz5
    clear hz4 hb4 hz5
    have g0 : w4.cell? ⟨W.heap.size, 0, none⟩ = some (.bool false) := HF4.out.cell 0 0 rfl rfl
    have g1 : w4.cell? ⟨W.heap.size, 1, none⟩ = some (.slice none 0 0) := HF4.out.cell 0 1 rfl rfl
    have g2 : w4.frozen? ⟨W.heap.size, 0, none⟩ = false := HF4.out.frozen 0 0 rfl
    have g3 : w4.frozen? ⟨W.heap.size, 1, none⟩ = false := HF4.out.frozen 0 1 rfl
    go_wp2
    obtain ⟨e0, e1, hz, hbel, _⟩ := HF4.out.finJ (cap := uc) 0 rfl HZ4.out
    exact bodyPost_ret (v := .agg #[.bool neg, .slice uo ul uc]) (by simp only [Nat.add_zero] at e0 e1; simp [results, Try.results16, go_sem, e0, e1]) rfl ⟨neg, uo, ul, uc, rfl, huc, hum, hz, hbel⟩

set_option maxHeartbeats 400000 in
theorem sign16_any (neg : Bool) (ao : Option Addr) (len cap : Nat) (z : Int) (W : World) (h : Z16 W neg ao len z) :
    Calls Try.prog 22 #[.agg #[.bool neg, .slice ao len cap]] W (fun e w' => e = .returned (.int .i64 z.sign) ∧ Below W.heap.size W w') := by
  have hne := h.neg_eq
  have hz := h.zero
  cases neg with
  | true =>
    have hs : z.sign = -1 := Int.sign_eq_neg_one_of_neg (by simpa using hne.symm)
    rw [hs]
    clear h hne hz hs
    go_enter Try.func22, Try.ntmps22
    go_wp2
    go_ret
    exact ⟨rfl, box_below _ _ _⟩
  | false =>
    have hnn : 0 ≤ z := by have := hne.symm; simp at this; omega
    by_cases hl : 0 < len
    · have hs : z.sign = 1 := Int.sign_eq_one_of_pos (by omega)
      rw [hs]
      have b1 : (0 : Int) < (len : Int) := by omega
      have b2 : decide (0 < len) = true := by simp; omega
      clear h hne hz hs hl
      go_enter Try.func22, Try.ntmps22
      go_wp2
      go_ret
      exact ⟨rfl, box_below _ _ _⟩
    · have hs : z.sign = 0 := by rw [show z = 0 by omega]; rfl
      rw [hs]
      have b1 : ¬ (0 : Int) < (len : Int) := by omega
      have b2 : decide (0 < len) = false := by simp; omega
      clear h hne hz hs hl
      go_enter Try.func22, Try.ntmps22
      go_wp2
      go_ret
      exact ⟨rfl, box_below _ _ _⟩

theorem blen_half {t : Nat} (h : 0 < t) : blen t = blen (t / 2) + 1 := by
  by_cases h1 : t = 1
  · subst h1; decide
  · have a := blen_low (n := t / 2) (by omega)
    have b := blen_lt (t / 2)
    have c : blen (t / 2) ≠ 0 := by intro e; rw [e] at b; simp at b; omega
    exact blen_eq (by rw [show blen (t / 2) = (blen (t / 2) - 1) + 1 by omega, Nat.pow_succ]; omega) (by rw [Nat.pow_succ]; omega)

theorem blen_digits16 {n m t l : Nat} (hm : m < 2 ^ (16 * l)) (ht : t ≠ 0) (hn : n = m + 2 ^ (16 * l) * t) : blen n = 16 * l + blen t := by
  have h1 := blen_low ht
  have h2 := blen_lt t
  have h3 : blen t ≠ 0 := by intro e; rw [e] at h2; simp at h2; omega
  have e : blen n = (16 * l + (blen t - 1)) + 1 := by
    apply blen_eq
    · rw [Nat.pow_add]
      have := Nat.mul_le_mul_left (2 ^ (16 * l)) h1
      omega
    · rw [Nat.add_assoc, show blen t - 1 + 1 = blen t by omega, Nat.pow_add]
      have := Nat.mul_le_mul_left (2 ^ (16 * l)) (Nat.succ_le_of_lt h2)
      rw [Nat.succ_eq_add_one, Nat.mul_add] at this
      omega
  omega

theorem B16_pow (k : Nat) : B16 ^ k = 2 ^ (16 * k) := by
  rw [Nat.pow_mul]; rfl

set_option maxHeartbeats 400000 in
theorem bitLen16_raw (ao : Option Addr) (len cap : Nat) (n : Nat) (w : World) (hs : N16 w ao len n) (hl : len ≤ 1000000000) :
    Calls Try.prog 69 #[.slice ao len cap] w fun e w' => e = .returned (.int .i64 (blen n : Nat)) ∧ w = w' := by
  obtain ⟨xs, ⟨hx, b, off, h0, hc⟩, hd, ht, hv⟩ := hs
  by_cases hz : len = 0
  · have hn : n = 0 := by
      obtain rfl : xs = [] := List.eq_nil_of_length_eq_zero (by omega)
      exact hv.symm
    rw [hn]
    subst hz
    clear hx hc hv hd ht h0 hl hn
    go_enter Try.func69, Try.ntmps69
    go_wp2
    go_ret
    exact ⟨rfl, rfl⟩
  · obtain ⟨m, rfl⟩ : ∃ m, len = m + 1 := ⟨len - 1, by omega⟩
    obtain rfl := h0 (by omega)
    have hcell := hc m (by omega)
    have hb := hd.get B16_pos m
    have hne : xs[m]?.getD 0 ≠ 0 := by
      have := ht (by intro e; simp [e] at hx)
      rw [List.getLastD_eq_getLast?, List.getLast?_eq_getElem?, hx] at this
      simpa using this
    have hval : n = val B16 (xs.take m) + 2 ^ (16 * m) * (xs[m]?.getD 0) := by
      rw [← hv, ← B16_pow, ← val_take_succ, List.take_of_length_le (by omega)]
    have hlt : val B16 (xs.take m) < 2 ^ (16 * m) := by
      have := val_lt B16_pos (hd.take m)
      rw [List.length_take, Nat.min_eq_left (by omega), B16_pow] at this
      exact this
    have hfin := blen_digits16 hlt hne hval
    rw [hfin]
    obtain ⟨x, hxe⟩ : ∃ x, x = xs[m]?.getD 0 := ⟨_, rfl⟩
    rw [← hxe] at hcell hb hne ⊢
    rw [B16_eq] at hb
    have hm : m ≤ 1000000000 := by omega
    clear hx hc hv hd ht h0 hl hz hval hlt hfin hxe hne
    go_enter Try.func69, Try.ntmps69
    go_wp2_with fail
    go_loop [3, 4] (fun nv xv => ∃ (k t : Nat), nv = .int .i64 (k : Int) ∧ xv = .int .i64 (t : Int) ∧ k + blen t = 16 * m + blen x ∧ t < 65536 ∧ k ≤ 16 * m + blen x) (fun nv xv => (intOf xv).toNat)
    case atStart => exact ⟨16 * m, x, by first | rfl | exact congrArg (Value.int _) (by omega), rfl, rfl, hb, by omega⟩
    case round =>
      obtain ⟨k, t, rfl, rfl, hk, ht, hkk⟩ := hrel
      have HK := Lib.hid hk
      have hbx : blen x ≤ 16 := blen_le.2 hb
      have hk32 : k ≤ 16000000016 := by omega
      clear hk hkk hbx
      by_cases ht0 : t = 0
      · subst ht0
        go_wp2
        go_ret
        exact ⟨ret_int (by have := HK.out; rw [blen_zero] at this; omega), rfl⟩
      · have t1 : (0 : Int) < (t : Int) := by omega
        go_wp2
        go_round
        case rel => exact ⟨k + 1, t / 2, by go_num, congrArg (Value.int _) (by omega), by have := HK.out; have := blen_half (t := t) (by omega); omega, by omega, by have := HK.out; have := blen_half (t := t) (by omega); omega⟩
        case measure => simp only [intOf]; omega

set_option maxHeartbeats 400000 in
theorem bitLen16_any (neg : Bool) (ao : Option Addr) (len cap : Nat) (z : Int) (W : World) (h : Z16 W neg ao len z) (hl : len ≤ 1000000000) :
    Calls Try.prog 20 #[.agg #[.bool neg, .slice ao len cap]] W (fun e w' => e = .returned (.int .i64 (blen z.natAbs : Nat)) ∧ Below W.heap.size W w') := by
  have HN := Lib.hid (h.n16.keep (box_below W 28 #[.bool neg, .slice ao len cap]))
  clear h
  go_enter Try.func20, Try.ntmps20
  go_wp2_with (go_at_call 69; refine (bitLen16_raw _ _ _ _ _ HN.out hl).mono ?_; rintro e w1 ⟨rfl, rfl⟩)
  go_ret
  exact ⟨rfl, box_below _ _ _⟩
end Go.Proofs.Ytdnnjjclklcihaa
