/- Part 5 of the contracts: RefA, RefB, RefC, Law1, RefD, Plus, RefE, RefF, Whole. -/
import Derived.Test.YtcgnmihabkgecaaPart4

/- The specification's numbers: rows of digits to the base 2^16. at, trim, of, add. -/
set_option linter.unusedVariables false
namespace Go.Proofs.Ytcgnmihabkgecaa
open Go.RowKit

def B16 : Nat := 65536
theorem B16_eq : B16 = 65536 := rfl
theorem B16_pos : 0 < B16 := by decide
theorem B16_gt : 1 < B16 := by decide

/-- The slice is the digits to the base 2^16 of n, without a zero at the top. -/
def N16 (w : World) (ao : Option Addr) (len : Nat) (n : Nat) : Prop := ∃ xs, Sl .i64 w ao len xs ∧ Dig B16 xs ∧ Top xs ∧ val B16 xs = n

theorem N16.keep {w w' : World} {ao : Option Addr} {len n : Nat} (h : N16 w ao len n) (hb : Below w.heap.size w w') : N16 w' ao len n := by
  obtain ⟨xs, h1, h2⟩ := h
  exact ⟨xs, h1.keep hb, h2⟩
theorem N16.nil (w : World) (ao : Option Addr) : N16 w ao 0 0 := ⟨[], Sl.nil _ _ _, Dig.nil _, Top.nil, rfl⟩
theorem N16.zero {w : World} {ao : Option Addr} {len n : Nat} (h : N16 w ao len n) : n = 0 ↔ len = 0 := by
  obtain ⟨xs, h1, h2, h3, rfl⟩ := h
  rw [val_zero_iff B16_pos h3, ← h1.len, List.length_eq_zero_iff]
theorem N16.lt {w : World} {ao : Option Addr} {len n : Nat} (h : N16 w ao len n) : n < B16 ^ len := by
  obtain ⟨xs, h1, h2, h3, rfl⟩ := h
  have := val_lt B16_pos h2
  rwa [h1.len] at this
theorem N16.len_le {w : World} {ao : Option Addr} {len n k : Nat} (h : N16 w ao len n) (hn : n < B16 ^ k) : len ≤ k := by
  obtain ⟨xs, h1, h2, h3, rfl⟩ := h
  rw [← h1.len]
  exact len_le_of_lt B16_gt h3 hn

def Out16 (w : World) (n : Nat) (e : Ending) (w' : World) : Prop := ∃ ao len cap, e = .returned (.slice ao len cap) ∧ len ≤ cap ∧ cap ≤ 9223372036854775807 ∧ N16 w' ao len n ∧ Below w.heap.size w w'

def Trim16Post (ao : Option Addr) (len cap : Nat) (xs : List Nat) (e : Ending) : Prop :=
  ∃ ao' n, e = .returned (.slice ao' n cap) ∧ n ≤ len ∧ (0 < n → ao' = ao) ∧ Top (xs.take n) ∧ (∀ j, n ≤ j → xs[j]?.getD 0 = 0)

set_option maxHeartbeats 400000 in
theorem trim16_raw (ao : Option Addr) (len cap : Nat) (xs : List Nat) (w : World) (hs : Sl .i64 w ao len xs) (hcap : len ≤ cap) (hl : cap ≤ 9223372036854775807) :
    Calls Try.prog 66 #[.slice ao len cap] w fun e w' => Trim16Post ao len cap xs e ∧ w = w' := by
  obtain ⟨hx, b, off, h0, hc⟩ := hs
  have hX := Lib.hid hx
  clear hx
  go_enter Try.func66, Try.ntmps66
  go_wp2
  go_loop [3] (fun t => ∃ n : Nat, n ≤ len ∧ t = .int .i64 n ∧ ∀ j, n ≤ j → xs[j]?.getD 0 = 0) (fun t => (intOf t).toNat)
  case atStart => exact ⟨len, Nat.le_refl _, rfl, fun j hj => by rw [List.getElem?_eq_none (by have := hX.out; omega)]; rfl⟩
  case round =>
    obtain ⟨n, hn, rfl, hz⟩ := hrel
    have hZ := Lib.hid hz
    clear hz
    have hX2 := hX.out
    by_cases h1 : n = 0
    · subst h1
      clear hX2
      go_wp2
      go_ret
      exact ⟨⟨_, 0, rfl, by omega, fun h => by omega, by simpa using Top.nil, hZ.out⟩, rfl⟩
    · have hlen : 0 < len := by omega
      obtain rfl := h0 hlen
      obtain ⟨m, rfl⟩ : ∃ m, n = m + 1 := ⟨n - 1, by omega⟩
      have hcell := hc m (by omega)
      clear hc h0
      obtain ⟨x, hxe⟩ : ∃ x, x = xs[m]?.getD 0 := ⟨_, rfl⟩
      rw [← hxe] at hcell
      have hE := Lib.hid hxe
      clear hxe hX2
      by_cases hx0 : x = 0
      · subst hx0
        go_wp2
        go_round
        case rel => exact ⟨m, by omega, by go_num, fun j hj => (by
          by_cases hj' : j = m
          · subst hj'; exact hE.out.symm
          · exact hZ.out j (by omega))⟩
        case measure => simp [intOf]
      · have hb : ((x : Int) == 0) = false := by simp; omega
        go_wp2
        go_ret
        exact ⟨⟨_, m + 1, rfl, hn, fun _ => rfl, top_take (by have := hX.out; omega) (Or.inr (by have := hE.out; simp only [Nat.add_sub_cancel]; omega)), hZ.out⟩, rfl⟩

def OfRel (n : Nat) (W : World) (nv ov : Value) (wr : World) : Prop :=
  ∃ (r k : Nat) (zs : List Nat), nv = .int .i64 (r : Int) ∧ Own .i64 wr W.heap.size 3 ov k zs ∧ Dig B16 zs ∧ val B16 zs + B16 ^ k * r = n ∧ (r = 0 → Top zs) ∧ r ≤ n ∧ Below W.heap.size W wr

theorem of_len {n k r : Nat} {zs : List Nat} (hv : val B16 zs + B16 ^ k * r = n) (hn : n ≤ 9223372036854775807) (hr : 0 < r) : k ≤ 4 := by
  have h1 : B16 ^ k * 1 ≤ B16 ^ k * r := Nat.mul_le_mul_left _ hr
  have h2 : B16 ^ k < B16 ^ 4 := by
    have : B16 ^ 4 = 18446744073709551616 := by decide
    omega
  have := (Nat.pow_lt_pow_iff_right B16_gt).1 h2
  omega

def AddRel (la lb : Nat) (xa xb : List Nat) (W : World) (ov cv iv : Value) (wr : World) : Prop :=
  ∃ (c i : Nat) (zs : List Nat), cv = .int .i64 (c : Int) ∧ iv = .int .i64 (i : Int) ∧ Own .i64 wr W.heap.size 3 ov i zs ∧ Dig B16 zs ∧ c ≤ 1 ∧ i ≤ max la lb + 1 ∧
    val B16 zs + c * B16 ^ i = val B16 (xa.take i) + val B16 (xb.take i) ∧ (la < i → lb < i → B16 ^ (i - 1) ≤ val B16 zs) ∧ Below W.heap.size W wr

theorem add_rel {la lb i c x y : Nat} {xa xb zs : List Nat} {W wr w2 : World} {v' : Value} (hlz : zs.length = i) (hd : Dig B16 zs) (hc : c ≤ 1) (hi : i ≤ max la lb) (hla : xa.length = la) (hlb : xb.length = lb) (hx : x = xa[i]?.getD 0) (hy : y = xb[i]?.getD 0) (hxb : x < B16) (hyb : y < B16)
    (hgo : i < la ∨ i < lb ∨ 0 < c)
    (hv : val B16 zs + c * B16 ^ i = val B16 (xa.take i) + val B16 (xb.take i)) (hb : Below W.heap.size W wr) (ho : Own .i64 w2 W.heap.size 3 v' (i + 1) (zs ++ [(c + (x + y)) % B16])) (hb2 : Below W.heap.size wr w2)
    (C I : Int) (hC : C = (((c + (x + y)) / B16 : Nat) : Int)) (hI : I = (i : Int) + 1) : AddRel la lb xa xb W v' (.int .i64 C) (.int .i64 I) w2 := by
  rw [B16_eq] at hxb hyb
  have e := Nat.mod_add_div (c + (x + y)) B16
  refine ⟨(c + (x + y)) / B16, i + 1, zs ++ [(c + (x + y)) % B16], by rw [hC], by rw [hI]; rfl, ho, hd.append (Dig.cons (Nat.mod_lt _ B16_pos) (Dig.nil _)), by rw [B16_eq]; omega, by omega, ?_, ?_, hb.trans hb2⟩
  · rw [val_snoc, hlz, val_take_succ, val_take_succ, ← hx, ← hy, Nat.pow_succ]
    generalize (c + (x + y)) % B16 = d at *
    generalize (c + (x + y)) / B16 = q at *
    generalize B16 ^ i = p at *
    grind
  · intro h1 h2
    have hx0 : x = 0 := by rw [hx, List.getElem?_eq_none (by omega)]; rfl
    have hy0 : y = 0 := by rw [hy, List.getElem?_eq_none (by omega)]; rfl
    have hc1 : c = 1 := by omega
    subst hx0 hy0 hc1
    rw [val_snoc, hlz]
    have : (1 + (0 + 0)) % B16 = 1 := by decide
    rw [this]
    simp

end Go.Proofs.Ytcgnmihabkgecaa

/- The specification's integers: made, Of, bitLen, BitLen, Sign. -/
set_option linter.unusedVariables false
namespace Go.Proofs.Ytcgnmihabkgecaa
open Go.RowKit

def Z16 (w : World) (neg : Bool) (ao : Option Addr) (len : Nat) (z : Int) : Prop := ∃ n, N16 w ao len n ∧ z = sgn neg n ∧ (neg = true → n ≠ 0)

theorem Z16.keep {w w' : World} {neg : Bool} {ao : Option Addr} {len : Nat} {z : Int} (h : Z16 w neg ao len z) (hb : Below w.heap.size w w') : Z16 w' neg ao len z := by
  obtain ⟨n, h1, h2⟩ := h
  exact ⟨n, h1.keep hb, h2⟩

theorem Z16.n16 {w : World} {neg : Bool} {ao : Option Addr} {len : Nat} {z : Int} (h : Z16 w neg ao len z) : N16 w ao len z.natAbs := by
  obtain ⟨n, h1, rfl, _⟩ := h
  rw [sgn_natAbs]; exact h1

theorem Z16.neg_eq {w : World} {neg : Bool} {ao : Option Addr} {len : Nat} {z : Int} (h : Z16 w neg ao len z) : neg = decide (z < 0) := by
  obtain ⟨n, h1, rfl, h3⟩ := h
  cases neg with
  | true => have := h3 rfl; simp only [sgn, if_true]; symm; simp; omega
  | false => simp [sgn]

theorem Z16.zero {w : World} {neg : Bool} {ao : Option Addr} {len : Nat} {z : Int} (h : Z16 w neg ao len z) : z = 0 ↔ len = 0 := by
  rw [← h.n16.zero]; omega

theorem N16.setFr {W w : World} {bs : List (Nat × Array Value)} {ao : Option Addr} {len n : Nat} (h : N16 w ao len n) (hf : Fr W w bs) (i j : Nat) {T : Nat} {c : Array Value} (hi : bs[i]? = some (T, c)) (hc : noInts c = true) (u : Value) :
    N16 (w.setCell ⟨W.heap.size + i, j, none⟩ u) ao len n := by
  obtain ⟨xs, h1, h2⟩ := h
  exact ⟨xs, h1.setBox (hf.box i T c hi) (noInts_get hc) j u, h2⟩

theorem Z16.setFr {W w : World} {bs : List (Nat × Array Value)} {neg : Bool} {ao : Option Addr} {len : Nat} {z : Int} (h : Z16 w neg ao len z) (hf : Fr W w bs) (i j : Nat) {T : Nat} {c : Array Value} (hi : bs[i]? = some (T, c)) (hc : noInts c = true) (u : Value) :
    Z16 (w.setCell ⟨W.heap.size + i, j, none⟩ u) neg ao len z := by
  obtain ⟨n, h1, h2⟩ := h
  exact ⟨n, h1.setFr hf i j hi hc u, h2⟩

/-- an integer of the specification is stored in the call's own block number i -/
theorem Fr.finJ {W w : World} {bs : List (Nat × Array Value)} {neg : Bool} {ao : Option Addr} {len cap : Nat} {z : Int} (hf : Fr W w bs) (i : Nat) {T : Nat} {e0 : Bool} {a1 : Option Addr} {l1 c1 : Nat}
    (hi : bs[i]? = some (T, #[.bool e0, .slice a1 l1 c1])) (h : Z16 w neg ao len z) :
    let w' := (w.setCell ⟨W.heap.size + i, 0, none⟩ (.bool neg)).setCell ⟨W.heap.size + i, 1, none⟩ (.slice ao len cap)
    w'.cell? ⟨W.heap.size + i, 0, none⟩ = some (.bool neg) ∧ w'.cell? ⟨W.heap.size + i, 1, none⟩ = some (.slice ao len cap) ∧ Z16 w' neg ao len z ∧ Below W.heap.size W w' ∧ Fr W w' (bs.set i (T, #[.bool neg, .slice ao len cap])) := by
  have hl := (List.getElem?_eq_some_iff.1 hi).1
  have k1 := hf.set i 0 hi (.bool neg)
  have i1 : (bs.set i (T, #[.bool neg, .slice a1 l1 c1]))[i]? = some (T, #[.bool neg, .slice a1 l1 c1]) := List.getElem?_set_self hl
  have q1 := h.setFr hf i 0 hi rfl (.bool neg)
  have k2 := k1.set i 1 i1 (.slice ao len cap)
  have i2 : ((bs.set i (T, #[.bool neg, .slice a1 l1 c1])).set i (T, #[.bool neg, .slice ao len cap]))[i]? = some (T, #[.bool neg, .slice ao len cap]) := List.getElem?_set_self (by simpa using hl)
  have q2 := q1.setFr k1 i 1 i1 rfl (.slice ao len cap)
  refine ⟨k2.cell i 0 i2 rfl, k2.cell i 1 i2 rfl, q2, k2.below, ?_⟩
  have := k2
  rw [List.set_set] at this
  exact this

def OutJ (W : World) (z : Int) (e : Ending) (w' : World) : Prop := ∃ neg ao len cap, e = .returned (.agg #[.bool neg, .slice ao len cap]) ∧ len ≤ cap ∧ cap ≤ 9223372036854775807 ∧ Z16 w' neg ao len z ∧ Below W.heap.size W w'

/-- made of a row that may have zeros at its top -/
theorem made_raw (s : Bool) (ao : Option Addr) (len cap n : Nat) (xs : List Nat) (W : World) (h : Sl .i64 W ao len xs) (hd : Dig B16 xs) (hv : val B16 xs = n) (hcap : len ≤ cap) (hl : cap ≤ 9223372036854775807) :
    Calls Try.prog 44 #[.bool s, .slice ao len cap] W (OutJ W (sgn s n)) := by
  have HS := Lib.hid (h.keep (box_below W 32 #[.bool false, .slice none 0 0]))
  have H0 := Lib.hid h
  have HD := Lib.hid hd
  have HV := Lib.hid hv
  clear h hd hv
  go_enter Try.func44, Try.ntmps44
  go_wp2_with fail
  refine (trim16_raw _ _ _ xs _ HS.out hcap hl).mono ?_
  rintro e w1 ⟨⟨ao', m, rfl, hm, ha', ht, hz⟩, rfl⟩
  have hN : N16 W ao' m n := ⟨xs.take m, trim_sl H0.out hm ha', HD.out.take _, ht, by rw [val_take_of_zeros hz]; exact HV.out⟩
  have hnz := hN.zero
  have HN := Lib.hid hN
  have HNZ := Lib.hid hnz
  have hmc : m ≤ cap := by omega
  clear ha' ht hz hN hnz
  cases s with
  | false =>
    go_wp2
    exact bodyPost_ret (v := .agg #[.bool false, .slice ao' m cap]) (by simp [results, Try.results44, go_sem]) rfl ⟨false, ao', m, cap, rfl, hmc, hl, ⟨n, HN.out.keep (box_below _ _ _), rfl, by simp⟩, box_below _ _ _⟩
  | true =>
    by_cases h0 : m = 0
    · have q3 : decide (0 < m) = false := by simp; omega
      have q1 : ¬ (0 : Int) < (m : Int) := by omega
      have hn0 := Lib.hid (HNZ.out.2 h0)
      clear h0
      go_wp2
      exact bodyPost_ret (v := .agg #[.bool false, .slice ao' m cap]) (by simp [results, Try.results44, go_sem]) rfl ⟨false, ao', m, cap, rfl, hmc, hl, ⟨n, HN.out.keep (box_below _ _ _), by rw [hn0.out]; rfl, by simp⟩, box_below _ _ _⟩
    · have q3 : decide (0 < m) = true := by simp; omega
      have q1 : (0 : Int) < (m : Int) := by omega
      have hn0 : Hid (n ≠ 0) := fun h => h0 (HNZ.out.1 h)
      clear h0
      go_wp2
      exact bodyPost_ret (v := .agg #[.bool true, .slice ao' m cap]) (by simp [results, Try.results44, go_sem]) rfl ⟨true, ao', m, cap, rfl, hmc, hl, ⟨n, HN.out.keep (box_below _ _ _), rfl, fun _ => hn0.out⟩, box_below _ _ _⟩

theorem made_any (s : Bool) (ao : Option Addr) (len cap n : Nat) (W : World) (h : N16 W ao len n) (hcap : len ≤ cap) (hl : cap ≤ 9223372036854775807) :
    Calls Try.prog 44 #[.bool s, .slice ao len cap] W (OutJ W (sgn s n)) := by
  obtain ⟨xs, h1, h2, h3, h4⟩ := h
  exact made_raw s ao len cap n xs W h1 h2 h4 hcap hl

theorem blen_half {t : Nat} (h : 0 < t) : blen t = blen (t / 2) + 1 := by
  by_cases h1 : t = 1
  · subst h1; decide
  · have a := blen_low (n := t / 2) (by omega)
    have b := blen_lt (t / 2)
    have c : blen (t / 2) ≠ 0 := by intro e; rw [e] at b; simp at b; omega
    exact blen_eq (by rw [show blen (t / 2) = (blen (t / 2) - 1) + 1 by omega, Nat.pow_succ]; omega) (by rw [Nat.pow_succ]; omega)

theorem blen_digits16 {n m t l : Nat} (hm : m < 2 ^ (16 * l)) (ht : t ≠ 0) (hn : n = m + 2 ^ (16 * l) * t) : blen n = 16 * l + blen t := by
  have h1 := blen_low ht
  have h2 := blen_lt t
  have h3 : blen t ≠ 0 := by intro e; rw [e] at h2; simp at h2; omega
  have e : blen n = (16 * l + (blen t - 1)) + 1 := by
    apply blen_eq
    · rw [Nat.pow_add]
      have := Nat.mul_le_mul_left (2 ^ (16 * l)) h1
      omega
    · rw [Nat.add_assoc, show blen t - 1 + 1 = blen t by omega, Nat.pow_add]
      have := Nat.mul_le_mul_left (2 ^ (16 * l)) (Nat.succ_le_of_lt h2)
      rw [Nat.succ_eq_add_one, Nat.mul_add] at this
      omega
  omega

theorem B16_pow (k : Nat) : B16 ^ k = 2 ^ (16 * k) := by
  rw [Nat.pow_mul]; rfl

end Go.Proofs.Ytcgnmihabkgecaa

/- The specification's small, text, Text. -/
set_option linter.unusedVariables false
namespace Go.Proofs.Ytcgnmihabkgecaa
open Go.RowKit

theorem small_step {B d r i x : Nat} {zs : List Nat} {top : Nat} (hi : i < zs.length) (hd : 0 < d) (h : d * (B ^ (i + 1) * val B (zs.drop (i + 1))) + r * B ^ (i + 1) = B ^ (i + 1) * top) :
    d * (B ^ i * val B ((zs.set i ((r * B + x) / d)).drop i)) + ((r * B + x) % d) * B ^ i = B ^ i * (x + B * top) := by
  have e : (zs.set i ((r * B + x) / d)).drop i = (r * B + x) / d :: zs.drop (i + 1) := by
    rw [drop_eq_cons _ i (by simpa using hi)]
    rw [List.drop_set_of_lt (by omega)]
    simp [List.getElem?_set_self hi]
  rw [e, val_cons]
  have h2 := Nat.div_add_mod (r * B + x) d
  generalize (r * B + x) / d = q at *
  generalize (r * B + x) % d = t at *
  generalize val B (zs.drop (i + 1)) = v at *
  rw [Nat.pow_succ] at h
  generalize B ^ i = p at *
  grind

def SmallRel (g la d : Nat) (xs : List Nat) (W : World) (rv iv : Value) (wr : World) : Prop :=
  ∃ (r i : Nat) (zs : List Nat), rv = .int .i64 (r : Int) ∧ iv = .int .i64 ((i : Int) - 1) ∧ Blk .i64 wr g 3 zs ∧ zs.length = la ∧ Dig B16 zs ∧ i ≤ la ∧ r < d ∧
    d * (B16 ^ i * val B16 (zs.drop i)) + r * B16 ^ i = B16 ^ i * val B16 (xs.drop i) ∧ Below W.heap.size W wr

def SmallPost (n d : Nat) (W : World) (e : Ending) (w' : World) : Prop :=
  ∃ ao len cap, e = .returned (.tuple #[.slice ao len cap, .int .i64 ((n % d : Nat) : Int)]) ∧ len ≤ cap ∧ cap ≤ 9223372036854775807 ∧ (0 < len → ao = some ⟨W.heap.size, 0, none⟩) ∧ N16 w' ao len (n / d) ∧ Below W.heap.size W w'

set_option maxHeartbeats 1000000 in
theorem small_any (ao : Option Addr) (la ca n : Nat) (D : Int) (d : Nat) (W : World) (h : N16 W ao la n) (hD : D = (d : Int)) (hd0 : 0 < d) (hdB : d ≤ 65536) (hla : la ≤ 1000000000) :
    Calls Try.prog 82 #[.slice ao la ca, .int .i64 D] W (SmallPost n d W) := by
  subst hD
  obtain ⟨xs, hs, hd, ht, hv⟩ := h
  have HS := Lib.hid hs
  have HD := Lib.hid hd
  have HV := Lib.hid hv
  obtain ⟨hx, b, off, hao, hc⟩ := hs
  have HX := Lib.hid hx
  have HA := Lib.hid hao
  have HC := Lib.hid hc
  have HG := Lib.hid (Nat.le_refl W.heap.size)
  clear hd ht hv hx hao hc
  go_enter Try.func82, Try.ntmps82
  go_wp2_with (at_make; refine wpList_mk rfl _ 30 rfl 3 .i64 8 Try.underlying30 (by kernel_rfl) _ la rfl rfl (by omega) (by omega) ?_; intro w1 hB1 hb1 hz1)
  go_loopw [7, 8] (fun rv iv wr => SmallRel W.heap.size la d xs W rv iv wr) (fun rv iv _ => (intOf iv + 1).toNat)
  case atStart =>
    exact ⟨0, la, _, rfl, rfl, hB1, by simp, Dig.replicate B16_pos _, Nat.le_refl _, hd0, by rw [List.drop_of_length_le (by simp), List.drop_of_length_le (by rw [HX.out]; exact Nat.le_refl _)]; simp [val], hb1⟩
  case round =>
    obtain ⟨r, i, zs, rfl, rfl, hB, hzl, hdz, hi, hr, hv, hbel⟩ := hrel
    have GZ := Lib.hid hB
    have GL := Lib.hid hzl
    have GD := Lib.hid hdz
    have GV := Lib.hid hv
    have GW := Lib.hid hbel
    clear hB hzl hdz hv hbel
    by_cases hi0 : i = 0
    · subst hi0
      have HSl := Lib.hid (GZ.out.whole GL.out)
      go_wp2_with (go_at_call 66; refine (trim16_raw _ _ _ _ _ HSl.out (by omega) (by omega)).mono ?_; rintro e w3 ⟨⟨ao', m, rfl, hm, ha', ht, hzz⟩, rfl⟩)
      go_ret2
      have hv := GV.out
      simp only [Nat.pow_zero, List.drop_zero, Nat.one_mul, Nat.mul_one, HV.out] at hv
      have hq : val B16 zs = n / d := by
        rw [← hv, Nat.mul_add_div hd0, Nat.div_eq_of_lt hr, Nat.add_zero]
      have hm2 : r = n % d := by
        rw [← hv, Nat.mul_add_mod, Nat.mod_eq_of_lt hr]
      exact ⟨ao', m, la, by rw [← hm2]; rfl, hm, by omega, ha', ⟨_, trim_sl HSl.out hm ha', GD.out.take _, ht, by rw [val_take_of_zeros hzz, hq]⟩, GW.out⟩
    · obtain ⟨j, rfl⟩ : ∃ j, i = j + 1 := ⟨i - 1, by omega⟩
      have e1 : (((j + 1 : Nat) : Int) - 1) = (j : Int) := by omega
      rw [e1]
      clear e1
      obtain rfl := HA.out (by omega)
      have c1 := GZ.out.cell j (by rw [GL.out]; omega)
      have f1 := GZ.out.frozen j
      have c2 := cell_later GW.out (HC.out j (by omega))
      have hx := HD.out.get B16_pos j
      obtain ⟨x, hxe⟩ : ∃ x, x = xs[j]?.getD 0 := ⟨_, rfl⟩
      rw [← hxe] at c2 hx
      have HXE := Lib.hid hxe
      rw [B16_eq] at hx
      clear hxe
      have b1 : (0 : Int) ≤ (j : Int) := by omega
      have b2 : (j : Int) < (la : Int) := by omega
      have b3 : (r : Int) < (d : Int) := by omega
      have b4 : (1 : Int) ≤ (d : Int) := by omega
      have hN : r * B16 + x < d * B16 := by
        have : (r + 1) * B16 ≤ d * B16 := Nat.mul_le_mul_right _ hr
        rw [B16_eq] at *
        omega
      have hq : (r * B16 + x) / d < B16 := Nat.div_lt_of_lt_mul hN
      have HQ := Lib.hid hq
      clear hN hq
      go_wp2
      refine ⟨?_, by simp [intOf]⟩
      have ec : ((r : Int) * 65536 + (x : Int)) = ((r * B16 + x : Nat) : Int) := by rw [B16_eq]; omega
      rw [ec]
      refine ⟨(r * B16 + x) % d, j, zs.set j ((r * B16 + x) / d), congrArg (Value.int _) (Int.natCast_emod _ _).symm, rfl, GZ.out.set _ _ _ (Int.natCast_ediv _ _).symm, by simpa using GL.out, GD.out.set _ HQ.out, by omega, Nat.mod_lt _ hd0, ?_, GW.out.setCell (Nat.le_refl _) _⟩
      have hs := small_step (B := B16) (d := d) (r := r) (i := j) (x := x) (zs := zs) (top := val B16 (xs.drop (j + 1))) (by rw [GL.out]; omega) hd0 GV.out
      rw [drop_eq_cons xs j (by rw [HX.out]; omega), val_cons, ← HXE.out]
      exact hs

/-- the number that a slice of the specification's digits reads as: for a loop's measure -/
def readN16 (w : World) : Value → Nat
  | .slice (some a) l _ => val B16 ((List.range l).map fun i => match w.cell? ⟨a.block, a.off + i, none⟩ with | some (.int _ x) => x.toNat | _ => 0)
  | _ => 0

theorem readN16_of {w : World} {ao : Option Addr} {len cap n : Nat} (hn : N16 w ao len n) : readN16 w (.slice ao len cap) = n := by
  obtain ⟨xs, h, _, _, hv⟩ := hn
  rw [← hv]
  obtain ⟨h1, b, off, h2, h3⟩ := h
  by_cases h0 : len = 0
  · obtain rfl : xs = [] := List.eq_nil_of_length_eq_zero (by omega)
    subst h0
    cases ao <;> rfl
  · rw [h2 (by omega)]
    simp only [readN16]
    congr 1
    apply List.ext_getElem
    · simp [h1]
    · intro i h4 h5
      simp only [List.getElem_map, List.getElem_range]
      rw [h3 i (by simpa using h4)]
      simp [List.getElem?_eq_getElem h5]

def TxtRel (n : Nat) (W : World) (av bv : Value) (wr : World) : Prop :=
  ∃ (ao : Option Addr) (len cap k v : Nat) (ts : List Nat), av = .slice ao len cap ∧ len ≤ 1000000000 ∧ N16 wr ao len v ∧ Own .u8 wr W.heap.size 5 bv k (ts.map (48 + ·)) ∧ Dig 10 ts ∧ val 10 ts + 10 ^ ts.length * v = n ∧ (v = 0 → ts ≠ [] ∧ Top ts) ∧ v ≤ n ∧ Below W.heap.size W wr

/-- what the call owns stays so while only blocks that did not exist are made -/
theorem Own.later {k : IntKind} {w w' : World} {base e n : Nat} {v : Value} {xs : List Nat} (h : Own k w base e v n xs) (hb : Below w.heap.size w w') : Own k w' base e v n xs := by
  have hlt := World.ownsRow.lt h
  refine ⟨h.1, ?_⟩
  rcases h.2 with h2 | ⟨g, cap, cur, rfl, hg, hh, r⟩
  · exact .inl h2
  · exact .inr ⟨g, cap, cur, rfl, hg, (hb.block g (Array.getElem?_eq_some_iff.1 hh).1).trans hh, r⟩

def RvRel (base g n cap : Nat) (xs : List Nat) (W : World) (iv jv : Value) (wr : World) : Prop :=
  ∃ (i : Nat) (zs : List Nat), iv = .int .i64 (i : Int) ∧ jv = .int .i64 ((n : Int) - 1 - (i : Int)) ∧ 2 * i ≤ n + 1 ∧ Own .u8 wr base 5 (.slice (some ⟨g, 0, none⟩) n cap) n zs ∧ Turned xs zs i ∧ Below base W wr

theorem text_len16 {n la k : Nat} (h : 10 ^ k ≤ n) (hn : n < B16 ^ la) : k ≤ 16 * la := by
  rw [B16_pow] at hn
  have h1 : 2 ^ k ≤ 10 ^ k := Nat.pow_le_pow_left (by decide) k
  have h2 : 2 ^ k < 2 ^ (16 * la) := by omega
  have := (Nat.pow_lt_pow_iff_right (show 1 < 2 by decide)).1 h2
  omega

theorem pow_len {ts : List Nat} {n v : Nat} (h : val 10 ts + 10 ^ ts.length * v = n) (hv : 0 < v) : 10 ^ ts.length ≤ n := by
  have := Nat.mul_le_mul_left (10 ^ ts.length) hv
  omega

set_option maxHeartbeats 2000000 in
theorem text_any (ao : Option Addr) (la ca n : Nat) (W : World) (ha : N16 W ao la n) (hla : la ≤ 1000000000) :
    Calls Try.prog 65 #[.slice ao la ca] W (StrPost (numeral n) W) := by
  have hlt := ha.lt
  have hz := ha.zero
  have HA := Lib.hid ha
  have HLT := Lib.hid hlt
  by_cases h0 : la = 0
  · have hn : n = 0 := hz.2 h0
    have HN : Hid (StrPost (numeral n) W = StrPost [48] W) := by
      rw [hn]; rfl
    rw [HN.out]
    subst h0
    clear ha hlt hz hn HN HLT
    go_enter Try.func65, Try.ntmps65
    go_wp2
    go_ret
    exact ⟨rfl, Below.refl _ _⟩
  · have hn0 : n ≠ 0 := fun h => h0 (hz.1 h)
    have HN := Lib.hid hn0
    have hb0 : ((la : Int) == 0) = false := by simp; omega
    clear ha hlt hz hn0
    go_enter Try.func65, Try.ntmps65
    go_wp2
    go_loopw [0, 3] (fun av bv wr => TxtRel n W av bv wr) (fun av bv wr => readN16 wr av)
    case atStart =>
      exact ⟨ao, la, ca, 0, n, [], rfl, hla, HA.out, Own.nil _ _ _ _, Dig.nil _, by simp [val], fun h => absurd h HN.out, Nat.le_refl _, Below.refl _ _⟩
    case round =>
      obtain ⟨ao', len, cap, k, v, ts, rfl, hlen, hn16, hown, hdt, hsum, htop, hvn, hbel⟩ := hrel
      obtain ⟨wo, rfl⟩ : ∃ wo : World, wo = wr := ⟨_, rfl⟩
      have hv0 := hn16.zero
      have hrn := readN16_of (cap := cap) hn16
      have GN := Lib.hid hn16
      have GO := Lib.hid hown
      have GDT := Lib.hid hdt
      have GS := Lib.hid hsum
      have GTOP := Lib.hid htop
      have GW := Lib.hid hbel
      have GR := Lib.hid hrn
      have GV0 := Lib.hid hv0
      have GVN := Lib.hid hvn
      have hkt := GO.out.len
      simp only [List.length_map] at hkt
      have HKT := Lib.hid hkt
      clear hn16 hown hdt hsum htop hbel hrn hv0 hvn hkt
      by_cases hlen0 : len = 0
      · subst hlen0
        have hv : v = 0 := by first | exact GV0.out.2 rfl | exact GV0.out.2 trivial
        have h9 := GTOP.out hv
        have h10 : val 10 ts = n := by
          have := GS.out
          rw [hv] at this
          simpa using this
        have h11 := low_of GDT.out h9.2 h10
        have hnum : numeral n = chars ts.reverse := by
          unfold numeral
          rw [if_neg HN.out, h11]
        have HNUM := Lib.hid hnum
        rcases GO.out.cases with ⟨_, _, h⟩ | ⟨g', cap', rfl, hb', _, _, _, _⟩
        · exact absurd (List.map_eq_nil_iff.1 h) h9.1
        · have hk2 : k ≤ 16 * la + 1 := by
            have h12 := val_ge (B := 10) h9.2 h9.1
            rw [h10] at h12
            have := text_len16 h12 HLT.out
            have : ts.length ≠ 0 := fun h => h9.1 (List.eq_nil_of_length_eq_zero h)
            have := HKT.out
            omega
          have hk3 : k ≤ 16000000001 := by omega
          clear hv h9 h10 h11 hnum hk2
          go_wp2
          go_loopw [5, 6] (fun iv jv wr => RvRel W.heap.size g' k cap' (ts.map (48 + ·)) wo iv jv wr) (fun iv jv _ => k - (intOf iv).toNat)
          case atStart =>
            refine ⟨0, _, rfl, by simp, by omega, GO.out, ⟨rfl, fun t ht => ?_⟩, Below.refl _ _⟩
            rw [if_neg (by omega)]
          case round =>
            obtain ⟨i, zs, rfl, rfl, hi, hB, htn, hbel⟩ := hrel
            have GZ := Lib.hid hB
            have GT := Lib.hid htn
            have GW2 := Lib.hid hbel
            have GX : Hid ((ts.map (48 + ·)).length = k) := by show _ = _; rw [List.length_map]; exact HKT.out
            clear hB htn hbel
            by_cases hlt : 2 * i + 1 < k
            · obtain ⟨j, hj⟩ : ∃ j, i + j + 1 = k := ⟨k - 1 - i, by omega⟩
              have ej : ((k : Int) - 1 - (i : Int)) = (j : Int) := by omega
              rw [ej]
              have HJ := Lib.hid hj
              have hij : i < j := by omega
              have hin : i < k := by omega
              have hjn : j < k := by omega
              have b0 : (i : Int) < (j : Int) := by omega
              have b1 : (0 : Int) ≤ (i : Int) := by omega
              have b2 : (i : Int) < (k : Int) := by omega
              have b3 : (0 : Int) ≤ (j : Int) := by omega
              have b4 : (j : Int) < (k : Int) := by omega
              have hcells : ∀ t, t < k → wr.cell? ⟨g', t, none⟩ = some (.int .u8 ((zs[t]?.getD 0 : Nat) : Int)) ∧ wr.frozen? ⟨g', t, none⟩ = false := by
                rcases GZ.out.cases with ⟨h, _⟩ | ⟨g'', cap'', h, _, _, _, _, h3⟩
                · cases h
                · cases h; exact h3
              obtain ⟨c1, f1⟩ := hcells i hin
              obtain ⟨c2, f2⟩ := hcells j hjn
              clear hcells ej hj
              obtain ⟨x, hxe⟩ : ∃ x, x = zs[i]?.getD 0 := ⟨_, rfl⟩
              obtain ⟨y, hye⟩ : ∃ x, x = zs[j]?.getD 0 := ⟨_, rfl⟩
              rw [← hxe] at c1
              rw [← hye] at c2
              have HXE := Lib.hid hxe
              have HYE := Lib.hid hye
              clear hxe hye
              have hne : i ≠ j := by omega
              go_wp2
              refine ⟨?_, by simp [intOf]; omega⟩
              refine ⟨i + 1, (zs.set i y).set j x, by go_num, congrArg (Value.int _) (by have := HJ.out; omega), by omega, ?_, ?_, ?_⟩
              · have h1 := GZ.out.stored i y hin _ rfl
                exact h1.stored j x hjn _ rfl
              · have h3 := turned_step GT.out hij (by rw [GX.out]; exact HJ.out)
                rw [← HXE.out, ← HYE.out] at h3
                exact h3
              · exact (GW2.out.setCell hb' _).setCell hb' _
            · have b0 : ¬ (i : Int) < (k : Int) - 1 - (i : Int) := by omega
              have htt := turned_end GT.out (by rw [GX.out]; omega)
              have hown5 := GZ.out
              rw [htt, ← List.map_reverse] at hown5
              have hcv := run_convert_bytes_back (P := Try.prog) wr 74 9 5 ⟨g', 0, none⟩ cap' (chars ts.reverse) Try.underlying74 Try.underlying5 Try.underlying9 (chars_cells hown5 (fun x hx => GDT.out x (List.mem_reverse.1 hx)))
              have hlc : (chars ts.reverse).length = k := by simp [chars]; exact HKT.out
              rw [hlc] at hcv
              clear hown5 hlc htt
              go_wp2
              go_ret
              exact ⟨by rw [HNUM.out]; rfl, GW.out.trans GW2.out⟩
      · have b1 : (0 : Int) < (len : Int) := by omega
        have hvpos : 0 < v := by have := GV0.out; omega
        have hkb : k ≤ 16 * la := by
          have := text_len16 (pow_len GS.out hvpos) HLT.out
          have := HKT.out
          omega
        go_wp2_with fail
        refine (small_any _ _ _ v _ 10 _ GN.out rfl (by decide) (by decide) hlen).mono ?_
        rintro e w4 ⟨ao4, l4, c4, rfl, hlc4, hcm4, hao4, hn4, hb4⟩
        have hl4 : l4 ≤ 1000000000 := Nat.le_trans (hn4.len_le (Nat.lt_of_le_of_lt (Nat.div_le_self _ _) GN.out.lt)) hlen
        have I1 := Lib.hid hn4
        have I5 := Lib.hid hao4
        have I2 := Lib.hid hb4
        have I3 := Lib.hid (GO.out.later hb4)
        have I4 := Lib.hid (Nat.le_trans GW.out.size hb4.size)
        clear hn4 hb4 hao4
        go_wp2_with (at_builtin; refine wpList_app2 rfl _ _ 74 rfl W.heap.size 5 .u8 1 Try.underlying74 (by kernel_rfl) _ k (ts.map (48 + ·)) rfl I3.out _ (48 + v % 10) rfl (by omega) (by omega) (by omega) I4.out ?_; intro v' w6 hown' hbel' hgrow')
        have hn6 : N16 w6 ao4 l4 (v / 10) := by
          obtain ⟨ys, y1, y2⟩ := I1.out
          refine ⟨ys, (y1.keep ((Below.refl _ _).alloc (Nat.le_refl _) _)).grown hgrow' (fun b hl hb => ?_), y2⟩
          rw [I5.out hl] at hb
          cases hb
          intro e
          have := World.ownsRow.lt GO.out wo.heap.size e.symm
          omega
        have hr6 := readN16_of (cap := c4) hn6
        have HR6 := Lib.hid hr6
        have HN6 := Lib.hid hn6
        clear hr6 hn6 hgrow'
        go_roundw
        case rel =>
          have hnew : val 10 (ts ++ [v % 10]) + 10 ^ (ts ++ [v % 10]).length * (v / 10) = n := by
            have h1 := write_step (ts := ts) (v := n) (r := 0) (g := v) (m := 0) (by simpa using GS.out)
            simpa using h1
          refine ⟨ao4, l4, c4, k + 1, v / 10, ts ++ [v % 10], rfl, hl4, HN6.out, by rw [List.map_append]; exact hown', GDT.out.append (Dig.cons (Nat.mod_lt _ (by decide)) (Dig.nil _)), hnew, ?_, by have := GVN.out; omega, GW.out.trans ((I2.out.mono GW.out.size).trans hbel')⟩
          intro hq
          refine ⟨by simp, fun _ => ?_⟩
          simp
          omega
        case measure =>
          rw [HR6.out, GR.out]
          exact Nat.div_lt_self hvpos (by decide)
end Go.Proofs.Ytcgnmihabkgecaa

/- The specification's Text; the laws' helpers is, awake. -/
set_option linter.unusedVariables false
namespace Go.Proofs.Ytcgnmihabkgecaa
open Go.RowKit

set_option maxHeartbeats 800000 in
theorem text16_any (neg : Bool) (ao : Option Addr) (len cap : Nat) (z : Int) (W : World) (h : Z16 W neg ao len z) (hl : len ≤ 1000000000) :
    Calls Try.prog 43 #[.agg #[.bool neg, .slice ao len cap]] W (StrPost (numeralZ z) W) := by
  obtain ⟨n, hn, rfl, hp⟩ := h
  have HN := Lib.hid (hn.keep (box_below W 32 #[.bool neg, .slice ao len cap]))
  have HP := Lib.hid hp
  have hnl2 : ¬ 9223372036854775807 < 1 + (numeral n).length := by
    have h1 := hn.lt
    have h2 : n < B32 ^ len := Nat.lt_of_lt_of_le h1 (Nat.pow_le_pow_left (by decide) _)
    have := numeral_len h2
    omega
  clear hn hp
  cases neg with
  | true =>
    have HE := Lib.hid (numeralZ_neg (HP.out rfl))
    rw [HE.out]
    go_enter Try.func43, Try.ntmps43
    go_wp2_with fail
    refine (text_any _ _ _ n _ HN.out hl).mono ?_
    rintro e w1 ⟨rfl, hb⟩
    have HB := Lib.hid hb
    clear hb
    go_wp2
    go_ret
    refine ⟨?_, below_then (box_below _ _ _) HB.out⟩
    have := bytes_append [45] (numeral n)
    exact congrArg (fun x => Ending.returned (Value.string x)) this
  | false =>
    have HE := Lib.hid (numeralZ_pos n)
    rw [HE.out]
    go_enter Try.func43, Try.ntmps43
    go_wp2_with fail
    refine (text_any _ _ _ n _ HN.out hl).mono ?_
    rintro e w1 ⟨rfl, hb⟩
    have HB := Lib.hid hb
    clear hb
    go_wp2
    go_ret
    exact ⟨rfl, below_then (box_below _ _ _) HB.out⟩

/-- the program computes a few plain results -/
def AwakePost (W : World) (e : Ending) (w' : World) : Prop := e = .returned (.bool true) ∧ Below W.heap.size W w'

theorem text_m4 : numeralZ (-7 / 2) = [45, 52] := by decide +kernel
theorem text_1 : numeralZ (-7 % 2) = [49] := by decide +kernel
theorem text_72 : textQ (lowP (-7) 2) (lowQ (-7) 2) = [45, 55, 47, 50] := by decide +kernel
theorem text_350 : decText (lowP (-7) 2) (lowQ (-7) 2) 2 = [45, 51, 46, 53, 48] := by decide +kernel
theorem low_7 : lowQ (-7) 2 = 2 := by decide +kernel
theorem low_7p : ((lowP (-7) 2).natAbs * 10 ^ 2) = 700 := by decide +kernel
theorem gcd_72 : Nat.gcd (Int.natAbs (-7)) (Int.natAbs 2) = 1 := by decide +kernel
theorem near_7 : (numeral (nearest 700 2)).length = 3 := by decide +kernel

set_option maxHeartbeats 2000000 in
theorem awake_any (W : World) : Calls Try.prog 18 #[] W (AwakePost W) := by
  go_enter Try.func18, Try.ntmps18
  go_wp2_with fail
  refine (new_any (-7) _ (by omega) (by omega)).mono ?_
  rintro e w1 ⟨s1, o1, l1, c1, rfl, hz1, hb1⟩
  have HB1 := Lib.hid hb1
  have HZ1 := Lib.hid hz1
  clear hb1 hz1
  go_wp2_with fail
  refine (new_any 2 _ (by omega) (by omega)).mono ?_
  rintro e w2 ⟨s2, o2, l2, c2, rfl, hz2, hb2⟩
  have HB2 := Lib.hid (below_then HB1.out hb2)
  have HX := Lib.hid (HZ1.out.keep hb2)
  have HY := Lib.hid hz2
  have hlx : l1 ≤ 1 := HX.out.n32.len_le (by decide)
  have hly : l2 ≤ 1 := HY.out.n32.len_le (by decide)
  clear hb2 hz2
  have hfa : Fr w2 ((w2.alloc (.cells #[.bool s1, .slice o1 l1 c1] 27)).alloc (.cells #[.bool s2, .slice o2 l2 c2] 27))
      [(27, #[.bool s1, .slice o1 l1 c1]), (27, #[.bool s2, .slice o2 l2 c2])] := ((Fr.nil w2).alloc rfl _ _).alloc (by simp) _ _
  have HFA := Lib.hid hfa
  clear hfa
  go_wp2_with fail
  refine (div_any _ _ _ _ _ _ _ _ (-7) 2 _ (HX.out.keep HFA.out.below) (HY.out.keep HFA.out.below) (by omega) (by omega) (by decide) (divide_easy _ _ (by decide) (by decide))).mono ?_
  rintro e w3 ⟨s3, o3, l3, c3, s4, o4, l4, c4, rfl, hq, hr, hb3⟩
  have HF3 := Lib.hid (HFA.out.later hb3)
  have HX3 := Lib.hid ((HX.out.keep HFA.out.below).keep hb3)
  have HY3 := Lib.hid ((HY.out.keep HFA.out.below).keep hb3)
  have HQ := Lib.hid hq
  have HR := Lib.hid hr
  clear hq hr hb3 HX HY HFA
  have hfq : Fr w3 ((w3.alloc (.cells #[.bool s3, .slice o3 l3 c3] 27)).alloc (.cells #[.bool s4, .slice o4 l4 c4] 27))
      [(27, #[.bool s3, .slice o3 l3 c3]), (27, #[.bool s4, .slice o4 l4 c4])] := ((Fr.nil w3).alloc rfl _ _).alloc (by simp) _ _
  have HFQ := Lib.hid hfq
  have HFA := Lib.hid (HF3.out.later hfq.below)
  clear hfq HF3
  have a0 : ((w3.alloc (.cells #[.bool s3, .slice o3 l3 c3] 27)).alloc (.cells #[.bool s4, .slice o4 l4 c4] 27)).cell? ⟨w2.heap.size, 0, none⟩ = some (.bool s1) := HFA.out.cell 0 0 rfl rfl
  have a1 : ((w3.alloc (.cells #[.bool s3, .slice o3 l3 c3] 27)).alloc (.cells #[.bool s4, .slice o4 l4 c4] 27)).cell? ⟨w2.heap.size, 1, none⟩ = some (.slice o1 l1 c1) := HFA.out.cell 0 1 rfl rfl
  have a2 : ((w3.alloc (.cells #[.bool s3, .slice o3 l3 c3] 27)).alloc (.cells #[.bool s4, .slice o4 l4 c4] 27)).cell? ⟨w2.heap.size + 1, 0, none⟩ = some (.bool s2) := HFA.out.cell 1 0 rfl rfl
  have a3 : ((w3.alloc (.cells #[.bool s3, .slice o3 l3 c3] 27)).alloc (.cells #[.bool s4, .slice o4 l4 c4] 27)).cell? ⟨w2.heap.size + 1, 1, none⟩ = some (.slice o2 l2 c2) := HFA.out.cell 1 1 rfl rfl
  go_wp2_with fail
  refine (newRat_any _ _ _ _ _ _ _ _ (-7) 2 _ (HX3.out.keep HFQ.out.below) (HY3.out.keep HFQ.out.below) (by omega) (by omega) (by decide) (gcd_easy _ _ (by decide) (by decide))
    (by rw [gcd_72]; exact divide_easy _ _ (by decide) (by decide)) (by rw [gcd_72]; exact divide_easy _ _ (by decide) (by decide))).mono ?_
  rintro e w4 ⟨s5, o5, l5, c5, o6, l6, c6, rfl, hf, hb4⟩
  have HFQ4 := Lib.hid (HFQ.out.later hb4)
  have HFA4 := Lib.hid (HFA.out.later hb4)
  have HQ4 := Lib.hid ((HQ.out.keep HFQ.out.below).keep hb4)
  have HR4 := Lib.hid ((HR.out.keep HFQ.out.below).keep hb4)
  have HF := Lib.hid hf
  clear hf hb4 HX3 HY3 HFQ HFA HQ HR a0 a1 a2 a3
  have hff : Fr w4 (w4.alloc (.cells #[.bool s5, .slice o5 l5 c5, .slice o6 l6 c6] 45)) [(45, #[.bool s5, .slice o5 l5 c5, .slice o6 l6 c6])] := (Fr.nil w4).alloc rfl _ _
  have HFF := Lib.hid hff
  clear hff
  have hl5 : l5 ≤ 1 := HF.out.1.n32.len_le (by decide +kernel)
  have hl6 : l6 ≤ 1 := by
    rcases HF.out.2 with h | h
    · omega
    · exact h.1.len_le (by decide +kernel)
  go_wp2_with fail
  have hdo : DivOk ((lowP (-7) 2).natAbs * 10 ^ 2) (lowQ (-7) 2) := by rw [low_7p, low_7]; exact divide_easy _ _ (by decide) (by decide)
  refine (decimal_any _ _ _ _ _ _ _ (lowP (-7) 2) (lowQ (-7) 2) 2 2 _ (HF.out.keep HFF.out.below) (by omega) (by omega) (by rw [low_7]; decide) rfl (by decide) hdo (.inr (by rw [low_7p, low_7, near_7]; decide))).mono ?_
  rintro e w5 ⟨rfl, hb5⟩
  rw [text_350]
  have HFF5 := Lib.hid (HFF.out.later hb5)
  have HFQ5 := Lib.hid ((HFQ4.out.later HFF.out.below).later hb5)
  have HFA5 := Lib.hid ((HFA4.out.later HFF.out.below).later hb5)
  have HQ5 := Lib.hid ((HQ4.out.keep HFF.out.below).keep hb5)
  have HR5 := Lib.hid ((HR4.out.keep HFF.out.below).keep hb5)
  have HG5 := Lib.hid ((HF.out.keep HFF.out.below).keep hb5)
  clear hb5 HFF HFQ4 HFA4 HQ4 HR4 HF hdo
  have b0 : w5.cell? ⟨w3.heap.size, 0, none⟩ = some (.bool s3) := HFQ5.out.cell 0 0 rfl rfl
  have b1 : w5.cell? ⟨w3.heap.size, 1, none⟩ = some (.slice o3 l3 c3) := HFQ5.out.cell 0 1 rfl rfl
  have b2 : w5.cell? ⟨w3.heap.size + 1, 0, none⟩ = some (.bool s4) := HFQ5.out.cell 1 0 rfl rfl
  have b3 : w5.cell? ⟨w3.heap.size + 1, 1, none⟩ = some (.slice o4 l4 c4) := HFQ5.out.cell 1 1 rfl rfl
  have b4 : w5.cell? ⟨w4.heap.size, 0, none⟩ = some (.bool s5) := HFF5.out.cell 0 0 rfl rfl
  have b5 : w5.cell? ⟨w4.heap.size, 1, none⟩ = some (.slice o5 l5 c5) := HFF5.out.cell 0 1 rfl rfl
  have b6 : w5.cell? ⟨w4.heap.size, 2, none⟩ = some (.slice o6 l6 c6) := HFF5.out.cell 0 2 rfl rfl
  have hl3 : l3 ≤ 1 := HQ5.out.n32.len_le (by decide +kernel)
  have hl4 : l4 ≤ 1 := HR5.out.n32.len_le (by decide +kernel)
  go_wp2_with fail
  refine (string_any _ _ _ _ (-7 / 2) _ HQ5.out (by omega)).mono ?_
  rintro e w6 ⟨rfl, hb6⟩
  rw [text_m4]
  have HFF6 := Lib.hid (HFF5.out.later hb6)
  have HFQ6 := Lib.hid (HFQ5.out.later hb6)
  have HFA6 := Lib.hid (HFA5.out.later hb6)
  have HR6 := Lib.hid (HR5.out.keep hb6)
  have HG6 := Lib.hid (HG5.out.keep hb6)
  clear hb6 b0 b1 b2 b3 b4 b5 b6 HFF5 HFQ5 HFA5 HQ5 HR5 HG5
  have b2 : w6.cell? ⟨w3.heap.size + 1, 0, none⟩ = some (.bool s4) := HFQ6.out.cell 1 0 rfl rfl
  have b3 : w6.cell? ⟨w3.heap.size + 1, 1, none⟩ = some (.slice o4 l4 c4) := HFQ6.out.cell 1 1 rfl rfl
  go_wp2_with fail
  refine (string_any _ _ _ _ (-7 % 2) _ HR6.out (by omega)).mono ?_
  rintro e w7 ⟨rfl, hb7⟩
  rw [text_1]
  have HFF7 := Lib.hid (HFF6.out.later hb7)
  have HFA7 := Lib.hid (HFA6.out.later hb7)
  have HG7 := Lib.hid (HG6.out.keep hb7)
  clear hb7 b2 b3 HFF6 HFQ6 HFA6 HR6 HG6
  have b4 : w7.cell? ⟨w4.heap.size, 0, none⟩ = some (.bool s5) := HFF7.out.cell 0 0 rfl rfl
  have b5 : w7.cell? ⟨w4.heap.size, 1, none⟩ = some (.slice o5 l5 c5) := HFF7.out.cell 0 1 rfl rfl
  have b6 : w7.cell? ⟨w4.heap.size, 2, none⟩ = some (.slice o6 l6 c6) := HFF7.out.cell 0 2 rfl rfl
  go_wp2_with fail
  refine (ratString_any _ _ _ _ _ _ _ _ _ _ HG7.out (by omega) (by omega)).mono ?_
  rintro e w8 ⟨rfl, hb8⟩
  rw [text_72]
  have HB8 := Lib.hid (below_then HB2.out (HFA7.out.below.trans (hb8.mono HFA7.out.below.size)))
  clear hb8 b4 b5 b6 HFF7 HFA7 HG7
  go_wp2_with fail
  go_ret
  exact ⟨rfl, HB8.out⟩

end Go.Proofs.Ytcgnmihabkgecaa

/- The specification's cmp and sub. -/
set_option linter.unusedVariables false
namespace Go.Proofs.Ytcgnmihabkgecaa
open Go.RowKit

/-- the loop of sub -/
def Sub16Rel (la : Nat) (xa xb : List Nat) (W : World) (ov cv iv : Value) (wr : World) : Prop :=
  ∃ (c i : Nat) (zs : List Nat), cv = .int .i64 (c : Int) ∧ iv = .int .i64 (i : Int) ∧ Own .i64 wr W.heap.size 3 ov i zs ∧ Dig B16 zs ∧ c ≤ 1 ∧ i ≤ la ∧
    val B16 zs + val B16 (xb.take i) = val B16 (xa.take i) + c * B16 ^ i ∧ Below W.heap.size W wr

theorem sub16_rel {la i c d x y : Nat} {xa xb zs : List Nat} {W wr w2 : World} {v' : Value} (c' : Nat) (hlz : zs.length = i) (hd : Dig B16 zs) (hi : i < la) (hx : x = xa[i]?.getD 0) (hy : y = xb[i]?.getD 0) (hdb : d < B16) (hc' : c' ≤ 1)
    (he : d + y + c = x + c' * B16)
    (hv : val B16 zs + val B16 (xb.take i) = val B16 (xa.take i) + c * B16 ^ i) (hb : Below W.heap.size W wr) (ho : Own .i64 w2 W.heap.size 3 v' (i + 1) (zs ++ [d])) (hb2 : Below W.heap.size wr w2)
    (C I : Int) (hC : C = (c' : Int)) (hI : I = (i : Int) + 1) : Sub16Rel la xa xb W v' (.int .i64 C) (.int .i64 I) w2 := by
  refine ⟨c', i + 1, zs ++ [d], by rw [hC], by rw [hI]; rfl, ho, hd.append (Dig.cons hdb (Dig.nil _)), hc', by omega, ?_, hb.trans hb2⟩
  rw [val_snoc, hlz, val_take_succ, val_take_succ, ← hx, ← hy, Nat.pow_succ]
  generalize B16 ^ i = p at *
  generalize B16 = B at *
  grind

theorem sub16_end {la m n c : Nat} {xa xb zs : List Nat} (hla : xa.length = la) (hlz : zs.length = la) (hd : Dig B16 zs) (hdb : Dig B16 xb) (htb : Top xb) (hda : Dig B16 xa) (ha : val B16 xa = m) (hb : val B16 xb = n) (hnm : n ≤ m)
    (hv : val B16 zs + val B16 (xb.take la) = val B16 (xa.take la) + c * B16 ^ la) : val B16 zs = m - n := by
  have h1 := val_lt B16_pos hda
  rw [hla, ha] at h1
  have h2 : xb.length ≤ la := len_le_of_lt B16_gt htb (by rw [hb]; omega)
  rw [List.take_of_length_le h2, List.take_of_length_le (by omega), ha, hb] at hv
  have h3 := val_lt B16_pos hd
  rw [hlz] at h3
  rcases Nat.eq_zero_or_pos c with h | h
  · subst h; omega
  · have : 1 * B16 ^ la ≤ c * B16 ^ la := Nat.mul_le_mul_right _ h
    omega

end Go.Proofs.Ytcgnmihabkgecaa

/- plus. -/
set_option linter.unusedVariables false
namespace Go.Proofs.Ytcgnmihabkgecaa
open Go.RowKit

theorem sgn_add (s : Bool) (m n : Nat) : sgn s m + sgn s n = sgn s (m + n) := by cases s <;> simp [sgn]; omega
theorem sgn_lt (s : Bool) {m n : Nat} (h : m < n) : sgn s m + sgn (!s) n = sgn (!s) (n - m) := by cases s <;> simp [sgn] <;> omega
theorem sgn_ge (s : Bool) {m n : Nat} (h : n ≤ m) : sgn s m + sgn (!s) n = sgn s (m - n) := by cases s <;> simp [sgn] <;> omega

set_option maxHeartbeats 2000000 in
theorem plus_same (s : Bool) (ao bo : Option Addr) (la lb ca cb : Nat) (m n : Nat) (W : World) (hm : N32 W ao la m) (hn : N32 W bo lb n) (hla : la ≤ 1000000000) (hlb : lb ≤ 1000000000) :
    Calls Try.prog 23 #[.agg #[.bool s, .slice ao la ca], .agg #[.bool s, .slice bo lb cb]] W (OutI W (sgn s (m + n))) := by
  have hf : Fr W (((W.alloc (.cells #[.bool s, .slice ao la ca] 27)).alloc (.cells #[.bool s, .slice bo lb cb] 27)).alloc (.cells #[.bool false, .slice none 0 0] 27))
      [(27, #[.bool s, .slice ao la ca]), (27, #[.bool s, .slice bo lb cb]), (27, #[.bool false, .slice none 0 0])] :=
    (((Fr.nil W).alloc rfl _ _).alloc (by simp) _ _).alloc (by simp) _ _
  have HM := Lib.hid (hm.keep hf.below)
  have HN := Lib.hid (hn.keep hf.below)
  clear hm hn
  go_enter Try.func23, Try.ntmps23
  go_wp2_with fail
  obtain ⟨W3, hW3⟩ : ∃ W3, W3 = ((W.alloc (.cells #[.bool s, .slice ao la ca] 27)).alloc (.cells #[.bool s, .slice bo lb cb] 27)).alloc (.cells #[.bool false, .slice none 0 0] 27) := ⟨_, rfl⟩
  rw [← hW3] at hf HM HN ⊢
  clear hW3
  have HF := Lib.hid hf
  clear hf
  have c0 : W3.cell? ⟨W.heap.size, 0, none⟩ = some (.bool s) := HF.out.cell 0 0 rfl rfl
  have c1 : W3.cell? ⟨W.heap.size, 1, none⟩ = some (.slice ao la ca) := HF.out.cell 0 1 rfl rfl
  have c2 : W3.cell? ⟨W.heap.size + 1, 0, none⟩ = some (.bool s) := HF.out.cell 1 0 rfl rfl
  have c3 : W3.cell? ⟨W.heap.size + 1, 1, none⟩ = some (.slice bo lb cb) := HF.out.cell 1 1 rfl rfl
  go_region_held3 (fun w' => w'.cell? ⟨W.heap.size, 0, none⟩ = some (.bool s) ∧ w'.cell? ⟨W.heap.size, 1, none⟩ = some (.slice ao la ca) ∧ w'.cell? ⟨W.heap.size + 1, 0, none⟩ = some (.bool s) ∧ w'.cell? ⟨W.heap.size + 1, 1, none⟩ = some (.slice bo lb cb)) (first | (go_keep; done) | ((try dsimp only); (repeat' apply And.intro) <;> (first | (go_keep; done) | (rw [cell_set2 _ _ _ _ _ _ (by omega)]; assumption))))
    (first | (go_at_call 26; refine (sum_any _ _ _ _ _ _ m n W3.drew HM.out HN.out hla hlb).mono ?_; rintro e u1 ⟨po, pl, pc, rfl, hp, hb1⟩; have HB1 := Lib.hid (below_of_drew hb1); have HP := Lib.hid hp; have HF1 := Lib.hid (HF.out.later HB1.out); clear hb1 hp; have k0 : u1.cell? ⟨W.heap.size, 0, none⟩ = some (.bool s) := HF1.out.cell 0 0 rfl rfl; have k1 : u1.cell? ⟨W.heap.size, 1, none⟩ = some (.slice ao la ca) := HF1.out.cell 0 1 rfl rfl; have k2 : u1.cell? ⟨W.heap.size + 1, 0, none⟩ = some (.bool s) := HF1.out.cell 1 0 rfl rfl; have k3 : u1.cell? ⟨W.heap.size + 1, 1, none⟩ = some (.slice bo lb cb) := HF1.out.cell 1 1 rfl rfl) | (go_at_call 28; refine (signed_any s _ _ _ (m + n) _ HP.out).mono ?_; rintro e u2 ⟨neg, so, sl, sc, rfl, hz, hb2⟩; have HF2 := Lib.hid (HF1.out.later hb2); have HZ := Lib.hid hz; clear hb2 hz; have j0 : u2.cell? ⟨W.heap.size, 0, none⟩ = some (.bool s) := HF2.out.cell 0 0 rfl rfl; have j1 : u2.cell? ⟨W.heap.size, 1, none⟩ = some (.slice ao la ca) := HF2.out.cell 0 1 rfl rfl; have j2 : u2.cell? ⟨W.heap.size + 1, 0, none⟩ = some (.bool s) := HF2.out.cell 1 0 rfl rfl; have j3 : u2.cell? ⟨W.heap.size + 1, 1, none⟩ = some (.slice bo lb cb) := HF2.out.cell 1 1 rfl rfl; have g0 : u2.cell? ⟨W.heap.size + 2, 0, none⟩ = some (.bool false) := HF2.out.cell 2 0 rfl rfl; have g1 : u2.cell? ⟨W.heap.size + 2, 1, none⟩ = some (.slice none 0 0) := HF2.out.cell 2 1 rfl rfl; have g2 : u2.frozen? ⟨W.heap.size + 2, 0, none⟩ = false := HF2.out.frozen 2 0 rfl; have g3 : u2.frozen? ⟨W.heap.size + 2, 1, none⟩ = false := HF2.out.frozen 2 1 rfl))
  go_wp2
  obtain ⟨e0, e1, hz, hbel, _⟩ := HF2.out.finI (cap := sc) 2 rfl HZ.out
  exact bodyPost_ret (v := .agg #[.bool neg, .slice so sl sc]) (by simp [results, Try.results23, go_sem, e0, e1]) rfl ⟨neg, so, sl, sc, rfl, hz, hbel⟩

set_option maxHeartbeats 2000000 in
theorem plus_lt (s : Bool) (ao bo : Option Addr) (la lb ca cb : Nat) (m n : Nat) (W : World) (hm : N32 W ao la m) (hn : N32 W bo lb n) (hla : la ≤ 1000000000) (hlb : lb ≤ 1000000000) (hlt : m < n) :
    Calls Try.prog 23 #[.agg #[.bool s, .slice ao la ca], .agg #[.bool (!s), .slice bo lb cb]] W (OutI W (sgn (!s) (n - m))) := by
  have hf : Fr W (((W.alloc (.cells #[.bool s, .slice ao la ca] 27)).alloc (.cells #[.bool (!s), .slice bo lb cb] 27)).alloc (.cells #[.bool false, .slice none 0 0] 27))
      [(27, #[.bool s, .slice ao la ca]), (27, #[.bool (!s), .slice bo lb cb]), (27, #[.bool false, .slice none 0 0])] :=
    (((Fr.nil W).alloc rfl _ _).alloc (by simp) _ _).alloc (by simp) _ _
  have HM := Lib.hid (hm.keep hf.below)
  have HN := Lib.hid (hn.keep hf.below)
  clear hm hn
  have hbb : (s == !s) = false := by cases s <;> rfl
  go_enter Try.func23, Try.ntmps23
  go_wp2_with fail
  obtain ⟨W3, hW3⟩ : ∃ W3, W3 = ((W.alloc (.cells #[.bool s, .slice ao la ca] 27)).alloc (.cells #[.bool (!s), .slice bo lb cb] 27)).alloc (.cells #[.bool false, .slice none 0 0] 27) := ⟨_, rfl⟩
  rw [← hW3] at hf HM HN ⊢
  clear hW3
  have HF0 := Lib.hid hf
  clear hf
  have c0 : W3.cell? ⟨W.heap.size, 0, none⟩ = some (.bool s) := HF0.out.cell 0 0 rfl rfl
  have c1 : W3.cell? ⟨W.heap.size, 1, none⟩ = some (.slice ao la ca) := HF0.out.cell 0 1 rfl rfl
  have c2 : W3.cell? ⟨W.heap.size + 1, 0, none⟩ = some (.bool (!s)) := HF0.out.cell 1 0 rfl rfl
  have c3 : W3.cell? ⟨W.heap.size + 1, 1, none⟩ = some (.slice bo lb cb) := HF0.out.cell 1 1 rfl rfl
  go_wp2_with fail
  refine (compare_any _ _ _ _ _ _ m n W3 HM.out HN.out hla hlb).mono ?_
  rintro e w1 ⟨rfl, hdr⟩
  rw [cmpN_lt hlt]
  have HF := Lib.hid (HF0.out.later hdr.below)
  have HM1 := Lib.hid (HM.out.keep hdr.below)
  have HN1 := Lib.hid (HN.out.keep hdr.below)
  clear hdr c0 c1 c2 c3
  have d0 : w1.cell? ⟨W.heap.size, 0, none⟩ = some (.bool s) := HF.out.cell 0 0 rfl rfl
  have d1 : w1.cell? ⟨W.heap.size, 1, none⟩ = some (.slice ao la ca) := HF.out.cell 0 1 rfl rfl
  have d2 : w1.cell? ⟨W.heap.size + 1, 0, none⟩ = some (.bool (!s)) := HF.out.cell 1 0 rfl rfl
  have d3 : w1.cell? ⟨W.heap.size + 1, 1, none⟩ = some (.slice bo lb cb) := HF.out.cell 1 1 rfl rfl
  go_wp2_with fail
  go_region_held3 (fun w' => w'.cell? ⟨W.heap.size, 0, none⟩ = some (.bool s) ∧ w'.cell? ⟨W.heap.size, 1, none⟩ = some (.slice ao la ca) ∧ w'.cell? ⟨W.heap.size + 1, 0, none⟩ = some (.bool (!s)) ∧ w'.cell? ⟨W.heap.size + 1, 1, none⟩ = some (.slice bo lb cb)) (first | (go_keep; done) | ((try dsimp only); (repeat' apply And.intro) <;> (first | (go_keep; done) | (rw [cell_set2 _ _ _ _ _ _ (by omega)]; assumption))))
    (first | (go_at_call 27; refine (difference_any _ _ _ _ _ _ n m w1.drew HN1.out HM1.out hlb (Nat.le_of_lt hlt)).mono ?_; rintro e u1 ⟨po, pl, pc, rfl, hp, hb1⟩; have HB1 := Lib.hid (below_of_drew hb1); have HP := Lib.hid hp; have HF1 := Lib.hid (HF.out.later HB1.out); clear hb1 hp; have k0 : u1.cell? ⟨W.heap.size, 0, none⟩ = some (.bool s) := HF1.out.cell 0 0 rfl rfl; have k1 : u1.cell? ⟨W.heap.size, 1, none⟩ = some (.slice ao la ca) := HF1.out.cell 0 1 rfl rfl; have k2 : u1.cell? ⟨W.heap.size + 1, 0, none⟩ = some (.bool (!s)) := HF1.out.cell 1 0 rfl rfl; have k3 : u1.cell? ⟨W.heap.size + 1, 1, none⟩ = some (.slice bo lb cb) := HF1.out.cell 1 1 rfl rfl) | (go_at_call 28; refine (signed_any (!s) _ _ _ (n - m) _ HP.out).mono ?_; rintro e u2 ⟨neg, so, sl, sc, rfl, hz, hb2⟩; have HF2 := Lib.hid (HF1.out.later hb2); have HZ := Lib.hid hz; clear hb2 hz; have j0 : u2.cell? ⟨W.heap.size, 0, none⟩ = some (.bool s) := HF2.out.cell 0 0 rfl rfl; have j1 : u2.cell? ⟨W.heap.size, 1, none⟩ = some (.slice ao la ca) := HF2.out.cell 0 1 rfl rfl; have j2 : u2.cell? ⟨W.heap.size + 1, 0, none⟩ = some (.bool (!s)) := HF2.out.cell 1 0 rfl rfl; have j3 : u2.cell? ⟨W.heap.size + 1, 1, none⟩ = some (.slice bo lb cb) := HF2.out.cell 1 1 rfl rfl; have g0 : u2.cell? ⟨W.heap.size + 2, 0, none⟩ = some (.bool false) := HF2.out.cell 2 0 rfl rfl; have g1 : u2.cell? ⟨W.heap.size + 2, 1, none⟩ = some (.slice none 0 0) := HF2.out.cell 2 1 rfl rfl; have g2 : u2.frozen? ⟨W.heap.size + 2, 0, none⟩ = false := HF2.out.frozen 2 0 rfl; have g3 : u2.frozen? ⟨W.heap.size + 2, 1, none⟩ = false := HF2.out.frozen 2 1 rfl))
  go_wp2
  obtain ⟨e0, e1, hz, hbel, _⟩ := HF2.out.finI (cap := sc) 2 rfl HZ.out
  exact bodyPost_ret (v := .agg #[.bool neg, .slice so sl sc]) (by simp [results, Try.results23, go_sem, e0, e1]) rfl ⟨neg, so, sl, sc, rfl, hz, hbel⟩

set_option maxHeartbeats 2000000 in
theorem plus_ge (s : Bool) (ao bo : Option Addr) (la lb ca cb : Nat) (m n : Nat) (W : World) (hm : N32 W ao la m) (hn : N32 W bo lb n) (hla : la ≤ 1000000000) (hlb : lb ≤ 1000000000) (hlt : n ≤ m) :
    Calls Try.prog 23 #[.agg #[.bool s, .slice ao la ca], .agg #[.bool (!s), .slice bo lb cb]] W (OutI W (sgn s (m - n))) := by
  have hf : Fr W (((W.alloc (.cells #[.bool s, .slice ao la ca] 27)).alloc (.cells #[.bool (!s), .slice bo lb cb] 27)).alloc (.cells #[.bool false, .slice none 0 0] 27))
      [(27, #[.bool s, .slice ao la ca]), (27, #[.bool (!s), .slice bo lb cb]), (27, #[.bool false, .slice none 0 0])] :=
    (((Fr.nil W).alloc rfl _ _).alloc (by simp) _ _).alloc (by simp) _ _
  have HM := Lib.hid (hm.keep hf.below)
  have HN := Lib.hid (hn.keep hf.below)
  clear hm hn
  have hbb : (s == !s) = false := by cases s <;> rfl
  go_enter Try.func23, Try.ntmps23
  go_wp2_with fail
  obtain ⟨W3, hW3⟩ : ∃ W3, W3 = ((W.alloc (.cells #[.bool s, .slice ao la ca] 27)).alloc (.cells #[.bool (!s), .slice bo lb cb] 27)).alloc (.cells #[.bool false, .slice none 0 0] 27) := ⟨_, rfl⟩
  rw [← hW3] at hf HM HN ⊢
  clear hW3
  have HF0 := Lib.hid hf
  clear hf
  have c0 : W3.cell? ⟨W.heap.size, 0, none⟩ = some (.bool s) := HF0.out.cell 0 0 rfl rfl
  have c1 : W3.cell? ⟨W.heap.size, 1, none⟩ = some (.slice ao la ca) := HF0.out.cell 0 1 rfl rfl
  have c2 : W3.cell? ⟨W.heap.size + 1, 0, none⟩ = some (.bool (!s)) := HF0.out.cell 1 0 rfl rfl
  have c3 : W3.cell? ⟨W.heap.size + 1, 1, none⟩ = some (.slice bo lb cb) := HF0.out.cell 1 1 rfl rfl
  go_wp2_with fail
  refine (compare_any _ _ _ _ _ _ m n W3 HM.out HN.out hla hlb).mono ?_
  rintro e w1 ⟨rfl, hdr⟩
  obtain ⟨z, hz⟩ : ∃ z, z = cmpN m n := ⟨_, rfl⟩
  rw [← hz]
  have tz : 0 ≤ z := by rw [hz]; unfold cmpN; rw [if_neg (by omega)]; split <;> decide
  have tn : ¬ z < 0 := by omega
  clear hz
  have HF := Lib.hid (HF0.out.later hdr.below)
  have HM1 := Lib.hid (HM.out.keep hdr.below)
  have HN1 := Lib.hid (HN.out.keep hdr.below)
  clear hdr c0 c1 c2 c3
  have d0 : w1.cell? ⟨W.heap.size, 0, none⟩ = some (.bool s) := HF.out.cell 0 0 rfl rfl
  have d1 : w1.cell? ⟨W.heap.size, 1, none⟩ = some (.slice ao la ca) := HF.out.cell 0 1 rfl rfl
  have d2 : w1.cell? ⟨W.heap.size + 1, 0, none⟩ = some (.bool (!s)) := HF.out.cell 1 0 rfl rfl
  have d3 : w1.cell? ⟨W.heap.size + 1, 1, none⟩ = some (.slice bo lb cb) := HF.out.cell 1 1 rfl rfl
  go_wp2_with fail
  go_region_held3 (fun w' => w'.cell? ⟨W.heap.size, 0, none⟩ = some (.bool s) ∧ w'.cell? ⟨W.heap.size, 1, none⟩ = some (.slice ao la ca) ∧ w'.cell? ⟨W.heap.size + 1, 0, none⟩ = some (.bool (!s)) ∧ w'.cell? ⟨W.heap.size + 1, 1, none⟩ = some (.slice bo lb cb)) (first | (go_keep; done) | ((try dsimp only); (repeat' apply And.intro) <;> (first | (go_keep; done) | (rw [cell_set2 _ _ _ _ _ _ (by omega)]; assumption))))
    (first | (go_at_call 27; refine (difference_any _ _ _ _ _ _ m n w1.drew HM1.out HN1.out hla hlt).mono ?_; rintro e u1 ⟨po, pl, pc, rfl, hp, hb1⟩; have HB1 := Lib.hid (below_of_drew hb1); have HP := Lib.hid hp; have HF1 := Lib.hid (HF.out.later HB1.out); clear hb1 hp; have k0 : u1.cell? ⟨W.heap.size, 0, none⟩ = some (.bool s) := HF1.out.cell 0 0 rfl rfl; have k1 : u1.cell? ⟨W.heap.size, 1, none⟩ = some (.slice ao la ca) := HF1.out.cell 0 1 rfl rfl; have k2 : u1.cell? ⟨W.heap.size + 1, 0, none⟩ = some (.bool (!s)) := HF1.out.cell 1 0 rfl rfl; have k3 : u1.cell? ⟨W.heap.size + 1, 1, none⟩ = some (.slice bo lb cb) := HF1.out.cell 1 1 rfl rfl) | (go_at_call 28; refine (signed_any s _ _ _ (m - n) _ HP.out).mono ?_; rintro e u2 ⟨neg, so, sl, sc, rfl, hz, hb2⟩; have HF2 := Lib.hid (HF1.out.later hb2); have HZ := Lib.hid hz; clear hb2 hz; have j0 : u2.cell? ⟨W.heap.size, 0, none⟩ = some (.bool s) := HF2.out.cell 0 0 rfl rfl; have j1 : u2.cell? ⟨W.heap.size, 1, none⟩ = some (.slice ao la ca) := HF2.out.cell 0 1 rfl rfl; have j2 : u2.cell? ⟨W.heap.size + 1, 0, none⟩ = some (.bool (!s)) := HF2.out.cell 1 0 rfl rfl; have j3 : u2.cell? ⟨W.heap.size + 1, 1, none⟩ = some (.slice bo lb cb) := HF2.out.cell 1 1 rfl rfl; have g0 : u2.cell? ⟨W.heap.size + 2, 0, none⟩ = some (.bool false) := HF2.out.cell 2 0 rfl rfl; have g1 : u2.cell? ⟨W.heap.size + 2, 1, none⟩ = some (.slice none 0 0) := HF2.out.cell 2 1 rfl rfl; have g2 : u2.frozen? ⟨W.heap.size + 2, 0, none⟩ = false := HF2.out.frozen 2 0 rfl; have g3 : u2.frozen? ⟨W.heap.size + 2, 1, none⟩ = false := HF2.out.frozen 2 1 rfl))
  go_wp2
  obtain ⟨e0, e1, hz, hbel, _⟩ := HF2.out.finI (cap := sc) 2 rfl HZ.out
  exact bodyPost_ret (v := .agg #[.bool neg, .slice so sl sc]) (by simp [results, Try.results23, go_sem, e0, e1]) rfl ⟨neg, so, sl, sc, rfl, hz, hbel⟩

theorem plus_any (na nb : Bool) (ao bo : Option Addr) (la lb ca cb : Nat) (x y : Int) (W : World) (ha : Z32 W na ao la x) (hb : Z32 W nb bo lb y) (hla : la ≤ 1000000000) (hlb : lb ≤ 1000000000) :
    Calls Try.prog 23 #[.agg #[.bool na, .slice ao la ca], .agg #[.bool nb, .slice bo lb cb]] W (OutI W (x + y)) := by
  obtain ⟨m, hm, rfl, hpm⟩ := ha
  obtain ⟨n, hn, rfl, hpn⟩ := hb
  by_cases h : na = nb
  · subst h
    rw [sgn_add]
    exact plus_same na ao bo la lb ca cb m n W hm hn hla hlb
  · obtain rfl : nb = !na := by cases na <;> cases nb <;> simp_all
    rcases Nat.lt_or_ge m n with hlt | hlt
    · rw [sgn_lt na hlt]
      exact plus_lt na ao bo la lb ca cb m n W hm hn hla hlb hlt
    · rw [sgn_ge na hlt]
      exact plus_ge na ao bo la lb ca cb m n W hm hn hla hlb hlt
end Go.Proofs.Ytcgnmihabkgecaa

/- The specification: Add. -/
set_option linter.unusedVariables false
namespace Go.Proofs.Ytcgnmihabkgecaa
open Go.RowKit

end Go.Proofs.Ytcgnmihabkgecaa

/- The specification: Opp, Sub, Cmp. -/
set_option linter.unusedVariables false
namespace Go.Proofs.Ytcgnmihabkgecaa
open Go.RowKit

theorem sgn_neg (s : Bool) (n : Nat) : -sgn s n = sgn (!s) n := by cases s <;> simp [sgn]

end Go.Proofs.Ytcgnmihabkgecaa

/- Of, Num, Floor of fractions; the specification's Whole and Text of a fraction. -/
set_option linter.unusedVariables false
namespace Go.Proofs.Ytcgnmihabkgecaa
open Go.RowKit

set_option maxHeartbeats 1000000 in
theorem ratNum_any (na : Bool) (ao bo : Option Addr) (la lb ca cb : Nat) (p : Int) (q : Nat) (W : World) (h : Q32 W na ao la bo lb p q) (hla : la ≤ 1000000000) :
    Calls Try.prog 14 #[.agg #[.bool na, .slice ao la ca, .slice bo lb cb]] W (OutI W p) := by
  have hf : Fr W ((W.alloc (.cells #[.bool na, .slice ao la ca, .slice bo lb cb] 45)).alloc (.cells #[.bool false, .slice none 0 0] 27))
      [(45, #[.bool na, .slice ao la ca, .slice bo lb cb]), (27, #[.bool false, .slice none 0 0])] :=
    ((Fr.nil W).alloc rfl _ _).alloc (by simp) _ _
  obtain ⟨n, hn, rfl, hp⟩ := (h.keep hf.below).1
  have HN := Lib.hid hn
  clear h hn hp
  go_enter Try.func14, Try.ntmps14
  go_wp2_with fail
  obtain ⟨W3, hW3⟩ : ∃ W3, W3 = (W.alloc (.cells #[.bool na, .slice ao la ca, .slice bo lb cb] 45)).alloc (.cells #[.bool false, .slice none 0 0] 27) := ⟨_, rfl⟩
  rw [← hW3] at hf HN ⊢
  clear hW3
  have HF := Lib.hid hf
  clear hf
  have c0 : W3.cell? ⟨W.heap.size, 0, none⟩ = some (.bool na) := HF.out.cell 0 0 rfl rfl
  have c1 : W3.cell? ⟨W.heap.size, 1, none⟩ = some (.slice ao la ca) := HF.out.cell 0 1 rfl rfl
  go_region_held3 (fun w' => w'.cell? ⟨W.heap.size, 0, none⟩ = some (.bool na) ∧ w'.cell? ⟨W.heap.size, 1, none⟩ = some (.slice ao la ca)) (first | (go_keep; done) | ((try dsimp only); (repeat' apply And.intro) <;> (first | (go_keep; done) | (rw [cell_set2 _ _ _ _ _ _ (by omega)]; assumption))))
    (first | (go_at_call 29; refine (duplicate_n _ _ _ n W3.drew HN.out hla).mono ?_; rintro e u1 ⟨po, pc, rfl, hp, hb1⟩; have HB1 := Lib.hid (below_of_drew hb1); have HP := Lib.hid hp; have HF1 := Lib.hid (HF.out.later HB1.out); clear hb1 hp; have k0 : u1.cell? ⟨W.heap.size, 0, none⟩ = some (.bool na) := HF1.out.cell 0 0 rfl rfl; have k1 : u1.cell? ⟨W.heap.size, 1, none⟩ = some (.slice ao la ca) := HF1.out.cell 0 1 rfl rfl) | (go_at_call 28; refine (signed_any na _ _ _ n _ HP.out).mono ?_; rintro e u2 ⟨neg, so, sl, sc, rfl, hz, hb2⟩; have HF2 := Lib.hid (HF1.out.later hb2); have HZ := Lib.hid hz; clear hb2 hz; have j0 : u2.cell? ⟨W.heap.size, 0, none⟩ = some (.bool na) := HF2.out.cell 0 0 rfl rfl; have j1 : u2.cell? ⟨W.heap.size, 1, none⟩ = some (.slice ao la ca) := HF2.out.cell 0 1 rfl rfl; have g0 : u2.cell? ⟨W.heap.size + 1, 0, none⟩ = some (.bool false) := HF2.out.cell 1 0 rfl rfl; have g1 : u2.cell? ⟨W.heap.size + 1, 1, none⟩ = some (.slice none 0 0) := HF2.out.cell 1 1 rfl rfl; have g2 : u2.frozen? ⟨W.heap.size + 1, 0, none⟩ = false := HF2.out.frozen 1 0 rfl; have g3 : u2.frozen? ⟨W.heap.size + 1, 1, none⟩ = false := HF2.out.frozen 1 1 rfl))
  go_wp2
  obtain ⟨e0, e1, hz, hbel, _⟩ := HF2.out.finI (cap := sc) 1 rfl HZ.out
  exact bodyPost_ret (v := .agg #[.bool neg, .slice so sl sc]) (by simp [results, Try.results14, go_sem, e0, e1]) rfl ⟨neg, so, sl, sc, rfl, hz, hbel⟩

/-- a fraction of the specification is returned -/
def OutK (W : World) (p : Int) (q : Int) (e : Ending) (w' : World) : Prop :=
  ∃ s1 o1 l1 c1 s2 o2 l2 c2, e = .returned (.agg #[.bool s1, .slice o1 l1 c1, .bool s2, .slice o2 l2 c2]) ∧ l1 ≤ c1 ∧ c1 ≤ 9223372036854775807 ∧ l2 ≤ c2 ∧ c2 ≤ 9223372036854775807 ∧ Z16 w' s1 o1 l1 p ∧ Z16 w' s2 o2 l2 q ∧ Below W.heap.size W w'

theorem Fr.finK {W w : World} {bs : List (Nat × Array Value)} {s1 s2 : Bool} {o1 o2 : Option Addr} {l1 l2 c1 c2 : Nat} {p q : Int} (hf : Fr W w bs) (i : Nat) {T : Nat} {e0 e1 : Bool} {a1 a2 : Option Addr} {m1 m2 d1 d2 : Nat}
    (hi : bs[i]? = some (T, #[.bool e0, .slice a1 m1 d1, .bool e1, .slice a2 m2 d2])) (h1 : Z16 w s1 o1 l1 p) (h2 : Z16 w s2 o2 l2 q) :
    let w' := (((w.setCell ⟨W.heap.size + i, 0, none⟩ (.bool s1)).setCell ⟨W.heap.size + i, 1, none⟩ (.slice o1 l1 c1)).setCell ⟨W.heap.size + i, 2, none⟩ (.bool s2)).setCell ⟨W.heap.size + i, 3, none⟩ (.slice o2 l2 c2)
    w'.cell? ⟨W.heap.size + i, 0, none⟩ = some (.bool s1) ∧ w'.cell? ⟨W.heap.size + i, 1, none⟩ = some (.slice o1 l1 c1) ∧ w'.cell? ⟨W.heap.size + i, 2, none⟩ = some (.bool s2) ∧ w'.cell? ⟨W.heap.size + i, 3, none⟩ = some (.slice o2 l2 c2) ∧
      Z16 w' s1 o1 l1 p ∧ Z16 w' s2 o2 l2 q ∧ Below W.heap.size W w' := by
  have hl := (List.getElem?_eq_some_iff.1 hi).1
  have k1 := hf.set i 0 hi (.bool s1)
  have i1 : (bs.set i (T, #[.bool s1, .slice a1 m1 d1, .bool e1, .slice a2 m2 d2]))[i]? = some (T, #[.bool s1, .slice a1 m1 d1, .bool e1, .slice a2 m2 d2]) := List.getElem?_set_self hl
  have p1 := h1.setFr hf i 0 hi rfl (.bool s1)
  have q1 := h2.setFr hf i 0 hi rfl (.bool s1)
  have k2 := k1.set i 1 i1 (.slice o1 l1 c1)
  have i2 : ((bs.set i (T, #[.bool s1, .slice a1 m1 d1, .bool e1, .slice a2 m2 d2])).set i (T, #[.bool s1, .slice o1 l1 c1, .bool e1, .slice a2 m2 d2]))[i]? = some (T, #[.bool s1, .slice o1 l1 c1, .bool e1, .slice a2 m2 d2]) := List.getElem?_set_self (by simpa using hl)
  have p2 := p1.setFr k1 i 1 i1 rfl (.slice o1 l1 c1)
  have q2 := q1.setFr k1 i 1 i1 rfl (.slice o1 l1 c1)
  have k3 := k2.set i 2 i2 (.bool s2)
  have i3 : (((bs.set i (T, #[.bool s1, .slice a1 m1 d1, .bool e1, .slice a2 m2 d2])).set i (T, #[.bool s1, .slice o1 l1 c1, .bool e1, .slice a2 m2 d2])).set i (T, #[.bool s1, .slice o1 l1 c1, .bool s2, .slice a2 m2 d2]))[i]? = some (T, #[.bool s1, .slice o1 l1 c1, .bool s2, .slice a2 m2 d2]) := List.getElem?_set_self (by simpa using hl)
  have p3 := p2.setFr k2 i 2 i2 rfl (.bool s2)
  have q3 := q2.setFr k2 i 2 i2 rfl (.bool s2)
  have k4 := k3.set i 3 i3 (.slice o2 l2 c2)
  have i4 : ((((bs.set i (T, #[.bool s1, .slice a1 m1 d1, .bool e1, .slice a2 m2 d2])).set i (T, #[.bool s1, .slice o1 l1 c1, .bool e1, .slice a2 m2 d2])).set i (T, #[.bool s1, .slice o1 l1 c1, .bool s2, .slice a2 m2 d2])).set i (T, #[.bool s1, .slice o1 l1 c1, .bool s2, .slice o2 l2 c2]))[i]? = some (T, #[.bool s1, .slice o1 l1 c1, .bool s2, .slice o2 l2 c2]) := List.getElem?_set_self (by simpa using hl)
  have p4 := p3.setFr k3 i 3 i3 rfl (.slice o2 l2 c2)
  have q4 := q3.setFr k3 i 3 i3 rfl (.slice o2 l2 c2)
  exact ⟨k4.cell i 0 i4 rfl, k4.cell i 1 i4 rfl, k4.cell i 2 i4 rfl, k4.cell i 3 i4 rfl, p4, q4, k4.below⟩

end Go.Proofs.Ytcgnmihabkgecaa
