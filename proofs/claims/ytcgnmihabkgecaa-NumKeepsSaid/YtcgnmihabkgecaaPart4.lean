/- Part 4 of the contracts: Fr, Rat1, Rat2, Dec, Div. -/
import Derived.Test.YtcgnmihabkgecaaPart3

/- A call's own blocks, by their numbers behind the heap's size at its start. -/
set_option linter.unusedVariables false
namespace Go.Proofs.Ytcgnmihabkgecaa
open Go.RowKit

/-- W: the world at the call's start; w: later; the first blocks that the call made hold bs. -/
structure Fr (W w : World) (bs : List (Nat × Array Value)) : Prop where
  below : Below W.heap.size W w
  size : W.heap.size + bs.length ≤ w.heap.size
  box : ∀ i T c, bs[i]? = some (T, c) → Box w (W.heap.size + i) T c

theorem Fr.nil (W : World) : Fr W W [] := ⟨Below.refl _ _, Nat.le_refl _, fun i T c h => by simp at h⟩

theorem Fr.later {W w w' : World} {bs : List (Nat × Array Value)} (h : Fr W w bs) (hb : Below w.heap.size w w') : Fr W w' bs := by
  refine ⟨h.below.trans (hb.mono h.below.size), Nat.le_trans h.size hb.size, fun i T c hi => ?_⟩
  have hl := (List.getElem?_eq_some_iff.1 hi).1
  exact (h.box i T c hi).below hb (by have := h.size; omega)

theorem Fr.alloc {W w : World} {bs : List (Nat × Array Value)} (h : Fr W w bs) (hs : w.heap.size = W.heap.size + bs.length) (T : Nat) (c : Array Value) : Fr W (w.alloc (.cells c T)) (bs ++ [(T, c)]) := by
  refine ⟨h.below.alloc h.below.size _, by simp; omega, fun i T' c' hi => ?_⟩
  by_cases hl : i < bs.length
  · rw [List.getElem?_append_left hl] at hi
    have hb := h.box i T' c' hi
    exact (Below.heap_alloc w _ _ (Array.getElem?_eq_some_iff.1 hb).1).trans hb
  · rw [List.getElem?_append_right (by omega)] at hi
    have h0 : i - bs.length = 0 := by
      have := (List.getElem?_eq_some_iff.1 hi).1
      simp at this
      omega
    rw [h0] at hi
    simp at hi
    obtain ⟨rfl, rfl⟩ := hi
    have e : W.heap.size + i = w.heap.size := by omega
    rw [e]
    exact Box.new w _ _

theorem Fr.drew {W w : World} {bs : List (Nat × Array Value)} (h : Fr W w bs) : Fr W w.drew bs := ⟨h.below.drew, h.size, h.box⟩

theorem Fr.cell {W w : World} {bs : List (Nat × Array Value)} (h : Fr W w bs) (i j : Nat) {T : Nat} {c : Array Value} {v : Value} (hi : bs[i]? = some (T, c)) (hj : c[j]? = some v) : w.cell? ⟨W.heap.size + i, j, none⟩ = some v :=
  ((h.box i T c hi).cell j).trans hj

theorem Fr.frozen {W w : World} {bs : List (Nat × Array Value)} (h : Fr W w bs) (i j : Nat) {T : Nat} {c : Array Value} (hi : bs[i]? = some (T, c)) : w.frozen? ⟨W.heap.size + i, j, none⟩ = false :=
  (h.box i T c hi).frozen j

theorem Fr.set {W w : World} {bs : List (Nat × Array Value)} (h : Fr W w bs) (i j : Nat) {T : Nat} {c : Array Value} (hi : bs[i]? = some (T, c)) (u : Value) : Fr W (w.setCell ⟨W.heap.size + i, j, none⟩ u) (bs.set i (T, c.setIfInBounds j u)) := by
  refine ⟨h.below.setCell (by simp) _, by simpa using h.size, fun k T' c' hk => ?_⟩
  rw [List.getElem?_set] at hk
  have hl := (List.getElem?_eq_some_iff.1 hi).1
  by_cases hik : i = k
  · subst hik
    rw [if_pos rfl, if_pos hl] at hk
    simp only [Option.some.injEq, Prod.mk.injEq] at hk
    obtain ⟨rfl, rfl⟩ := hk
    exact (h.box i T c hi).set j u
  · rw [if_neg hik] at hk
    refine (Below.heap_setCell _ _ _ _ ?_).trans (h.box k T' c' hk)
    simp; omega

/-- no number among these -/
def noInts (c : Array Value) : Bool := c.toList.all fun v => !isInt v

theorem noInts_get {c : Array Value} (h : noInts c = true) : ∀ (i : Nat) (v : Value), c[i]? = some v → isInt v = false := by
  intro i v hv
  have h2 := List.all_eq_true.1 h v (by
    rw [← Array.getElem?_toList] at hv
    exact List.mem_of_getElem? hv)
  simpa using h2

theorem N32.setFr {W w : World} {bs : List (Nat × Array Value)} {ao : Option Addr} {len n : Nat} (h : N32 w ao len n) (hf : Fr W w bs) (i j : Nat) {T : Nat} {c : Array Value} (hi : bs[i]? = some (T, c)) (hc : noInts c = true) (u : Value) :
    N32 (w.setCell ⟨W.heap.size + i, j, none⟩ u) ao len n := h.setBox (hf.box i T c hi) (noInts_get hc) j u

theorem Z32.setFr {W w : World} {bs : List (Nat × Array Value)} {neg : Bool} {ao : Option Addr} {len : Nat} {z : Int} (h : Z32 w neg ao len z) (hf : Fr W w bs) (i j : Nat) {T : Nat} {c : Array Value} (hi : bs[i]? = some (T, c)) (hc : noInts c = true) (u : Value) :
    Z32 (w.setCell ⟨W.heap.size + i, j, none⟩ u) neg ao len z := by
  obtain ⟨n, h1, h2⟩ := h
  exact ⟨n, h1.setFr hf i j hi hc u, h2⟩

/-- a fraction: the parts of the numerator, the slice of the denominator, which is empty for 1 -/
def Q32 (w : World) (neg : Bool) (ao : Option Addr) (len : Nat) (bo : Option Addr) (bl : Nat) (p : Int) (q : Nat) : Prop :=
  Z32 w neg ao len p ∧ ((bl = 0 ∧ q = 1) ∨ (N32 w bo bl q ∧ 1 < q))

theorem Q32.keep {w w' : World} {neg : Bool} {ao bo : Option Addr} {len bl : Nat} {p : Int} {q : Nat} (h : Q32 w neg ao len bo bl p q) (hb : Below w.heap.size w w') : Q32 w' neg ao len bo bl p q := by
  refine ⟨h.1.keep hb, ?_⟩
  rcases h.2 with h2 | ⟨h2, h3⟩
  · exact .inl h2
  · exact .inr ⟨h2.keep hb, h3⟩

theorem Q32.setFr {W w : World} {bs : List (Nat × Array Value)} {neg : Bool} {ao bo : Option Addr} {len bl : Nat} {p : Int} {q : Nat} (h : Q32 w neg ao len bo bl p q) (hf : Fr W w bs) (i j : Nat) {T : Nat} {c : Array Value} (hi : bs[i]? = some (T, c)) (hc : noInts c = true) (u : Value) :
    Q32 (w.setCell ⟨W.heap.size + i, j, none⟩ u) neg ao len bo bl p q := by
  refine ⟨h.1.setFr hf i j hi hc u, ?_⟩
  rcases h.2 with h2 | ⟨h2, h3⟩
  · exact .inl h2
  · exact .inr ⟨h2.setFr hf i j hi hc u, h3⟩

theorem Q32.bl0 {w : World} {neg : Bool} {ao bo : Option Addr} {len bl : Nat} {p : Int} {q : Nat} (h : Q32 w neg ao len bo bl p q) : bl = 0 ↔ q = 1 := by
  rcases h.2 with ⟨h2, h3⟩ | ⟨h2, h3⟩
  · simp [h2, h3]
  · have := h2.zero; omega

/-- returned: a struct that is the fraction p / q -/
def OutQ (W : World) (p : Int) (q : Nat) (e : Ending) (w' : World) : Prop :=
  ∃ neg ao len cap bo bl bc, e = .returned (.agg #[.bool neg, .slice ao len cap, .slice bo bl bc]) ∧ Q32 w' neg ao len bo bl p q ∧ Below W.heap.size W w'


/-- a fraction is stored in the call's own block number i -/
theorem Fr.finQ {W w : World} {bs : List (Nat × Array Value)} {neg : Bool} {ao bo : Option Addr} {len bl cap bc : Nat} {p : Int} {q : Nat} (hf : Fr W w bs) (i : Nat) {T : Nat} {e0 : Bool} {a1 a2 : Option Addr} {l1 l2 c1 c2 : Nat}
    (hi : bs[i]? = some (T, #[.bool e0, .slice a1 l1 c1, .slice a2 l2 c2])) (h : Q32 w neg ao len bo bl p q) :
    let w' := ((w.setCell ⟨W.heap.size + i, 0, none⟩ (.bool neg)).setCell ⟨W.heap.size + i, 1, none⟩ (.slice ao len cap)).setCell ⟨W.heap.size + i, 2, none⟩ (.slice bo bl bc)
    w'.cell? ⟨W.heap.size + i, 0, none⟩ = some (.bool neg) ∧ w'.cell? ⟨W.heap.size + i, 1, none⟩ = some (.slice ao len cap) ∧ w'.cell? ⟨W.heap.size + i, 2, none⟩ = some (.slice bo bl bc) ∧ Q32 w' neg ao len bo bl p q ∧ Below W.heap.size W w' := by
  have hl := (List.getElem?_eq_some_iff.1 hi).1
  have k1 := hf.set i 0 hi (.bool neg)
  have i1 : (bs.set i (T, #[.bool neg, .slice a1 l1 c1, .slice a2 l2 c2]))[i]? = some (T, #[.bool neg, .slice a1 l1 c1, .slice a2 l2 c2]) := List.getElem?_set_self hl
  have q1 := h.setFr hf i 0 hi rfl (.bool neg)
  have k2 := k1.set i 1 i1 (.slice ao len cap)
  have i2 : ((bs.set i (T, #[.bool neg, .slice a1 l1 c1, .slice a2 l2 c2])).set i (T, #[.bool neg, .slice ao len cap, .slice a2 l2 c2]))[i]? = some (T, #[.bool neg, .slice ao len cap, .slice a2 l2 c2]) := List.getElem?_set_self (by simpa using hl)
  have q2 := q1.setFr k1 i 1 i1 rfl (.slice ao len cap)
  have k3 := k2.set i 2 i2 (.slice bo bl bc)
  have i3 : (((bs.set i (T, #[.bool neg, .slice a1 l1 c1, .slice a2 l2 c2])).set i (T, #[.bool neg, .slice ao len cap, .slice a2 l2 c2])).set i (T, #[.bool neg, .slice ao len cap, .slice bo bl bc]))[i]? = some (T, #[.bool neg, .slice ao len cap, .slice bo bl bc]) := List.getElem?_set_self (by simpa using hl)
  have q3 := q2.setFr k2 i 2 i2 rfl (.slice bo bl bc)
  exact ⟨k3.cell i 0 i3 rfl, k3.cell i 1 i3 rfl, k3.cell i 2 i3 rfl, q3, k3.below⟩

/-- an integer is stored in the call's own block number i -/
theorem Fr.finI {W w : World} {bs : List (Nat × Array Value)} {neg : Bool} {ao : Option Addr} {len cap : Nat} {z : Int} (hf : Fr W w bs) (i : Nat) {T : Nat} {e0 : Bool} {a1 : Option Addr} {l1 c1 : Nat}
    (hi : bs[i]? = some (T, #[.bool e0, .slice a1 l1 c1])) (h : Z32 w neg ao len z) :
    let w' := (w.setCell ⟨W.heap.size + i, 0, none⟩ (.bool neg)).setCell ⟨W.heap.size + i, 1, none⟩ (.slice ao len cap)
    w'.cell? ⟨W.heap.size + i, 0, none⟩ = some (.bool neg) ∧ w'.cell? ⟨W.heap.size + i, 1, none⟩ = some (.slice ao len cap) ∧ Z32 w' neg ao len z ∧ Below W.heap.size W w' ∧ Fr W w' (bs.set i (T, #[.bool neg, .slice ao len cap])) := by
  have hl := (List.getElem?_eq_some_iff.1 hi).1
  have k1 := hf.set i 0 hi (.bool neg)
  have i1 : (bs.set i (T, #[.bool neg, .slice a1 l1 c1]))[i]? = some (T, #[.bool neg, .slice a1 l1 c1]) := List.getElem?_set_self hl
  have q1 := h.setFr hf i 0 hi rfl (.bool neg)
  have k2 := k1.set i 1 i1 (.slice ao len cap)
  have i2 : ((bs.set i (T, #[.bool neg, .slice a1 l1 c1])).set i (T, #[.bool neg, .slice ao len cap]))[i]? = some (T, #[.bool neg, .slice ao len cap]) := List.getElem?_set_self (by simpa using hl)
  have q2 := q1.setFr k1 i 1 i1 rfl (.slice ao len cap)
  refine ⟨k2.cell i 0 i2 rfl, k2.cell i 1 i2 rfl, q2, k2.below, ?_⟩
  have := k2
  rw [List.set_set] at this
  exact this

end Go.Proofs.Ytcgnmihabkgecaa

/- reduced, NewRat, the text of a fraction. -/
set_option linter.unusedVariables false
namespace Go.Proofs.Ytcgnmihabkgecaa
open Go.RowKit

def textQ (p : Int) (q : Nat) : List UInt8 := if q = 1 then numeralZ p else numeralZ p ++ [47] ++ numeral q

theorem numeralZ_len {p : Int} {k : Nat} (h : p.natAbs < B32 ^ k) : (numeralZ p).length ≤ 32 * k + 2 := by
  have := numeral_len h
  unfold numeralZ
  split <;> simp <;> omega

theorem Z32.natAbs_lt {w : World} {neg : Bool} {ao : Option Addr} {len : Nat} {z : Int} (h : Z32 w neg ao len z) : z.natAbs < B32 ^ len := by
  obtain ⟨n, h1, rfl, _⟩ := h
  rw [sgn_natAbs]
  exact h1.lt

set_option maxHeartbeats 1000000 in
theorem ratString_any (na : Bool) (ao bo : Option Addr) (la lb ca cb : Nat) (p : Int) (q : Nat) (W : World) (h : Q32 W na ao la bo lb p q) (hla : la ≤ 1000000000) (hlb : lb ≤ 1000000000) :
    Calls Try.prog 41 #[.agg #[.bool na, .slice ao la ca, .slice bo lb cb]] W (StrPost (textQ p q) W) := by
  have hf : Fr W (W.alloc (.cells #[.bool na, .slice ao la ca, .slice bo lb cb] 45)) [(45, #[.bool na, .slice ao la ca, .slice bo lb cb])] := (Fr.nil W).alloc rfl _ _
  have HF := Lib.hid hf
  have hbl := h.bl0
  have HQ := Lib.hid (h.keep hf.below)
  by_cases h0 : lb = 0
  · have hq : q = 1 := hbl.1 h0
    have HE : Hid (textQ p q = numeralZ p) := by unfold textQ; rw [if_pos hq]; rfl
    rw [HE.out]
    subst h0
    clear hf h hbl hq
    go_enter Try.func41, Try.ntmps41
    go_wp2_with fail
    refine (string_any _ _ _ _ p _ HQ.out.1 hla).mono ?_
    rintro e w1 ⟨rfl, hb⟩
    have HB := Lib.hid hb
    clear hb
    go_wp2
    go_ret
    exact ⟨rfl, below_then HF.out.below HB.out⟩
  · have hq : q ≠ 1 := fun h => h0 (hbl.2 h)
    have hN : N32 (W.alloc (.cells #[.bool na, .slice ao la ca, .slice bo lb cb] 45)) bo lb q := by
      rcases HQ.out.2 with ⟨h2, _⟩ | ⟨h2, _⟩
      · exact absurd h2 h0
      · exact h2
    have HE : Hid (textQ p q = numeralZ p ++ [47] ++ numeral q) := by unfold textQ; rw [if_neg hq]; rfl
    rw [HE.out]
    have hl1 := numeralZ_len h.1.natAbs_lt
    have hl2 := numeral_len hN.lt
    have l1 : ¬ 9223372036854775807 < (numeralZ p).length + 1 := by omega
    have l2 : ¬ 9223372036854775807 < (numeralZ p).length + 1 + (numeral q).length := by omega
    have HN := Lib.hid hN
    have hb0 : ((lb : Int) == 0) = false := by simp; omega
    clear hf h hbl hq hN hl1 hl2
    go_enter Try.func41, Try.ntmps41
    go_wp2_with fail
    obtain ⟨W1, hW1⟩ : ∃ W1, W1 = W.alloc (.cells #[.bool na, .slice ao la ca, .slice bo lb cb] 45) := ⟨_, rfl⟩
    rw [← hW1] at HF HQ HN ⊢
    clear hW1
    have c0 : W1.cell? ⟨W.heap.size, 0, none⟩ = some (.bool na) := HF.out.cell 0 0 rfl rfl
    have c1 : W1.cell? ⟨W.heap.size, 1, none⟩ = some (.slice ao la ca) := HF.out.cell 0 1 rfl rfl
    have c2 : W1.cell? ⟨W.heap.size, 2, none⟩ = some (.slice bo lb cb) := HF.out.cell 0 2 rfl rfl
    go_region_held3 (fun w' => w'.cell? ⟨W.heap.size, 0, none⟩ = some (.bool na) ∧ w'.cell? ⟨W.heap.size, 1, none⟩ = some (.slice ao la ca) ∧ w'.cell? ⟨W.heap.size, 2, none⟩ = some (.slice bo lb cb)) (go_keep)
      (first | (go_at_call 6; refine (string_any _ _ _ _ p W1.drew (HQ.out.keep (Below.refl _ _).drew).1 hla).mono ?_; rintro e w1 ⟨rfl, hb1⟩; have HB1 := Lib.hid (below_of_drew hb1); clear hb1; have d0 : w1.cell? ⟨W.heap.size, 0, none⟩ = some (.bool na) := (HF.out.later HB1.out).cell 0 0 rfl rfl; have d1 : w1.cell? ⟨W.heap.size, 1, none⟩ = some (.slice ao la ca) := (HF.out.later HB1.out).cell 0 1 rfl rfl; have d2 : w1.cell? ⟨W.heap.size, 2, none⟩ = some (.slice bo lb cb) := (HF.out.later HB1.out).cell 0 2 rfl rfl) | (go_at_call 21; refine (writeDigits_any _ _ _ q _ (HN.out.keep HB1.out) hlb).mono ?_; rintro e w2 ⟨rfl, hb2⟩; have HB2 := Lib.hid (below_then HB1.out hb2); clear hb2; have f0 : w2.cell? ⟨W.heap.size, 0, none⟩ = some (.bool na) := (HF.out.later HB2.out).cell 0 0 rfl rfl; have f1 : w2.cell? ⟨W.heap.size, 1, none⟩ = some (.slice ao la ca) := (HF.out.later HB2.out).cell 0 1 rfl rfl; have f2 : w2.cell? ⟨W.heap.size, 2, none⟩ = some (.slice bo lb cb) := (HF.out.later HB2.out).cell 0 2 rfl rfl))
    go_wp2
    go_ret
    refine ⟨?_, below_then HF.out.below HB2.out⟩
    have h1 := bytes_append (numeralZ p) [47]
    have h2 := bytes_append (numeralZ p ++ [47]) (numeral q)
    rw [← h1] at h2
    exact congrArg (fun x => Ending.returned (Value.string x)) h2

theorem N32.one_of {w : World} {ao : Option Addr} {len n : Nat} (h : N32 w ao len n) (hn : n = 1) : len = 1 := by
  obtain ⟨xs, h1, h2, h3, h4⟩ := h
  have : xs = [1] := val_inj B32_pos h2 (Dig.cons (by decide) (Dig.nil _)) h3 (fun _ => by simp) (by rw [h4, hn]; rfl)
  rw [← h1.len, this]; rfl

theorem sgn_div (a b : Bool) (m n g : Nat) : sgn (a != b) (m / g) = sgn (a != b) (m / g) := rfl

set_option maxHeartbeats 2000000 in
theorem reduced_any (na nb : Bool) (ao bo : Option Addr) (la lb ca cb m n : Nat) (W : World) (ha : N32 W ao la m) (hb : N32 W bo lb n) (hla : la ≤ 1000000000) (hlb : lb ≤ 1000000000) (hn0 : n ≠ 0)
    (hG : GcdOk m n) (hD1 : DivOk m (Nat.gcd m n)) (hD2 : DivOk n (Nat.gcd m n)) :
    Calls Try.prog 32 #[.agg #[.bool na, .slice ao la ca], .agg #[.bool nb, .slice bo lb cb]] W (OutQ W (sgn (na != nb) (m / Nat.gcd m n)) (n / Nat.gcd m n)) := by
  have hf : Fr W (((W.alloc (.cells #[.bool na, .slice ao la ca] 27)).alloc (.cells #[.bool nb, .slice bo lb cb] 27)).alloc (.cells #[.bool false, .slice none 0 0, .slice none 0 0] 45))
      [(27, #[.bool na, .slice ao la ca]), (27, #[.bool nb, .slice bo lb cb]), (45, #[.bool false, .slice none 0 0, .slice none 0 0])] :=
    (((Fr.nil W).alloc rfl _ _).alloc (by simp) _ _).alloc (by simp) _ _
  have hgle : Nat.gcd m n ≤ n := Nat.gcd_le_right m (by omega)
  have hglt := Nat.lt_of_le_of_lt hgle hb.lt
  have HA := Lib.hid ha
  have HB := Lib.hid hb
  have HGO := Lib.hid hG
  have HD1 := Lib.hid hD1
  have HD2 := Lib.hid hD2
  have HGL := Lib.hid hglt
  have HN0 := Lib.hid hn0
  clear ha hb hG hD1 hD2 hgle hglt hn0
  go_enter Try.func32, Try.ntmps32
  go_wp2_with fail
  obtain ⟨W3, hW3⟩ : ∃ W3, W3 = ((W.alloc (.cells #[.bool na, .slice ao la ca] 27)).alloc (.cells #[.bool nb, .slice bo lb cb] 27)).alloc (.cells #[.bool false, .slice none 0 0, .slice none 0 0] 45) := ⟨_, rfl⟩
  rw [← hW3] at hf ⊢
  clear hW3
  have HF := Lib.hid hf
  clear hf
  refine (HGO.out _ _ _ _ _ _ _ (HA.out.keep HF.out.below) (HB.out.keep HF.out.below) hla hlb).mono ?_
  rintro e w1 ⟨go_, gl, gc, rfl, hg1, hb1⟩
  have hgl : gl ≤ 1000000000 := Nat.le_trans (hg1.len_le HGL.out) hlb
  have HF1 := Lib.hid (HF.out.later hb1)
  have HG1 := Lib.hid hg1
  clear hb1 hg1
  have c0 : w1.cell? ⟨W.heap.size, 1, none⟩ = some (.slice ao la ca) := HF1.out.cell 0 1 rfl rfl
  go_wp2_with fail
  refine (HD1.out _ _ _ _ _ _ _ (HA.out.keep HF1.out.below) HG1.out hla hgl).mono ?_
  rintro e w2 ⟨qo, ql, qc, ro, rl, rc, rfl, hq, hr, hb2⟩
  have HF2 := Lib.hid (HF1.out.later hb2)
  have HG2 := Lib.hid (HG1.out.keep hb2)
  have HQ2 := Lib.hid hq
  clear hb2 hq hr
  have c1 : w2.cell? ⟨W.heap.size + 1, 1, none⟩ = some (.slice bo lb cb) := HF2.out.cell 1 1 rfl rfl
  go_wp2_with fail
  refine (HD2.out _ _ _ _ _ _ _ (HB.out.keep HF2.out.below) HG2.out hlb hgl).mono ?_
  rintro e w3 ⟨so, sl, sc, tto, tl, tc, rfl, hs, ht, hb3⟩
  have hnq : n / Nat.gcd m n < B32 ^ lb := Nat.lt_of_le_of_lt (Nat.div_le_self _ _) HB.out.lt
  have hsl : sl ≤ 1000000000 := Nat.le_trans (hs.len_le hnq) hlb
  have hq0 : n / Nat.gcd m n ≠ 0 := by
    have h1 := Nat.gcd_le_right m (show 0 < n by have := HN0.out; omega)
    have h2 : 0 < Nat.gcd m n := Nat.gcd_pos_of_pos_right m (by have := HN0.out; omega)
    have := Nat.div_pos h1 h2
    omega
  have HF3 := Lib.hid (HF2.out.later hb3)
  have HQ3 := Lib.hid (HQ2.out.keep hb3)
  have HS3 := Lib.hid hs
  have HQ0 := Lib.hid hq0
  clear hb3 hs ht hq0 hnq
  go_wp2_with fail
  refine (isOne_any _ _ _ _ _ HS3.out hsl).mono ?_
  rintro e w4 ⟨rfl, rfl⟩
  have d0 : w3.cell? ⟨W.heap.size, 0, none⟩ = some (.bool na) := HF3.out.cell 0 0 rfl rfl
  have d1 : w3.cell? ⟨W.heap.size + 1, 0, none⟩ = some (.bool nb) := HF3.out.cell 1 0 rfl rfl
  by_cases h1 : n / Nat.gcd m n = 1
  · have hone : (n / Nat.gcd m n == 1) = true := by simp [h1]
    rw [hone]
    clear hone
    go_wp2_with fail
    refine (signed_any _ _ _ _ _ _ HQ3.out).mono ?_
    rintro e w5 ⟨neg, uo, ul, uc, rfl, hz, hb5⟩
    have HF5 := Lib.hid (HF3.out.later hb5)
    have HZ5 := Lib.hid hz
    clear hb5 hz
    have g0 : w5.cell? ⟨W.heap.size + 1 + 1, 0, none⟩ = some (.bool false) := HF5.out.cell 2 0 rfl rfl
    have g1 : w5.cell? ⟨W.heap.size + 1 + 1, 1, none⟩ = some (.slice none 0 0) := HF5.out.cell 2 1 rfl rfl
    have g2 : w5.cell? ⟨W.heap.size + 1 + 1, 2, none⟩ = some (.slice none 0 0) := HF5.out.cell 2 2 rfl rfl
    have g3 : w5.frozen? ⟨W.heap.size + 1 + 1, 0, none⟩ = false := HF5.out.frozen 2 0 rfl
    have g4 : w5.frozen? ⟨W.heap.size + 1 + 1, 1, none⟩ = false := HF5.out.frozen 2 1 rfl
    have g5 : w5.frozen? ⟨W.heap.size + 1 + 1, 2, none⟩ = false := HF5.out.frozen 2 2 rfl
    go_wp2
    have hQ : Q32 w5 neg uo ul none 0 (sgn (na != nb) (m / m.gcd n)) (n / m.gcd n) := ⟨HZ5.out, .inl ⟨rfl, h1⟩⟩
    obtain ⟨e0, e1, e2, hq, hbel⟩ := HF5.out.finQ (cap := uc) (bc := 0) 2 rfl hQ
    exact bodyPost_ret (v := .agg #[.bool neg, .slice uo ul uc, .slice none 0 0]) (by simp [results, Try.results32, go_sem, e0, e1, e2]) rfl ⟨neg, uo, ul, uc, none, 0, 0, rfl, hq, hbel⟩
  · have hone : (n / Nat.gcd m n == 1) = false := by simp [h1]
    rw [hone]
    clear hone
    go_wp2_with fail
    refine (signed_any _ _ _ _ _ _ HQ3.out).mono ?_
    rintro e w5 ⟨neg, uo, ul, uc, rfl, hz, hb5⟩
    have HF5 := Lib.hid (HF3.out.later hb5)
    have HZ5 := Lib.hid hz
    have HS5 := Lib.hid (HS3.out.keep hb5)
    clear hb5 hz
    have g0 : w5.cell? ⟨W.heap.size + 1 + 1, 0, none⟩ = some (.bool false) := HF5.out.cell 2 0 rfl rfl
    have g1 : w5.cell? ⟨W.heap.size + 1 + 1, 1, none⟩ = some (.slice none 0 0) := HF5.out.cell 2 1 rfl rfl
    have g2 : w5.cell? ⟨W.heap.size + 1 + 1, 2, none⟩ = some (.slice none 0 0) := HF5.out.cell 2 2 rfl rfl
    have g3 : w5.frozen? ⟨W.heap.size + 1 + 1, 0, none⟩ = false := HF5.out.frozen 2 0 rfl
    have g4 : w5.frozen? ⟨W.heap.size + 1 + 1, 1, none⟩ = false := HF5.out.frozen 2 1 rfl
    have g5 : w5.frozen? ⟨W.heap.size + 1 + 1, 2, none⟩ = false := HF5.out.frozen 2 2 rfl
    go_wp2
    have hQ : Q32 w5 neg uo ul so sl (sgn (na != nb) (m / m.gcd n)) (n / m.gcd n) := ⟨HZ5.out, .inr ⟨HS5.out, Nat.lt_of_le_of_ne (Nat.pos_of_ne_zero HQ0.out) (Ne.symm h1)⟩⟩
    obtain ⟨e0, e1, e2, hq, hbel⟩ := HF5.out.finQ (cap := uc) (bc := sc) 2 rfl hQ
    exact bodyPost_ret (v := .agg #[.bool neg, .slice uo ul uc, .slice so sl sc]) (by simp [results, Try.results32, go_sem, e0, e1, e2]) rfl ⟨neg, uo, ul, uc, so, sl, sc, rfl, hq, hbel⟩
end Go.Proofs.Ytcgnmihabkgecaa

/- NewRat, Den, withPoint, Decimal. -/
set_option linter.unusedVariables false
namespace Go.Proofs.Ytcgnmihabkgecaa
open Go.RowKit

theorem Z32.neg_eq {w : World} {neg : Bool} {ao : Option Addr} {len : Nat} {z : Int} (h : Z32 w neg ao len z) : neg = decide (z < 0) := by
  obtain ⟨n, h1, rfl, h3⟩ := h
  cases neg with
  | true => have := h3 rfl; simp only [sgn, if_true]; symm; simp; omega
  | false => simp [sgn]

theorem Z32.n32 {w : World} {neg : Bool} {ao : Option Addr} {len : Nat} {z : Int} (h : Z32 w neg ao len z) : N32 w ao len z.natAbs := by
  obtain ⟨n, h1, rfl, _⟩ := h
  rw [sgn_natAbs]; exact h1

theorem Z32.zero {w : World} {neg : Bool} {ao : Option Addr} {len : Nat} {z : Int} (h : Z32 w neg ao len z) : z = 0 ↔ len = 0 := by
  rw [← h.n32.zero]; omega

/-- x / y in lowest terms -/
def lowP (x y : Int) : Int := sgn (decide (x < 0) != decide (y < 0)) (x.natAbs / Nat.gcd x.natAbs y.natAbs)
def lowQ (x y : Int) : Nat := y.natAbs / Nat.gcd x.natAbs y.natAbs

def OutQE (W : World) (p : Int) (q : Nat) (e : Ending) (w' : World) : Prop :=
  ∃ neg ao len cap bo bl bc, e = .returned (.tuple #[.agg #[.bool neg, .slice ao len cap, .slice bo bl bc], .int .i64 0]) ∧ Q32 w' neg ao len bo bl p q ∧ Below W.heap.size W w'

set_option maxHeartbeats 1000000 in
theorem newRat_any (na nb : Bool) (ao bo : Option Addr) (la lb ca cb : Nat) (x y : Int) (W : World) (ha : Z32 W na ao la x) (hb : Z32 W nb bo lb y) (hla : la ≤ 1000000000) (hlb : lb ≤ 1000000000) (hy : y ≠ 0)
    (hG : GcdOk x.natAbs y.natAbs) (hD1 : DivOk x.natAbs (Nat.gcd x.natAbs y.natAbs)) (hD2 : DivOk y.natAbs (Nat.gcd x.natAbs y.natAbs)) :
    Calls Try.prog 13 #[.agg #[.bool na, .slice ao la ca], .agg #[.bool nb, .slice bo lb cb]] W (OutQE W (lowP x y) (lowQ x y)) := by
  have hf : Fr W (((W.alloc (.cells #[.bool na, .slice ao la ca] 27)).alloc (.cells #[.bool nb, .slice bo lb cb] 27)).alloc (.cells #[.bool false, .slice none 0 0, .slice none 0 0] 45))
      [(27, #[.bool na, .slice ao la ca]), (27, #[.bool nb, .slice bo lb cb]), (45, #[.bool false, .slice none 0 0, .slice none 0 0])] :=
    (((Fr.nil W).alloc rfl _ _).alloc (by simp) _ _).alloc (by simp) _ _
  have hp : lowP x y = sgn (na != nb) (x.natAbs / Nat.gcd x.natAbs y.natAbs) := by unfold lowP; rw [ha.neg_eq, hb.neg_eq]
  have hsg : y.sign ≠ 0 := fun h => hy (Int.sign_eq_zero_iff_zero.1 h)
  have hs2 : (y.sign == 0) = false := by simpa using hsg
  have HA := Lib.hid ha
  have HB := Lib.hid hb
  have HP := Lib.hid hp
  have HR := Lib.hid (fun w h1 h2 => reduced_any na nb ao bo la lb ca cb x.natAbs y.natAbs w h1 h2 hla hlb (by omega) hG hD1 hD2)
  clear ha hb hp hy hG hD1 hD2
  go_enter Try.func13, Try.ntmps13
  go_wp2_with fail
  obtain ⟨W3, hW3⟩ : ∃ W3, W3 = ((W.alloc (.cells #[.bool na, .slice ao la ca] 27)).alloc (.cells #[.bool nb, .slice bo lb cb] 27)).alloc (.cells #[.bool false, .slice none 0 0, .slice none 0 0] 45) := ⟨_, rfl⟩
  rw [← hW3] at hf ⊢
  clear hW3
  have HF := Lib.hid hf
  clear hf
  refine (sign_any _ _ _ _ y _ (HB.out.keep HF.out.below)).mono ?_
  rintro e w1 ⟨rfl, hb1⟩
  have HF1 := Lib.hid (HF.out.later hb1)
  clear hb1
  have c0 : w1.cell? ⟨W.heap.size, 0, none⟩ = some (.bool na) := HF1.out.cell 0 0 rfl rfl
  have c1 : w1.cell? ⟨W.heap.size, 1, none⟩ = some (.slice ao la ca) := HF1.out.cell 0 1 rfl rfl
  have c2 : w1.cell? ⟨W.heap.size + 1, 0, none⟩ = some (.bool nb) := HF1.out.cell 1 0 rfl rfl
  have c3 : w1.cell? ⟨W.heap.size + 1, 1, none⟩ = some (.slice bo lb cb) := HF1.out.cell 1 1 rfl rfl
  clear hsg
  go_wp2_with fail
  refine (HR.out w1 (HA.out.keep HF1.out.below).n32 (HB.out.keep HF1.out.below).n32).mono ?_
  rintro e w2 ⟨neg, uo, ul, uc, so, sl, sc, rfl, hq, hb2⟩
  have HF2 := Lib.hid (HF1.out.later hb2)
  have HQ := Lib.hid hq
  clear hb2 hq
  have g0 : w2.cell? ⟨W.heap.size + 1 + 1, 0, none⟩ = some (.bool false) := HF2.out.cell 2 0 rfl rfl
  have g1 : w2.cell? ⟨W.heap.size + 1 + 1, 1, none⟩ = some (.slice none 0 0) := HF2.out.cell 2 1 rfl rfl
  have g2 : w2.cell? ⟨W.heap.size + 1 + 1, 2, none⟩ = some (.slice none 0 0) := HF2.out.cell 2 2 rfl rfl
  have g3 : w2.frozen? ⟨W.heap.size + 1 + 1, 0, none⟩ = false := HF2.out.frozen 2 0 rfl
  have g4 : w2.frozen? ⟨W.heap.size + 1 + 1, 1, none⟩ = false := HF2.out.frozen 2 1 rfl
  have g5 : w2.frozen? ⟨W.heap.size + 1 + 1, 2, none⟩ = false := HF2.out.frozen 2 2 rfl
  go_wp2
  obtain ⟨e0, e1, e2, hq, hbel⟩ := HF2.out.finQ (cap := uc) (bc := sc) 2 rfl HQ.out
  exact bodyPost_ret (v := .tuple #[.agg #[.bool neg, .slice uo ul uc, .slice so sl sc], .int .i64 0]) (by simp [results, Try.results13, go_sem, e0, e1, e2]) rfl ⟨neg, uo, ul, uc, so, sl, sc, rfl, by rw [HP.out]; exact hq, hbel⟩

set_option maxHeartbeats 1000000 in
theorem den_any (na : Bool) (ao bo : Option Addr) (la lb ca cb : Nat) (p : Int) (q : Nat) (W : World) (h : Q32 W na ao la bo lb p q) (hlb : lb ≤ 1000000000) :
    Calls Try.prog 33 #[.agg #[.bool na, .slice ao la ca, .slice bo lb cb]] W (OutI W q) := by
  have hf : Fr W ((W.alloc (.cells #[.bool na, .slice ao la ca, .slice bo lb cb] 45)).alloc (.cells #[.bool false, .slice none 0 0] 27))
      [(45, #[.bool na, .slice ao la ca, .slice bo lb cb]), (27, #[.bool false, .slice none 0 0])] :=
    ((Fr.nil W).alloc rfl _ _).alloc (by simp) _ _
  have hbl := h.bl0
  by_cases h0 : lb = 0
  · have hq : q = 1 := hbl.1 h0
    subst h0 hq
    clear h hbl
    go_enter Try.func33, Try.ntmps33
    go_wp2_with fail
    obtain ⟨W3, hW3⟩ : ∃ W3, W3 = (W.alloc (.cells #[.bool na, .slice ao la ca, .slice bo 0 cb] 45)).alloc (.cells #[.bool false, .slice none 0 0] 27) := ⟨_, rfl⟩
    rw [← hW3] at hf ⊢
    clear hW3
    have HF := Lib.hid hf
    clear hf
    refine (new_any 1 _ (by omega) (by omega)).mono ?_
    rintro e w1 ⟨neg, uo, ul, uc, rfl, hz, hb1⟩
    have HF1 := Lib.hid (HF.out.later hb1)
    have HZ := Lib.hid hz
    clear hb1 hz
    have g0 : w1.cell? ⟨W.heap.size + 1, 0, none⟩ = some (.bool false) := HF1.out.cell 1 0 rfl rfl
    have g1 : w1.cell? ⟨W.heap.size + 1, 1, none⟩ = some (.slice none 0 0) := HF1.out.cell 1 1 rfl rfl
    have g3 : w1.frozen? ⟨W.heap.size + 1, 0, none⟩ = false := HF1.out.frozen 1 0 rfl
    have g4 : w1.frozen? ⟨W.heap.size + 1, 1, none⟩ = false := HF1.out.frozen 1 1 rfl
    go_wp2
    obtain ⟨e0, e1, hz, hbel, _⟩ := HF1.out.finI (cap := uc) 1 rfl HZ.out
    exact bodyPost_ret (v := .agg #[.bool neg, .slice uo ul uc]) (by simp [results, Try.results33, go_sem, e0, e1]) rfl ⟨neg, uo, ul, uc, rfl, hz, hbel⟩
  · have hN : N32 W bo lb q := by
      rcases h.2 with ⟨h2, _⟩ | ⟨h2, _⟩
      · exact absurd h2 h0
      · exact h2
    have HN := Lib.hid hN
    have hb0 : ((lb : Int) == 0) = false := by simp; omega
    clear h hbl hN
    go_enter Try.func33, Try.ntmps33
    go_wp2_with fail
    obtain ⟨W3, hW3⟩ : ∃ W3, W3 = (W.alloc (.cells #[.bool na, .slice ao la ca, .slice bo lb cb] 45)).alloc (.cells #[.bool false, .slice none 0 0] 27) := ⟨_, rfl⟩
    rw [← hW3] at hf ⊢
    clear hW3
    have HF := Lib.hid hf
    clear hf
    refine (duplicate_n _ _ _ q _ (HN.out.keep HF.out.below) hlb).mono ?_
    rintro e w1 ⟨do_, dc, rfl, hd, hb1⟩
    have HF1 := Lib.hid (HF.out.later hb1)
    have HD := Lib.hid hd
    clear hb1 hd
    go_wp2_with fail
    refine (signed_any _ _ _ _ _ _ HD.out).mono ?_
    rintro e w2 ⟨neg, uo, ul, uc, rfl, hz, hb2⟩
    have HF2 := Lib.hid (HF1.out.later hb2)
    have HZ := Lib.hid hz
    clear hb2 hz
    have g0 : w2.cell? ⟨W.heap.size + 1, 0, none⟩ = some (.bool false) := HF2.out.cell 1 0 rfl rfl
    have g1 : w2.cell? ⟨W.heap.size + 1, 1, none⟩ = some (.slice none 0 0) := HF2.out.cell 1 1 rfl rfl
    have g3 : w2.frozen? ⟨W.heap.size + 1, 0, none⟩ = false := HF2.out.frozen 1 0 rfl
    have g4 : w2.frozen? ⟨W.heap.size + 1, 1, none⟩ = false := HF2.out.frozen 1 1 rfl
    go_wp2
    obtain ⟨e0, e1, hz, hbel, _⟩ := HF2.out.finI (cap := uc) 1 rfl HZ.out
    exact bodyPost_ret (v := .agg #[.bool neg, .slice uo ul uc]) (by simp [results, Try.results33, go_sem, e0, e1]) rfl ⟨neg, uo, ul, uc, rfl, hz, hbel⟩

theorem bytes_extract (l : List UInt8) (a b : Nat) : (⟨l.toArray⟩ : ByteArray).extract a b = ⟨((l.drop a).take (b - a)).toArray⟩ := by
  apply ByteArray.ext
  rw [ByteArray.data_extract]
  simp

/-- a point before the last k bytes -/
def pointed (l : List UInt8) (k : Nat) : List UInt8 := if k = 0 then l else l.take (l.length - k) ++ [46] ++ l.drop (l.length - k)

set_option maxHeartbeats 1000000 in
theorem withPoint_any (l : List UInt8) (K : Int) (k : Nat) (W : World) (hK : K = (k : Int)) (hk : k = 0 ∨ k < l.length) (hl : l.length ≤ 1000000000000) :
    Calls Try.prog 39 #[.string ⟨l.toArray⟩, .int .i64 K] W (fun e w' => e = .returned (.string ⟨(pointed l k).toArray⟩) ∧ Drew W w') := by
  subst hK
  by_cases h0 : k = 0
  · subst h0
    have HE : Hid (pointed l 0 = l) := by unfold pointed; rw [if_pos rfl]; rfl
    rw [HE.out]
    go_enter Try.func39, Try.ntmps39
    go_wp2
    go_ret
    exact ⟨rfl, Drew.refl _⟩
  · have HE : Hid (pointed l k = l.take (l.length - k) ++ [46] ++ l.drop (l.length - k)) := by unfold pointed; rw [if_neg h0]; rfl
    rw [HE.out]
    have hkl : k < l.length := by omega
    have b0 : ((k : Int) == 0) = false := by simp; omega
    have b1 : ¬ ((l.length : Int) ≤ (k : Int)) := by omega
    go_enter Try.func39, Try.ntmps39
    go_wp2
    obtain ⟨j, hj⟩ : ∃ j, j = l.length - k := ⟨_, rfl⟩
    have ej : ((l.length : Int) - (k : Int)) = (j : Int) := by omega
    rw [ej]
    have c1 : (0 : Int) ≤ (j : Int) := by omega
    have c2 : (j : Int) ≤ (l.length : Int) := by omega
    have c3 : j ≤ l.length := by omega
    have HJ := Lib.hid hj
    clear ej hj b1
    go_region
    go_wp2
    go_ret
    refine ⟨congrArg (fun x => Ending.returned (Value.string x)) ?_, ⟨1, rfl⟩⟩
    rw [bytes_extract, bytes_extract]
    have h1 := bytes_append (List.take (j - 0) (List.drop 0 l)) [46]
    have h2 := bytes_append (List.take (j - 0) (List.drop 0 l) ++ [46]) (List.take (l.length - j) (List.drop j l))
    rw [← h1] at h2
    refine h2.trans ?_
    rw [← HJ.out, List.drop_zero, Nat.sub_zero, List.take_of_length_le (l := List.drop j l) (by simp)]
end Go.Proofs.Ytcgnmihabkgecaa

/- Decimal. -/
set_option linter.unusedVariables false
namespace Go.Proofs.Ytcgnmihabkgecaa
open Go.RowKit

/-- the nearest whole number to a / q, of two the even one -/
def nearest (a q : Nat) : Nat := if q < 2 * (a % q) ∨ (2 * (a % q) = q ∧ (a / q) % 2 = 1) then a / q + 1 else a / q

/-- the decimal, where the numeral is long enough for the point -/
def decText (p : Int) (q k : Nat) : List UInt8 :=
  if p < 0 ∧ nearest (p.natAbs * 10 ^ k) q ≠ 0 then 45 :: pointed (numeral (nearest (p.natAbs * 10 ^ k) q)) k else pointed (numeral (nearest (p.natAbs * 10 ^ k) q)) k

theorem decText_pos {m q k r : Nat} (_ : True) (_ : True) (h : nearest (m * 10 ^ k) q = r) : decText (sgn false m) q k = pointed (numeral r) k := by
  unfold decText
  rw [sgn_natAbs, h, if_neg]
  rintro ⟨h1, _⟩
  have : sgn false m = (m : Int) := rfl
  omega

theorem decText_zero {m q k r : Nat} {s : Bool} (_ : True) (_ : True) (h : nearest (m * 10 ^ k) q = r) (hr : r = 0) : decText (sgn s m) q k = pointed (numeral r) k := by
  unfold decText
  rw [sgn_natAbs, h, if_neg]
  rintro ⟨_, h1⟩
  exact h1 hr

theorem decText_neg {m q k r : Nat} (_ : True) (hm : m ≠ 0) (h : nearest (m * 10 ^ k) q = r) (hr : r ≠ 0) : decText (sgn true m) q k = 45 :: pointed (numeral r) k := by
  unfold decText
  rw [sgn_natAbs, h, if_pos]
  refine ⟨?_, hr⟩
  show -(m : Int) < 0
  omega

theorem one_slice (w : World) : N32 (w.alloc (.cells #[.int .u32 1] 61)) (some ⟨w.heap.size, 0, none⟩) 1 1 :=
  ⟨[1], (Blk.new' w .u32 61 [1] #[.int .u32 1] rfl).whole rfl, Dig.cons (by decide) (Dig.nil _), fun _ => by simp, rfl⟩

theorem field_digits (b : Bool) (ao : Option Addr) (l c : Nat) (w : World) : (Instr.field 27 (.agg #[.bool b, .slice ao l c]) 1).run Try.prog w = .ok (.slice ao l c) w := by kernel_rfl

def DecPost (t : List UInt8) (W : World) (e : Ending) (w' : World) : Prop := e = .returned (.tuple #[.string ⟨t.toArray⟩, .int .i64 0]) ∧ Below W.heap.size W w'

set_option maxRecDepth 100000 in
set_option maxHeartbeats 1600000 in
theorem decimal_any (na : Bool) (ao bo : Option Addr) (la lb ca cb : Nat) (p : Int) (q : Nat) (K : Int) (k : Nat) (W : World) (h : Q32 W na ao la bo lb p q) (hla : la ≤ 100000) (hlb : lb ≤ 100000) (hq0 : q ≠ 0) (hK : K = (k : Int)) (hk : k ≤ 64)
    (hD : DivOk (p.natAbs * 10 ^ k) q) (hW : k = 0 ∨ k < (numeral (nearest (p.natAbs * 10 ^ k) q)).length) :
    Calls Try.prog 17 #[.agg #[.bool na, .slice ao la ca, .slice bo lb cb], .int .i64 K] W (DecPost (decText p q k) W) := by
  subst hK
  have hf : Fr W (W.alloc (.cells #[.bool na, .slice ao la ca, .slice bo lb cb] 45)) [(45, #[.bool na, .slice ao la ca, .slice bo lb cb])] := (Fr.nil W).alloc rfl _ _
  have hqlt : q < B32 ^ (lb + 1) := by
    rcases h.2 with ⟨h1, h2⟩ | ⟨h1, h2⟩
    · rw [h1, h2]; decide
    · exact Nat.lt_of_lt_of_le h1.lt (Nat.pow_le_pow_right B32_pos (by omega))
  have hbl : lb = 0 ∨ 0 < lb := by omega
  have HQ := Lib.hid h
  obtain ⟨⟨m, hm, rfl, hmn⟩, hden⟩ := h
  rw [sgn_natAbs] at hD hW
  have halt : m * 10 ^ k < B32 ^ (la + 64) := by
    rw [Nat.pow_add]
    have h1 := hm.lt
    have h2 : 10 ^ k < B32 ^ 64 := by
      have : 10 ^ k ≤ 10 ^ 64 := Nat.pow_le_pow_right (by decide) hk
      have h3 : 10 ^ 64 < B32 ^ 64 := by decide
      omega
    exact Nat.mul_lt_mul'' h1 h2
  obtain ⟨a, haq⟩ : ∃ a, a = m * 10 ^ k := ⟨_, rfl⟩
  have HM := Lib.hid hm
  have HMN := Lib.hid hmn
  rw [← haq] at hD hW halt
  have HAQ := Lib.hid haq
  have HALT := Lib.hid halt
  have HQLT := Lib.hid hqlt
  have HD := Lib.hid hD
  have HK := Lib.hid hW
  have HQ0 := Lib.hid hq0
  have i1 : ¬ ((k : Int) < 0) := by omega
  have i2 : ¬ (64 < (k : Int)) := by omega
  have hnl : nearest a q < B32 ^ (la + 65) := by
    have h1 : nearest a q ≤ a / q + 1 := by unfold nearest; split <;> omega
    have h2 := Nat.div_le_self a q
    have h3 : B32 ^ (la + 64) * 2 ≤ B32 ^ (la + 65) := by rw [Nat.pow_succ B32 (la + 64)]; exact Nat.mul_le_mul_left _ (by decide)
    omega
  have hln := numeral_len hnl
  have hln2 : (numeral (nearest a q)).length ≤ 1000000000000 := by omega
  have HLN := Lib.hid hln2
  have hpl : ¬ 9223372036854775807 < 1 + (pointed (numeral (nearest a q)) k).length := by
    have : (pointed (numeral (nearest a q)) k).length ≤ (numeral (nearest a q)).length + 1 := by
      unfold pointed
      split
      · omega
      · simp; omega
    omega
  have HPL := Lib.hid hpl
  have HUPL : Hid (a / q + 1 < B32 ^ (la + 65)) := by
    have h2 := Nat.div_le_self a q
    have h3 : B32 ^ (la + 64) * 2 ≤ B32 ^ (la + 65) := by rw [Nat.pow_succ B32 (la + 64)]; exact Nat.mul_le_mul_left _ (by decide)
    show _ < _
    omega
  clear hm hmn hD hW halt hqlt hden haq hq0 hnl hln hln2 hpl hbl
  have hfld := field_digits
  go_enter Try.func17, Try.ntmps17
  go_wp2_with fail
  obtain ⟨W1, hW1⟩ : ∃ W1, W1 = W.alloc (.cells #[.bool na, .slice ao la ca, .slice bo lb cb] 45) := ⟨_, rfl⟩
  rw [← hW1] at hf ⊢
  clear hW1
  have HF := Lib.hid hf
  clear hf
  have c0 : W1.cell? ⟨W.heap.size, 0, none⟩ = some (.bool na) := HF.out.cell 0 0 rfl rfl
  have c1 : W1.cell? ⟨W.heap.size, 1, none⟩ = some (.slice ao la ca) := HF.out.cell 0 1 rfl rfl
  have c2 : W1.cell? ⟨W.heap.size, 2, none⟩ = some (.slice bo lb cb) := HF.out.cell 0 2 rfl rfl
  refine (den_any na ao bo la lb ca cb _ q _ (HQ.out.keep HF.out.below) (by omega)).mono ?_
  rintro e w2 ⟨dneg, dp, dl, dc, rfl, hz2, hb2⟩
  have hd2 := hz2.n32
  rw [Int.natAbs_natCast] at hd2
  have hdl : dl ≤ 100001 := Nat.le_trans (hd2.len_le HQLT.out) (by omega)
  have HF2 := Lib.hid (HF.out.later hb2)
  have HD2 := Lib.hid hd2
  clear hb2 hz2 hd2
  go_wp2_with fail
  have d0 : w2.cell? ⟨W.heap.size, 0, none⟩ = some (.bool na) := HF2.out.cell 0 0 rfl rfl
  have d1 : w2.cell? ⟨W.heap.size, 1, none⟩ = some (.slice ao la ca) := HF2.out.cell 0 1 rfl rfl
  go_region_held3 (fun w' => w'.cell? ⟨W.heap.size, 0, none⟩ = some (.bool na) ∧ w'.cell? ⟨W.heap.size, 1, none⟩ = some (.slice ao la ca)) (go_keep)
    (first | (go_at_call 36; refine (powerOfTen_any _ k w2.drew rfl (by omega)).mono ?_; rintro e w3 ⟨to_, tl, tc, rfl, ht3, htl, hb3⟩; have HB3 := Lib.hid (below_of_drew hb3); have HT3 := Lib.hid ht3; have HF3 := Lib.hid (HF2.out.later HB3.out); clear hb3 ht3; have f0 : w3.cell? ⟨W.heap.size, 0, none⟩ = some (.bool na) := HF3.out.cell 0 0 rfl rfl; have f1 : w3.cell? ⟨W.heap.size, 1, none⟩ = some (.slice ao la ca) := HF3.out.cell 0 1 rfl rfl) | (go_at_call 35; refine (product_any _ _ _ _ _ _ m (10 ^ k) _ (HM.out.keep HF3.out.below) HT3.out (by omega) (by omega)).mono ?_; rintro e w4 ⟨po, pl, pc, rfl, hp4, hb4⟩; have HB4 := Lib.hid (below_then HB3.out hb4); have hp5 : N32 w4 po pl a := (by rw [HAQ.out]; exact hp4); have HP4 := Lib.hid hp5; have HF4 := Lib.hid (HF2.out.later HB4.out); have hpl4 := Nat.le_trans (hp5.len_le HALT.out) (show la + 64 ≤ 100064 by omega); clear hb4 hp4 hp5; have j0 : w4.cell? ⟨W.heap.size, 0, none⟩ = some (.bool na) := HF4.out.cell 0 0 rfl rfl; have j1 : w4.cell? ⟨W.heap.size, 1, none⟩ = some (.slice ao la ca) := HF4.out.cell 0 1 rfl rfl) | (go_at_call 25; refine (HD.out _ _ _ _ _ _ _ HP4.out (HD2.out.keep HB4.out) (by omega) (by omega)).mono ?_; rintro e w5 ⟨qo, ql, qc, ro, rl, rc, rfl, hq5, hr5, hb5⟩; have HB5 := Lib.hid (below_then HB4.out hb5); have HQ5 := Lib.hid hq5; have HR5 := Lib.hid hr5; have HF5 := Lib.hid (HF2.out.later HB5.out); clear hb5 hq5 hr5; have m0 : w5.cell? ⟨W.heap.size, 0, none⟩ = some (.bool na) := HF5.out.cell 0 0 rfl rfl; have m1 : w5.cell? ⟨W.heap.size, 1, none⟩ = some (.slice ao la ca) := HF5.out.cell 0 1 rfl rfl))
  have hql : ql ≤ 1000000000 := Nat.le_trans (HQ5.out.len_le (Nat.lt_of_le_of_lt (Nat.div_le_self _ _) HALT.out)) (by omega)
  have hrl : rl ≤ 1000000 := Nat.le_trans (HR5.out.len_le (Nat.lt_trans (Nat.mod_lt _ (Nat.pos_of_ne_zero HQ0.out)) HQLT.out)) (by omega)
  have HRLT := Lib.hid (Nat.lt_trans (Nat.mod_lt a (Nat.pos_of_ne_zero HQ0.out)) HQLT.out)
  clear c0 c1 c2 d0 d1 f0 f1 j0 j1
  go_wp2_with fail
  refine (sum_any _ _ _ _ _ _ (a % q) (a % q) _ HR5.out HR5.out (by omega) (by omega)).mono ?_
  rintro e w55 ⟨so5, sl5, sc5, rfl, hs5, hb55⟩
  have hsl5 : sl5 ≤ 1000000000 := by
    refine Nat.le_trans (hs5.len_le (k := lb + 2) ?_) (by omega)
    rw [Nat.pow_succ]
    have := HRLT.out
    have h3 : B32 ^ (lb + 1) * 2 ≤ B32 ^ (lb + 1) * B32 := Nat.mul_le_mul_left _ (by decide)
    omega
  have HS5 := Lib.hid hs5
  have HF55 := Lib.hid (HF5.out.later hb55)
  have HD55 := Lib.hid (HD2.out.keep (below_then HB5.out hb55))
  have HQ55 := Lib.hid (HQ5.out.keep hb55)
  clear hs5 hb55 m0 m1
  go_wp2_with fail
  refine (compare_any _ _ _ _ _ _ (a % q + a % q) q _ HS5.out HD55.out hsl5 (by omega)).mono ?_
  rintro e w6 ⟨rfl, hd6⟩
  have HF6 := Lib.hid (HF55.out.later hd6.below)
  have HQ6 := Lib.hid (HQ55.out.keep hd6.below)
  clear hd6
  rcases Nat.lt_trichotomy (a % q + a % q) q with hlt | heq | hgt
  · have hnear : nearest a q = a / q := by unfold nearest; rw [if_neg (by omega)]
    rw [cmpN_lt hlt]
    rw [hnear] at HK HLN HPL
    have HNEAR : Hid (nearest (m * 10 ^ k) q = a / q) := by rw [← HAQ.out]; exact hnear
    clear hnear hlt
    have HNR := Lib.hid HQ6.out
    have hnrl := hql

    go_wp2_with fail
    refine (writeDigits_any _ _ _ (a / q) _ HNR.out hnrl).mono ?_
    rintro e w9 ⟨rfl, hb9⟩
    have HF9 := Lib.hid (HF6.out.later hb9)
    clear hb9
    go_wp2_with fail
    refine (withPoint_any _ _ k _ rfl HK.out HLN.out).mono ?_
    rintro e w10 ⟨rfl, hd10⟩
    have HF10 := Lib.hid (HF9.out.later hd10.below)
    clear hd10
    have z0 : w10.cell? ⟨W.heap.size, 0, none⟩ = some (.bool na) := HF10.out.cell 0 0 rfl rfl
    have hnz := HNR.out.zero
    have HNZ := Lib.hid hnz
    clear hnz hnrl hql hrl hsl5 hpl4 htl hdl hla hlb hk i1 i2 HALT HQLT HUPL HRLT HLN HK
    cases na with
    | false =>
      go_wp2
      go_ret2
      exact ⟨by rw [decText_pos trivial trivial HNEAR.out]; rfl, HF10.out.below⟩
    | true =>
      by_cases hnl0 : ql = 0
      · have hz := Lib.hid (HNZ.out.2 hnl0)
        have q1 : ¬ (0 : Int) < (ql : Int) := by omega
        have q3 : decide (0 < ql) = false := by simp; omega
        clear hnl0
        go_wp2
        go_ret2
        exact ⟨by rw [decText_zero trivial trivial HNEAR.out hz.out]; rfl, HF10.out.below⟩
      · have hz : Hid ((a / q) ≠ 0) := fun h => hnl0 (HNZ.out.1 h)
        have q1 : (0 : Int) < (ql : Int) := by omega
        have q3 : decide (0 < ql) = true := by simp; omega
        clear hnl0
        have q2 := HPL.out
        go_wp2
        go_ret2
        refine ⟨?_, HF10.out.below⟩
        rw [decText_neg trivial (HMN.out trivial) HNEAR.out hz.out]
        have := bytes_append [45] (pointed (numeral (a / q)) k)
        exact congrArg (fun x => Ending.returned (.tuple #[Value.string x, .int .i64 0])) this
  · by_cases hodd : (a / q) % 2 = 1
    · have hnear : nearest a q = a / q + 1 := by unfold nearest; rw [if_pos (by omega)]
      rw [cmpN_eq heq]
      rw [hnear] at HK HLN HPL
      have HNEAR : Hid (nearest (m * 10 ^ k) q = a / q + 1) := by rw [← HAQ.out]; exact hnear
      have hob : ((a / q) % 2 == 1) = true := by simp [hodd]
      clear hnear heq
      go_wp2_with fail
      refine (isOdd_any _ _ _ (a / q) _ HQ6.out).mono ?_
      rw [hob]
      clear hob hodd
      rintro e w7 ⟨rfl, rfl⟩
      have HONE := Lib.hid (one_slice w6)
      have HF6a := Lib.hid (HF6.out.later (box_below w6 61 #[.int .u32 1]))
      go_wp2_with fail
      refine (sum_any _ _ _ _ _ _ (a / q) 1 _ (HQ6.out.keep (box_below _ _ _)) HONE.out hql (by omega)).mono ?_
      rintro e w8 ⟨so, sl, sc, rfl, hs8, hb8⟩
      have HF8 := Lib.hid (HF6a.out.later hb8)
      have HNR := Lib.hid hs8
      have hnrl : sl ≤ 1000000000 := Nat.le_trans (hs8.len_le HUPL.out) (by omega)
      clear hs8 hb8

      go_wp2_with fail
      refine (writeDigits_any _ _ _ (a / q + 1) _ HNR.out hnrl).mono ?_
      rintro e w9 ⟨rfl, hb9⟩
      have HF9 := Lib.hid (HF8.out.later hb9)
      clear hb9
      go_wp2_with fail
      refine (withPoint_any _ _ k _ rfl HK.out HLN.out).mono ?_
      rintro e w10 ⟨rfl, hd10⟩
      have HF10 := Lib.hid (HF9.out.later hd10.below)
      clear hd10
      have z0 : w10.cell? ⟨W.heap.size, 0, none⟩ = some (.bool na) := HF10.out.cell 0 0 rfl rfl
      have hnz := HNR.out.zero
      have HNZ := Lib.hid hnz
      clear hnz hnrl hql hrl hsl5 hpl4 htl hdl hla hlb hk i1 i2 HALT HQLT HUPL HRLT HLN HK
      cases na with
      | false =>
        go_wp2
        go_ret2
        exact ⟨by rw [decText_pos trivial trivial HNEAR.out]; rfl, HF10.out.below⟩
      | true =>
        by_cases hnl0 : sl = 0
        · have hz := Lib.hid (HNZ.out.2 hnl0)
          have q1 : ¬ (0 : Int) < (sl : Int) := by omega
          have q3 : decide (0 < sl) = false := by simp; omega
          clear hnl0
          go_wp2
          go_ret2
          exact ⟨by rw [decText_zero trivial trivial HNEAR.out hz.out]; rfl, HF10.out.below⟩
        · have hz : Hid ((a / q + 1) ≠ 0) := fun h => hnl0 (HNZ.out.1 h)
          have q1 : (0 : Int) < (sl : Int) := by omega
          have q3 : decide (0 < sl) = true := by simp; omega
          clear hnl0
          have q2 := HPL.out
          go_wp2
          go_ret2
          refine ⟨?_, HF10.out.below⟩
          rw [decText_neg trivial (HMN.out trivial) HNEAR.out hz.out]
          have := bytes_append [45] (pointed (numeral (a / q + 1)) k)
          exact congrArg (fun x => Ending.returned (.tuple #[Value.string x, .int .i64 0])) this
    · have hnear : nearest a q = a / q := by unfold nearest; rw [if_neg (by omega)]
      rw [cmpN_eq heq]
      rw [hnear] at HK HLN HPL
      have HNEAR : Hid (nearest (m * 10 ^ k) q = a / q) := by rw [← HAQ.out]; exact hnear
      have hob : ((a / q) % 2 == 1) = false := by simp [hodd]
      clear hnear heq
      go_wp2_with fail
      refine (isOdd_any _ _ _ (a / q) _ HQ6.out).mono ?_
      rw [hob]
      clear hob hodd
      rintro e w7 ⟨rfl, rfl⟩
      have HNR := Lib.hid HQ6.out
      have hnrl := hql

      go_wp2_with fail
      refine (writeDigits_any _ _ _ (a / q) _ HNR.out hnrl).mono ?_
      rintro e w9 ⟨rfl, hb9⟩
      have HF9 := Lib.hid (HF6.out.later hb9)
      clear hb9
      go_wp2_with fail
      refine (withPoint_any _ _ k _ rfl HK.out HLN.out).mono ?_
      rintro e w10 ⟨rfl, hd10⟩
      have HF10 := Lib.hid (HF9.out.later hd10.below)
      clear hd10
      have z0 : w10.cell? ⟨W.heap.size, 0, none⟩ = some (.bool na) := HF10.out.cell 0 0 rfl rfl
      have hnz := HNR.out.zero
      have HNZ := Lib.hid hnz
      clear hnz hnrl hql hrl hsl5 hpl4 htl hdl hla hlb hk i1 i2 HALT HQLT HUPL HRLT HLN HK
      cases na with
      | false =>
        go_wp2
        go_ret2
        exact ⟨by rw [decText_pos trivial trivial HNEAR.out]; rfl, HF10.out.below⟩
      | true =>
        by_cases hnl0 : ql = 0
        · have hz := Lib.hid (HNZ.out.2 hnl0)
          have q1 : ¬ (0 : Int) < (ql : Int) := by omega
          have q3 : decide (0 < ql) = false := by simp; omega
          clear hnl0
          go_wp2
          go_ret2
          exact ⟨by rw [decText_zero trivial trivial HNEAR.out hz.out]; rfl, HF10.out.below⟩
        · have hz : Hid ((a / q) ≠ 0) := fun h => hnl0 (HNZ.out.1 h)
          have q1 : (0 : Int) < (ql : Int) := by omega
          have q3 : decide (0 < ql) = true := by simp; omega
          clear hnl0
          have q2 := HPL.out
          go_wp2
          go_ret2
          refine ⟨?_, HF10.out.below⟩
          rw [decText_neg trivial (HMN.out trivial) HNEAR.out hz.out]
          have := bytes_append [45] (pointed (numeral (a / q)) k)
          exact congrArg (fun x => Ending.returned (.tuple #[Value.string x, .int .i64 0])) this
  · have hnear : nearest a q = a / q + 1 := by unfold nearest; rw [if_pos (by omega)]
    rw [cmpN_gt hgt]
    rw [hnear] at HK HLN HPL
    have HNEAR : Hid (nearest (m * 10 ^ k) q = a / q + 1) := by rw [← HAQ.out]; exact hnear
    clear hnear hgt
    have HONE := Lib.hid (one_slice w6)
    have HF6a := Lib.hid (HF6.out.later (box_below w6 61 #[.int .u32 1]))
    go_wp2_with fail
    refine (sum_any _ _ _ _ _ _ (a / q) 1 _ (HQ6.out.keep (box_below _ _ _)) HONE.out hql (by omega)).mono ?_
    rintro e w8 ⟨so, sl, sc, rfl, hs8, hb8⟩
    have HF8 := Lib.hid (HF6a.out.later hb8)
    have HNR := Lib.hid hs8
    have hnrl : sl ≤ 1000000000 := Nat.le_trans (hs8.len_le HUPL.out) (by omega)
    clear hs8 hb8

    go_wp2_with fail
    refine (writeDigits_any _ _ _ (a / q + 1) _ HNR.out hnrl).mono ?_
    rintro e w9 ⟨rfl, hb9⟩
    have HF9 := Lib.hid (HF8.out.later hb9)
    clear hb9
    go_wp2_with fail
    refine (withPoint_any _ _ k _ rfl HK.out HLN.out).mono ?_
    rintro e w10 ⟨rfl, hd10⟩
    have HF10 := Lib.hid (HF9.out.later hd10.below)
    clear hd10
    have z0 : w10.cell? ⟨W.heap.size, 0, none⟩ = some (.bool na) := HF10.out.cell 0 0 rfl rfl
    have hnz := HNR.out.zero
    have HNZ := Lib.hid hnz
    clear hnz hnrl hql hrl hsl5 hpl4 htl hdl hla hlb hk i1 i2 HALT HQLT HUPL HRLT HLN HK
    cases na with
    | false =>
      go_wp2
      go_ret2
      exact ⟨by rw [decText_pos trivial trivial HNEAR.out]; rfl, HF10.out.below⟩
    | true =>
      by_cases hnl0 : sl = 0
      · have hz := Lib.hid (HNZ.out.2 hnl0)
        have q1 : ¬ (0 : Int) < (sl : Int) := by omega
        have q3 : decide (0 < sl) = false := by simp; omega
        clear hnl0
        go_wp2
        go_ret2
        exact ⟨by rw [decText_zero trivial trivial HNEAR.out hz.out]; rfl, HF10.out.below⟩
      · have hz : Hid ((a / q + 1) ≠ 0) := fun h => hnl0 (HNZ.out.1 h)
        have q1 : (0 : Int) < (sl : Int) := by omega
        have q3 : decide (0 < sl) = true := by simp; omega
        clear hnl0
        have q2 := HPL.out
        go_wp2
        go_ret2
        refine ⟨?_, HF10.out.below⟩
        rw [decText_neg trivial (HMN.out trivial) HNEAR.out hz.out]
        have := bytes_append [45] (pointed (numeral (a / q + 1)) k)
        exact congrArg (fun x => Ending.returned (.tuple #[Value.string x, .int .i64 0])) this
end Go.Proofs.Ytcgnmihabkgecaa

/- Div. -/
set_option linter.unusedVariables false
namespace Go.Proofs.Ytcgnmihabkgecaa
open Go.RowKit

theorem divmod_cast (m n : Nat) : ((m : Int) / (n : Int)) = ((m / n : Nat) : Int) ∧ ((m : Int) % (n : Int)) = ((m % n : Nat) : Int) := ⟨rfl, rfl⟩

theorem sgn_abs (b : Bool) (n : Nat) : (sgn b n = (n : Int) ∨ sgn b n = -(n : Int)) ∧ (b = false → sgn b n = n) ∧ (b = true → sgn b n = -(n : Int)) := by cases b <;> simp [sgn]

theorem euclid_pos {x y q r : Int} (hy : 0 < y) (h : y * q + r = x) (h0 : 0 ≤ r) (h1 : r < y) : x / y = q ∧ x % y = r :=
  (Int.ediv_emod_unique hy).2 ⟨by omega, h0, h1⟩

/-- the quotient and the remainder, which is not negative, are known by their sum and range -/
theorem euclid {x y q r : Int} (hy : y ≠ 0) (h : y * q + r = x) (h0 : 0 ≤ r) (h1 : r < y.natAbs) : x / y = q ∧ x % y = r := by
  by_cases hp : 0 < y
  · exact euclid_pos hp h h0 (by omega)
  · have h2 := euclid_pos (x := x) (y := -y) (q := -q) (r := r) (by omega) (by rw [Int.neg_mul_neg]; exact h) h0 (by omega)
    rw [Int.ediv_neg, Int.emod_neg] at h2
    exact ⟨by omega, h2.2⟩

theorem bne_false (b : Bool) : (false != b) = b := by cases b <;> rfl
theorem bne_true (b : Bool) : (true != b) = !b := by cases b <;> rfl
theorem sgn_true (n : Nat) : sgn true n = -(n : Int) := rfl
theorem sgn_false (n : Nat) : sgn false n = (n : Int) := rfl

theorem div_cases (na nb : Bool) (m n : Nat) (hn : n ≠ 0) (h : na = false ∨ m % n = 0) : sgn na m / sgn nb n = sgn (na != nb) (m / n) ∧ sgn na m % sgn nb n = sgn false (m % n) := by
  have hy : sgn nb n ≠ 0 := by cases nb <;> simp [sgn] <;> omega
  have e := Nat.div_add_mod m n
  have hl := Nat.mod_lt m (show 0 < n by omega)
  obtain ⟨q, hq⟩ : ∃ q, q = m / n := ⟨_, rfl⟩
  obtain ⟨r, hr⟩ : ∃ q, q = m % n := ⟨_, rfl⟩
  rw [← hq, ← hr] at e
  rw [← hr] at hl h
  rw [← hq, ← hr]
  have e2 : (n : Int) * (q : Int) + (r : Int) = (m : Int) := by exact_mod_cast e
  refine euclid hy ?_ ?_ ?_
  · rcases h with rfl | h
    · cases nb
      · exact e2
      · show -(n : Int) * -(q : Int) + (r : Int) = (m : Int)
        rw [Int.neg_mul_neg]; exact e2
    · have e3 : (r : Int) = 0 := by omega
      cases na <;> cases nb
      · exact e2
      · show -(n : Int) * -(q : Int) + (r : Int) = (m : Int)
        rw [Int.neg_mul_neg]; exact e2
      · show (n : Int) * -(q : Int) + (r : Int) = -(m : Int)
        rw [Int.mul_neg]; omega
      · show -(n : Int) * (q : Int) + (r : Int) = -(m : Int)
        rw [Int.neg_mul]; omega
  · show (0 : Int) ≤ (r : Int); omega
  · rw [sgn_natAbs]; show (r : Int) < (n : Int); omega

theorem div_up (nb : Bool) (m n : Nat) (hn : n ≠ 0) (h : m % n ≠ 0) : sgn true m / sgn nb n = sgn (true != nb) (m / n + 1) ∧ sgn true m % sgn nb n = sgn false (n - m % n) := by
  have hy : sgn nb n ≠ 0 := by cases nb <;> simp [sgn] <;> omega
  have e := Nat.div_add_mod m n
  have hl := Nat.mod_lt m (show 0 < n by omega)
  obtain ⟨q, hq⟩ : ∃ q, q = m / n := ⟨_, rfl⟩
  obtain ⟨r, hr⟩ : ∃ q, q = m % n := ⟨_, rfl⟩
  rw [← hq, ← hr] at e
  rw [← hr] at hl h
  rw [← hq, ← hr]
  have e2 : (n : Int) * (q : Int) + (r : Int) = (m : Int) := by exact_mod_cast e
  have e3 : ((n - r : Nat) : Int) = (n : Int) - (r : Int) := by omega
  have e4 : ((q + 1 : Nat) : Int) = (q : Int) + 1 := by omega
  refine euclid hy ?_ ?_ ?_
  · cases nb
    · show (n : Int) * -((q + 1 : Nat) : Int) + ((n - r : Nat) : Int) = -(m : Int)
      rw [e3, e4, Int.mul_neg, Int.mul_add]; omega
    · show -(n : Int) * ((q + 1 : Nat) : Int) + ((n - r : Nat) : Int) = -(m : Int)
      rw [e3, e4, Int.neg_mul, Int.mul_add]; omega
  · show (0 : Int) ≤ ((n - r : Nat) : Int); omega
  · rw [sgn_natAbs]; show ((n - r : Nat) : Int) < (n : Int); omega

def DivZPost (x y : Int) (W : World) (e : Ending) (w' : World) : Prop :=
  ∃ s1 uo ul uc s2 vo vl vc, e = .returned (.tuple #[.agg #[.bool s1, .slice uo ul uc], .agg #[.bool s2, .slice vo vl vc], .int .i64 0]) ∧ Z32 w' s1 uo ul (x / y) ∧ Z32 w' s2 vo vl (x % y) ∧ Below W.heap.size W w'

set_option maxHeartbeats 2000000 in
theorem div_any (na nb : Bool) (ao bo : Option Addr) (la lb ca cb : Nat) (x y : Int) (W : World) (ha : Z32 W na ao la x) (hb : Z32 W nb bo lb y) (hla : la ≤ 100000000) (hlb : lb ≤ 100000000) (hy : y ≠ 0)
    (hD : DivOk x.natAbs y.natAbs) :
    Calls Try.prog 10 #[.agg #[.bool na, .slice ao la ca], .agg #[.bool nb, .slice bo lb cb]] W (DivZPost x y W) := by
  have hf : Fr W ((((W.alloc (.cells #[.bool na, .slice ao la ca] 27)).alloc (.cells #[.bool nb, .slice bo lb cb] 27)).alloc (.cells #[.bool false, .slice none 0 0] 27)).alloc (.cells #[.bool false, .slice none 0 0] 27))
      [(27, #[.bool na, .slice ao la ca]), (27, #[.bool nb, .slice bo lb cb]), (27, #[.bool false, .slice none 0 0]), (27, #[.bool false, .slice none 0 0])] :=
    ((((Fr.nil W).alloc rfl _ _).alloc (by simp) _ _).alloc (by simp) _ _).alloc (by simp) _ _
  have hlb0 : lb ≠ 0 := fun h => hy (hb.zero.2 h)
  obtain ⟨m, hm, rfl, hmn⟩ := ha
  obtain ⟨n, hn, rfl, hnn⟩ := hb
  rw [sgn_natAbs, sgn_natAbs] at hD
  have hn0 : n ≠ 0 := fun h => hlb0 (hn.zero.1 h)
  have hbb : ((lb : Int) == 0) = false := by simp; omega
  have HM := Lib.hid hm
  have HN := Lib.hid hn
  have HD := Lib.hid hD
  have HN0 := Lib.hid hn0
  clear hm hn hD hn0 hy hmn hnn
  go_enter Try.func10, Try.ntmps10
  go_wp2_with fail
  obtain ⟨W3, hW3⟩ : ∃ W3, W3 = (((W.alloc (.cells #[.bool na, .slice ao la ca] 27)).alloc (.cells #[.bool nb, .slice bo lb cb] 27)).alloc (.cells #[.bool false, .slice none 0 0] 27)).alloc (.cells #[.bool false, .slice none 0 0] 27) := ⟨_, rfl⟩
  rw [← hW3] at hf ⊢
  clear hW3
  have HF := Lib.hid hf
  clear hf
  refine (HD.out _ _ _ _ _ _ _ (HM.out.keep HF.out.below) (HN.out.keep HF.out.below) (by omega) (by omega)).mono ?_
  rintro e w1 ⟨qo, ql, qc, ro, rl, rc, rfl, hq1, hr1, hb1⟩
  have hql : ql ≤ 100000000 := Nat.le_trans (hq1.len_le (Nat.lt_of_le_of_lt (Nat.div_le_self _ _) HM.out.lt)) hla
  have hrl : rl ≤ 100000000 := Nat.le_trans (hr1.len_le (Nat.lt_trans (Nat.mod_lt _ (Nat.pos_of_ne_zero HN0.out)) HN.out.lt)) hlb
  have hrz := hr1.zero
  have HF1 := Lib.hid (HF.out.later hb1)
  have HQ := Lib.hid hq1
  have HR := Lib.hid hr1
  have HRZ := Lib.hid hrz
  clear hq1 hr1 hb1 hrz
  have c0 : w1.cell? ⟨W.heap.size, 0, none⟩ = some (.bool na) := HF1.out.cell 0 0 rfl rfl
  cases na with
  | false =>
    have HXQ := Lib.hid (div_cases false nb m n HN0.out (.inl rfl)).1
    have HXR := Lib.hid (div_cases false nb m n HN0.out (.inl rfl)).2
    have hrl := HR.out
    have e0 : w1.cell? ⟨W.heap.size, 0, none⟩ = some (.bool false) := HF1.out.cell 0 0 rfl rfl
    have e1 : w1.cell? ⟨W.heap.size + 1, 0, none⟩ = some (.bool nb) := HF1.out.cell 1 0 rfl rfl
    clear hrl
    go_wp2_with fail
    refine (signed_any _ _ _ _ _ _ HQ.out).mono ?_
    rintro e w5 ⟨s1, uo, ul, uc, rfl, hz5, hb5⟩
    have HF5 := Lib.hid (HF1.out.later hb5)
    have HZ5 := Lib.hid hz5
    have HR5 := Lib.hid (HR.out.keep hb5)
    clear hz5 hb5
    go_wp2_with fail
    refine (signed_any _ _ _ _ _ _ HR5.out).mono ?_
    rintro e w6 ⟨s2, vo, vl, vc, rfl, hz6, hb6⟩
    have HF6 := Lib.hid (HF5.out.later hb6)
    have HZ6 := Lib.hid (HZ5.out.keep hb6)
    have HY6 := Lib.hid hz6
    clear hz6 hb6
    have g0 : w6.cell? ⟨W.heap.size + 1 + 1, 0, none⟩ = some (.bool false) := HF6.out.cell 2 0 rfl rfl
    have g1 : w6.cell? ⟨W.heap.size + 1 + 1, 1, none⟩ = some (.slice none 0 0) := HF6.out.cell 2 1 rfl rfl
    have g2 : w6.frozen? ⟨W.heap.size + 1 + 1, 0, none⟩ = false := HF6.out.frozen 2 0 rfl
    have g3 : w6.frozen? ⟨W.heap.size + 1 + 1, 1, none⟩ = false := HF6.out.frozen 2 1 rfl
    have g4 : w6.cell? ⟨W.heap.size + 1 + 1 + 1, 0, none⟩ = some (.bool false) := HF6.out.cell 3 0 rfl rfl
    have g5 : w6.cell? ⟨W.heap.size + 1 + 1 + 1, 1, none⟩ = some (.slice none 0 0) := HF6.out.cell 3 1 rfl rfl
    have g6 : w6.frozen? ⟨W.heap.size + 1 + 1 + 1, 0, none⟩ = false := HF6.out.frozen 3 0 rfl
    have g7 : w6.frozen? ⟨W.heap.size + 1 + 1 + 1, 1, none⟩ = false := HF6.out.frozen 3 1 rfl
    go_wp2
    obtain ⟨k0, k1, hz, _, hfr⟩ := HF6.out.finI (cap := uc) 2 rfl HZ6.out
    have hy2 := ((HY6.out.setFr HF6.out 2 0 rfl rfl (.bool s1)).setFr (HF6.out.set 2 0 rfl (.bool s1)) 2 1 rfl rfl (.slice uo ul uc))
    obtain ⟨k2, k3, hy3, hbel, hfr2⟩ := hfr.finI (cap := vc) 3 rfl hy2
    have hz3 := ((hz.setFr hfr 3 0 rfl rfl (.bool s2)).setFr (hfr.set 3 0 rfl (.bool s2)) 3 1 rfl rfl (.slice vo vl vc))
    have k4 := hfr2.cell 2 0 (v := .bool s1) rfl rfl
    have k5 := hfr2.cell 2 1 (v := .slice uo ul uc) rfl rfl
    exact bodyPost_ret (v := .tuple #[.agg #[.bool s1, .slice uo ul uc], .agg #[.bool s2, .slice vo vl vc], .int .i64 0]) (by simp [results, Try.results10, go_sem, k2, k3, k4, k5]) rfl ⟨s1, uo, ul, uc, s2, vo, vl, vc, rfl, by rw [HXQ.out, bne_false]; exact hz3, by rw [HXR.out]; exact hy3, hbel⟩
  | true =>
    by_cases hr0 : rl = 0
    · have HXQ := Lib.hid (div_cases true nb m n HN0.out (.inr (HRZ.out.2 hr0))).1
      have HXR := Lib.hid (div_cases true nb m n HN0.out (.inr (HRZ.out.2 hr0))).2
      have q1 : ¬ (0 : Int) < (rl : Int) := by omega
      have q3 : decide (0 < rl) = false := by simp; omega
      clear hr0
      have hrl := HR.out
      have e0 : w1.cell? ⟨W.heap.size, 0, none⟩ = some (.bool true) := HF1.out.cell 0 0 rfl rfl
      have e1 : w1.cell? ⟨W.heap.size + 1, 0, none⟩ = some (.bool nb) := HF1.out.cell 1 0 rfl rfl
      clear hrl
      go_wp2_with fail
      refine (signed_any _ _ _ _ _ _ HQ.out).mono ?_
      rintro e w5 ⟨s1, uo, ul, uc, rfl, hz5, hb5⟩
      have HF5 := Lib.hid (HF1.out.later hb5)
      have HZ5 := Lib.hid hz5
      have HR5 := Lib.hid (HR.out.keep hb5)
      clear hz5 hb5
      go_wp2_with fail
      refine (signed_any _ _ _ _ _ _ HR5.out).mono ?_
      rintro e w6 ⟨s2, vo, vl, vc, rfl, hz6, hb6⟩
      have HF6 := Lib.hid (HF5.out.later hb6)
      have HZ6 := Lib.hid (HZ5.out.keep hb6)
      have HY6 := Lib.hid hz6
      clear hz6 hb6
      have g0 : w6.cell? ⟨W.heap.size + 1 + 1, 0, none⟩ = some (.bool false) := HF6.out.cell 2 0 rfl rfl
      have g1 : w6.cell? ⟨W.heap.size + 1 + 1, 1, none⟩ = some (.slice none 0 0) := HF6.out.cell 2 1 rfl rfl
      have g2 : w6.frozen? ⟨W.heap.size + 1 + 1, 0, none⟩ = false := HF6.out.frozen 2 0 rfl
      have g3 : w6.frozen? ⟨W.heap.size + 1 + 1, 1, none⟩ = false := HF6.out.frozen 2 1 rfl
      have g4 : w6.cell? ⟨W.heap.size + 1 + 1 + 1, 0, none⟩ = some (.bool false) := HF6.out.cell 3 0 rfl rfl
      have g5 : w6.cell? ⟨W.heap.size + 1 + 1 + 1, 1, none⟩ = some (.slice none 0 0) := HF6.out.cell 3 1 rfl rfl
      have g6 : w6.frozen? ⟨W.heap.size + 1 + 1 + 1, 0, none⟩ = false := HF6.out.frozen 3 0 rfl
      have g7 : w6.frozen? ⟨W.heap.size + 1 + 1 + 1, 1, none⟩ = false := HF6.out.frozen 3 1 rfl
      go_wp2
      obtain ⟨k0, k1, hz, _, hfr⟩ := HF6.out.finI (cap := uc) 2 rfl HZ6.out
      have hy2 := ((HY6.out.setFr HF6.out 2 0 rfl rfl (.bool s1)).setFr (HF6.out.set 2 0 rfl (.bool s1)) 2 1 rfl rfl (.slice uo ul uc))
      obtain ⟨k2, k3, hy3, hbel, hfr2⟩ := hfr.finI (cap := vc) 3 rfl hy2
      have hz3 := ((hz.setFr hfr 3 0 rfl rfl (.bool s2)).setFr (hfr.set 3 0 rfl (.bool s2)) 3 1 rfl rfl (.slice vo vl vc))
      have k4 := hfr2.cell 2 0 (v := .bool s1) rfl rfl
      have k5 := hfr2.cell 2 1 (v := .slice uo ul uc) rfl rfl
      exact bodyPost_ret (v := .tuple #[.agg #[.bool s1, .slice uo ul uc], .agg #[.bool s2, .slice vo vl vc], .int .i64 0]) (by simp [results, Try.results10, go_sem, k2, k3, k4, k5]) rfl ⟨s1, uo, ul, uc, s2, vo, vl, vc, rfl, by rw [HXQ.out, bne_true]; exact hz3, by rw [HXR.out]; exact hy3, hbel⟩
    · have hmr : m % n ≠ 0 := fun h => hr0 (HRZ.out.1 h)
      have HXQ := Lib.hid (div_up nb m n HN0.out hmr).1
      have HXR := Lib.hid (div_up nb m n HN0.out hmr).2
      have q1 : (0 : Int) < (rl : Int) := by omega
      have q3 : decide (0 < rl) = true := by simp; omega
      clear hr0 hmr
      have HONE := Lib.hid (one_slice w1)
      have HF1a := Lib.hid (HF1.out.later (box_below w1 61 #[.int .u32 1]))
      go_wp2_with fail
      refine (sum_any _ _ _ _ _ _ (m / n) 1 _ (HQ.out.keep (box_below _ _ _)) HONE.out (by omega) (by omega)).mono ?_
      rintro e w2 ⟨so, sl, sc, rfl, hs2, hb2⟩
      have HF2 := Lib.hid (HF1a.out.later hb2)
      have HQ2 := Lib.hid hs2
      have HR2 := Lib.hid ((HR.out.keep (box_below _ _ _)).keep hb2)
      clear hs2 hb2
      have c1 : w2.cell? ⟨W.heap.size + 1, 1, none⟩ = some (.slice bo lb cb) := HF2.out.cell 1 1 rfl rfl
      go_wp2_with fail
      refine (difference_any _ _ _ _ _ _ n (m % n) _ (HN.out.keep HF2.out.below) HR2.out (by omega) (Nat.le_of_lt (Nat.mod_lt _ (Nat.pos_of_ne_zero HN0.out)))).mono ?_
      rintro e w4 ⟨to_, tl, tc, rfl, hd4, hb4⟩
      have HF4 := Lib.hid (HF2.out.later hb4)
      have HQ4 := Lib.hid (HQ2.out.keep hb4)
      have HR4 := Lib.hid hd4
      clear hd4 hb4
      have hrl := HR4.out
      have e0 : w4.cell? ⟨W.heap.size, 0, none⟩ = some (.bool true) := HF4.out.cell 0 0 rfl rfl
      have e1 : w4.cell? ⟨W.heap.size + 1, 0, none⟩ = some (.bool nb) := HF4.out.cell 1 0 rfl rfl
      clear hrl
      go_wp2_with fail
      refine (signed_any _ _ _ _ _ _ HQ4.out).mono ?_
      rintro e w5 ⟨s1, uo, ul, uc, rfl, hz5, hb5⟩
      have HF5 := Lib.hid (HF4.out.later hb5)
      have HZ5 := Lib.hid hz5
      have HR5 := Lib.hid (HR4.out.keep hb5)
      clear hz5 hb5
      go_wp2_with fail
      refine (signed_any _ _ _ _ _ _ HR5.out).mono ?_
      rintro e w6 ⟨s2, vo, vl, vc, rfl, hz6, hb6⟩
      have HF6 := Lib.hid (HF5.out.later hb6)
      have HZ6 := Lib.hid (HZ5.out.keep hb6)
      have HY6 := Lib.hid hz6
      clear hz6 hb6
      have g0 : w6.cell? ⟨W.heap.size + 1 + 1, 0, none⟩ = some (.bool false) := HF6.out.cell 2 0 rfl rfl
      have g1 : w6.cell? ⟨W.heap.size + 1 + 1, 1, none⟩ = some (.slice none 0 0) := HF6.out.cell 2 1 rfl rfl
      have g2 : w6.frozen? ⟨W.heap.size + 1 + 1, 0, none⟩ = false := HF6.out.frozen 2 0 rfl
      have g3 : w6.frozen? ⟨W.heap.size + 1 + 1, 1, none⟩ = false := HF6.out.frozen 2 1 rfl
      have g4 : w6.cell? ⟨W.heap.size + 1 + 1 + 1, 0, none⟩ = some (.bool false) := HF6.out.cell 3 0 rfl rfl
      have g5 : w6.cell? ⟨W.heap.size + 1 + 1 + 1, 1, none⟩ = some (.slice none 0 0) := HF6.out.cell 3 1 rfl rfl
      have g6 : w6.frozen? ⟨W.heap.size + 1 + 1 + 1, 0, none⟩ = false := HF6.out.frozen 3 0 rfl
      have g7 : w6.frozen? ⟨W.heap.size + 1 + 1 + 1, 1, none⟩ = false := HF6.out.frozen 3 1 rfl
      go_wp2
      obtain ⟨k0, k1, hz, _, hfr⟩ := HF6.out.finI (cap := uc) 2 rfl HZ6.out
      have hy2 := ((HY6.out.setFr HF6.out 2 0 rfl rfl (.bool s1)).setFr (HF6.out.set 2 0 rfl (.bool s1)) 2 1 rfl rfl (.slice uo ul uc))
      obtain ⟨k2, k3, hy3, hbel, hfr2⟩ := hfr.finI (cap := vc) 3 rfl hy2
      have hz3 := ((hz.setFr hfr 3 0 rfl rfl (.bool s2)).setFr (hfr.set 3 0 rfl (.bool s2)) 3 1 rfl rfl (.slice vo vl vc))
      have k4 := hfr2.cell 2 0 (v := .bool s1) rfl rfl
      have k5 := hfr2.cell 2 1 (v := .slice uo ul uc) rfl rfl
      exact bodyPost_ret (v := .tuple #[.agg #[.bool s1, .slice uo ul uc], .agg #[.bool s2, .slice vo vl vc], .int .i64 0]) (by simp [results, Try.results10, go_sem, k2, k3, k4, k5]) rfl ⟨s1, uo, ul, uc, s2, vo, vl, vc, rfl, by rw [HXQ.out, bne_true]; exact hz3, by rw [HXR.out]; exact hy3, hbel⟩
end Go.Proofs.Ytcgnmihabkgecaa
