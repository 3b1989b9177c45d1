/- A call's own blocks, by their numbers behind the heap's size at its start. -/
import Derived.Test.YtdnnjjclklcihaaGcdE
set_option linter.unusedVariables false
namespace Go.Proofs.Ytdnnjjclklcihaa
open Go.RowKit

/-- W: the world at the call's start; w: later; the first blocks that the call made hold bs. -/
structure Fr (W w : World) (bs : List (Nat × Array Value)) : Prop where
  below : Below W.heap.size W w
  size : W.heap.size + bs.length ≤ w.heap.size
  box : ∀ i T c, bs[i]? = some (T, c) → Box w (W.heap.size + i) T c

theorem Fr.nil (W : World) : Fr W W [] := ⟨Below.refl _ _, Nat.le_refl _, fun i T c h => by simp at h⟩

theorem Fr.later {W w w' : World} {bs : List (Nat × Array Value)} (h : Fr W w bs) (hb : Below w.heap.size w w') : Fr W w' bs := by
  refine ⟨h.below.trans (hb.mono h.below.size), Nat.le_trans h.size hb.size, fun i T c hi => ?_⟩
  have hl := (List.getElem?_eq_some_iff.1 hi).1
  exact (h.box i T c hi).below hb (by have := h.size; omega)

theorem Fr.alloc {W w : World} {bs : List (Nat × Array Value)} (h : Fr W w bs) (hs : w.heap.size = W.heap.size + bs.length) (T : Nat) (c : Array Value) : Fr W (w.alloc (.cells c T)) (bs ++ [(T, c)]) := by
  refine ⟨h.below.alloc h.below.size _, by simp; omega, fun i T' c' hi => ?_⟩
  by_cases hl : i < bs.length
  · rw [List.getElem?_append_left hl] at hi
    have hb := h.box i T' c' hi
    exact (Below.heap_alloc w _ _ (Array.getElem?_eq_some_iff.1 hb).1).trans hb
  · rw [List.getElem?_append_right (by omega)] at hi
    have h0 : i - bs.length = 0 := by
      have := (List.getElem?_eq_some_iff.1 hi).1
      simp at this
      omega
    rw [h0] at hi
    simp at hi
    obtain ⟨rfl, rfl⟩ := hi
    have e : W.heap.size + i = w.heap.size := by omega
    rw [e]
    exact Box.new w _ _

theorem Fr.drew {W w : World} {bs : List (Nat × Array Value)} (h : Fr W w bs) : Fr W w.drew bs := ⟨h.below.drew, h.size, h.box⟩

theorem Fr.cell {W w : World} {bs : List (Nat × Array Value)} (h : Fr W w bs) (i j : Nat) {T : Nat} {c : Array Value} {v : Value} (hi : bs[i]? = some (T, c)) (hj : c[j]? = some v) : w.cell? ⟨W.heap.size + i, j, none⟩ = some v :=
  ((h.box i T c hi).cell j).trans hj

theorem Fr.frozen {W w : World} {bs : List (Nat × Array Value)} (h : Fr W w bs) (i j : Nat) {T : Nat} {c : Array Value} (hi : bs[i]? = some (T, c)) : w.frozen? ⟨W.heap.size + i, j, none⟩ = false :=
  (h.box i T c hi).frozen j

theorem Fr.set {W w : World} {bs : List (Nat × Array Value)} (h : Fr W w bs) (i j : Nat) {T : Nat} {c : Array Value} (hi : bs[i]? = some (T, c)) (u : Value) : Fr W (w.setCell ⟨W.heap.size + i, j, none⟩ u) (bs.set i (T, c.setIfInBounds j u)) := by
  refine ⟨h.below.setCell (by simp) _, by simpa using h.size, fun k T' c' hk => ?_⟩
  rw [List.getElem?_set] at hk
  have hl := (List.getElem?_eq_some_iff.1 hi).1
  by_cases hik : i = k
  · subst hik
    rw [if_pos rfl, if_pos hl] at hk
    simp only [Option.some.injEq, Prod.mk.injEq] at hk
    obtain ⟨rfl, rfl⟩ := hk
    exact (h.box i T c hi).set j u
  · rw [if_neg hik] at hk
    refine (Below.heap_setCell _ _ _ _ ?_).trans (h.box k T' c' hk)
    simp; omega

/-- no number among these -/
def noInts (c : Array Value) : Bool := c.toList.all fun v => !isInt v

theorem noInts_get {c : Array Value} (h : noInts c = true) : ∀ (i : Nat) (v : Value), c[i]? = some v → isInt v = false := by
  intro i v hv
  have h2 := List.all_eq_true.1 h v (by
    rw [← Array.getElem?_toList] at hv
    exact List.mem_of_getElem? hv)
  simpa using h2

theorem N32.setFr {W w : World} {bs : List (Nat × Array Value)} {ao : Option Addr} {len n : Nat} (h : N32 w ao len n) (hf : Fr W w bs) (i j : Nat) {T : Nat} {c : Array Value} (hi : bs[i]? = some (T, c)) (hc : noInts c = true) (u : Value) :
    N32 (w.setCell ⟨W.heap.size + i, j, none⟩ u) ao len n := h.setBox (hf.box i T c hi) (noInts_get hc) j u

theorem Z32.setFr {W w : World} {bs : List (Nat × Array Value)} {neg : Bool} {ao : Option Addr} {len : Nat} {z : Int} (h : Z32 w neg ao len z) (hf : Fr W w bs) (i j : Nat) {T : Nat} {c : Array Value} (hi : bs[i]? = some (T, c)) (hc : noInts c = true) (u : Value) :
    Z32 (w.setCell ⟨W.heap.size + i, j, none⟩ u) neg ao len z := by
  obtain ⟨n, h1, h2⟩ := h
  exact ⟨n, h1.setFr hf i j hi hc u, h2⟩

/-- a fraction: the parts of the numerator, the slice of the denominator, which is empty for 1 -/
def Q32 (w : World) (neg : Bool) (ao : Option Addr) (len : Nat) (bo : Option Addr) (bl : Nat) (p : Int) (q : Nat) : Prop :=
  Z32 w neg ao len p ∧ ((bl = 0 ∧ q = 1) ∨ (N32 w bo bl q ∧ 1 < q))

theorem Q32.keep {w w' : World} {neg : Bool} {ao bo : Option Addr} {len bl : Nat} {p : Int} {q : Nat} (h : Q32 w neg ao len bo bl p q) (hb : Below w.heap.size w w') : Q32 w' neg ao len bo bl p q := by
  refine ⟨h.1.keep hb, ?_⟩
  rcases h.2 with h2 | ⟨h2, h3⟩
  · exact .inl h2
  · exact .inr ⟨h2.keep hb, h3⟩

theorem Q32.setFr {W w : World} {bs : List (Nat × Array Value)} {neg : Bool} {ao bo : Option Addr} {len bl : Nat} {p : Int} {q : Nat} (h : Q32 w neg ao len bo bl p q) (hf : Fr W w bs) (i j : Nat) {T : Nat} {c : Array Value} (hi : bs[i]? = some (T, c)) (hc : noInts c = true) (u : Value) :
    Q32 (w.setCell ⟨W.heap.size + i, j, none⟩ u) neg ao len bo bl p q := by
  refine ⟨h.1.setFr hf i j hi hc u, ?_⟩
  rcases h.2 with h2 | ⟨h2, h3⟩
  · exact .inl h2
  · exact .inr ⟨h2.setFr hf i j hi hc u, h3⟩

theorem Q32.bl0 {w : World} {neg : Bool} {ao bo : Option Addr} {len bl : Nat} {p : Int} {q : Nat} (h : Q32 w neg ao len bo bl p q) : bl = 0 ↔ q = 1 := by
  rcases h.2 with ⟨h2, h3⟩ | ⟨h2, h3⟩
  · simp [h2, h3]
  · have := h2.zero; omega

/-- returned: a struct that is the fraction p / q -/
def OutQ (W : World) (p : Int) (q : Nat) (e : Ending) (w' : World) : Prop :=
  ∃ neg ao len cap bo bl bc, e = .returned (.agg #[.bool neg, .slice ao len cap, .slice bo bl bc]) ∧ Q32 w' neg ao len bo bl p q ∧ Below W.heap.size W w'


/-- a fraction is stored in the call's own block number i -/
theorem Fr.finQ {W w : World} {bs : List (Nat × Array Value)} {neg : Bool} {ao bo : Option Addr} {len bl cap bc : Nat} {p : Int} {q : Nat} (hf : Fr W w bs) (i : Nat) {T : Nat} {e0 : Bool} {a1 a2 : Option Addr} {l1 l2 c1 c2 : Nat}
    (hi : bs[i]? = some (T, #[.bool e0, .slice a1 l1 c1, .slice a2 l2 c2])) (h : Q32 w neg ao len bo bl p q) :
    let w' := ((w.setCell ⟨W.heap.size + i, 0, none⟩ (.bool neg)).setCell ⟨W.heap.size + i, 1, none⟩ (.slice ao len cap)).setCell ⟨W.heap.size + i, 2, none⟩ (.slice bo bl bc)
    w'.cell? ⟨W.heap.size + i, 0, none⟩ = some (.bool neg) ∧ w'.cell? ⟨W.heap.size + i, 1, none⟩ = some (.slice ao len cap) ∧ w'.cell? ⟨W.heap.size + i, 2, none⟩ = some (.slice bo bl bc) ∧ Q32 w' neg ao len bo bl p q ∧ Below W.heap.size W w' := by
  have hl := (List.getElem?_eq_some_iff.1 hi).1
  have k1 := hf.set i 0 hi (.bool neg)
  have i1 : (bs.set i (T, #[.bool neg, .slice a1 l1 c1, .slice a2 l2 c2]))[i]? = some (T, #[.bool neg, .slice a1 l1 c1, .slice a2 l2 c2]) := List.getElem?_set_self hl
  have q1 := h.setFr hf i 0 hi rfl (.bool neg)
  have k2 := k1.set i 1 i1 (.slice ao len cap)
  have i2 : ((bs.set i (T, #[.bool neg, .slice a1 l1 c1, .slice a2 l2 c2])).set i (T, #[.bool neg, .slice ao len cap, .slice a2 l2 c2]))[i]? = some (T, #[.bool neg, .slice ao len cap, .slice a2 l2 c2]) := List.getElem?_set_self (by simpa using hl)
  have q2 := q1.setFr k1 i 1 i1 rfl (.slice ao len cap)
  have k3 := k2.set i 2 i2 (.slice bo bl bc)
  have i3 : (((bs.set i (T, #[.bool neg, .slice a1 l1 c1, .slice a2 l2 c2])).set i (T, #[.bool neg, .slice ao len cap, .slice a2 l2 c2])).set i (T, #[.bool neg, .slice ao len cap, .slice bo bl bc]))[i]? = some (T, #[.bool neg, .slice ao len cap, .slice bo bl bc]) := List.getElem?_set_self (by simpa using hl)
  have q3 := q2.setFr k2 i 2 i2 rfl (.slice bo bl bc)
  exact ⟨k3.cell i 0 i3 rfl, k3.cell i 1 i3 rfl, k3.cell i 2 i3 rfl, q3, k3.below⟩

/-- an integer is stored in the call's own block number i -/
theorem Fr.finI {W w : World} {bs : List (Nat × Array Value)} {neg : Bool} {ao : Option Addr} {len cap : Nat} {z : Int} (hf : Fr W w bs) (i : Nat) {T : Nat} {e0 : Bool} {a1 : Option Addr} {l1 c1 : Nat}
    (hi : bs[i]? = some (T, #[.bool e0, .slice a1 l1 c1])) (h : Z32 w neg ao len z) :
    let w' := (w.setCell ⟨W.heap.size + i, 0, none⟩ (.bool neg)).setCell ⟨W.heap.size + i, 1, none⟩ (.slice ao len cap)
    w'.cell? ⟨W.heap.size + i, 0, none⟩ = some (.bool neg) ∧ w'.cell? ⟨W.heap.size + i, 1, none⟩ = some (.slice ao len cap) ∧ Z32 w' neg ao len z ∧ Below W.heap.size W w' ∧ Fr W w' (bs.set i (T, #[.bool neg, .slice ao len cap])) := by
  have hl := (List.getElem?_eq_some_iff.1 hi).1
  have k1 := hf.set i 0 hi (.bool neg)
  have i1 : (bs.set i (T, #[.bool neg, .slice a1 l1 c1]))[i]? = some (T, #[.bool neg, .slice a1 l1 c1]) := List.getElem?_set_self hl
  have q1 := h.setFr hf i 0 hi rfl (.bool neg)
  have k2 := k1.set i 1 i1 (.slice ao len cap)
  have i2 : ((bs.set i (T, #[.bool neg, .slice a1 l1 c1])).set i (T, #[.bool neg, .slice ao len cap]))[i]? = some (T, #[.bool neg, .slice ao len cap]) := List.getElem?_set_self (by simpa using hl)
  have q2 := q1.setFr k1 i 1 i1 rfl (.slice ao len cap)
  refine ⟨k2.cell i 0 i2 rfl, k2.cell i 1 i2 rfl, q2, k2.below, ?_⟩
  have := k2
  rw [List.set_set] at this
  exact this

end Go.Proofs.Ytdnnjjclklcihaa
