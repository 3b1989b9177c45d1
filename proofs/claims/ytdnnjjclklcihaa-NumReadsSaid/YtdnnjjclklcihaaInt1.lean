/- The integers of num: signed, New, Sign, BitLen, String, Int. -/
import Derived.Test.YtdnnjjclklcihaaDivE
set_option linter.unusedVariables false
namespace Go.Proofs.Ytdnnjjclklcihaa
open Go.RowKit

/-- Block g is this, and may be written. -/
def Box (w : World) (g T : Nat) (c : Array Value) : Prop := w.heap[g]? = some (.cells c T (0, 0))

theorem Box.new (W : World) (T : Nat) (c : Array Value) : Box (W.alloc (.cells c T)) W.heap.size T c := heap_alloc_new W _

theorem Box.later {W w1 : World} {T : Nat} {c : Array Value} (hb : Below (W.alloc (.cells c T)).heap.size (W.alloc (.cells c T)) w1) : Box w1 W.heap.size T c :=
  (hb.block _ (by simp)).trans (Box.new W T c)

theorem Box.below {w w' : World} {g T B : Nat} {c : Array Value} (h : Box w g T c) (hb : Below B w w') (hg : g < B) : Box w' g T c := (hb.block g hg).trans h

theorem Box.cell {w : World} {g T : Nat} {c : Array Value} (h : Box w g T c) (i : Nat) : w.cell? ⟨g, i, none⟩ = c[i]? := by
  simp only [World.cell?]
  rw [show w.heap[g]? = _ from h]
  rfl

theorem Box.frozen {w : World} {g T : Nat} {c : Array Value} (h : Box w g T c) (i : Nat) : w.frozen? ⟨g, i, none⟩ = false := by
  simp only [World.frozen?]
  rw [show w.heap[g]? = _ from h]
  simp

theorem Box.set {w : World} {g T : Nat} {c : Array Value} (h : Box w g T c) (i : Nat) (u : Value) : Box (w.setCell ⟨g, i, none⟩ u) g T (c.setIfInBounds i u) := by
  unfold Box
  simp only [World.setCell, Array.getElem?_modify]
  rw [show w.heap[g]? = _ from h]
  simp

def isInt : Value → Bool | .int _ _ => true | _ => false

/-- A slice of numbers does not lie in a block without numbers. -/
theorem Sl.setBox {k : IntKind} {w : World} {ao : Option Addr} {len : Nat} {xs : List Nat} {g T : Nat} {c : Array Value} (h : Sl k w ao len xs) (hb : Box w g T c) (hc : ∀ (i : Nat) (v : Value), c[i]? = some v → isInt v = false) (i : Nat) (u : Value) :
    Sl k (w.setCell ⟨g, i, none⟩ u) ao len xs := by
  obtain ⟨h1, b, off, h2, h3⟩ := h
  refine ⟨h1, b, off, h2, fun j hj => ?_⟩
  have h4 := h3 j hj
  have hne : b ≠ g := by
    intro e
    subst e
    rw [hb.cell] at h4
    have := hc _ _ h4
    simp [isInt] at this
  have e1 : (w.setCell ⟨g, i, none⟩ u).heap[b]? = w.heap[b]? := Below.heap_setCell _ _ _ _ hne
  rw [← h4]
  simp only [World.cell?, e1]

theorem N32.setBox {w : World} {ao : Option Addr} {len n : Nat} {g T : Nat} {c : Array Value} (h : N32 w ao len n) (hb : Box w g T c) (hc : ∀ (i : Nat) (v : Value), c[i]? = some v → isInt v = false) (i : Nat) (u : Value) :
    N32 (w.setCell ⟨g, i, none⟩ u) ao len n := by
  obtain ⟨xs, h1, h2⟩ := h
  exact ⟨xs, h1.setBox hb hc i u, h2⟩

theorem noInt2 {a b : Value} (ha : isInt a = false) (hb : isInt b = false) : ∀ (i : Nat) (v : Value), (#[a, b] : Array Value)[i]? = some v → isInt v = false := by
  intro i v h
  match i, h with
  | 0, h => simp at h; subst h; exact ha
  | 1, h => simp at h; subst h; exact hb
  | i + 2, h => simp at h

theorem N32.set2 {w : World} {ao : Option Addr} {len n : Nat} {g T : Nat} {a b : Value} (h : N32 w ao len n) (hb : Box w g T #[a, b]) (ha : isInt a = false) (hbb : isInt b = false) (u v : Value) (hu : isInt u = false) :
    N32 ((w.setCell ⟨g, 0, none⟩ u).setCell ⟨g, 1, none⟩ v) ao len n :=
  (h.setBox hb (noInt2 ha hbb) 0 u).setBox (c := #[u, b]) (hb.set 0 u) (noInt2 hu hbb) 1 v

def sgn (neg : Bool) (n : Nat) : Int := if neg then -(n : Int) else (n : Int)

/-- a struct with this sign and this slice is the integer z -/
def Z32 (w : World) (neg : Bool) (ao : Option Addr) (len : Nat) (z : Int) : Prop := ∃ n, N32 w ao len n ∧ z = sgn neg n ∧ (neg = true → n ≠ 0)

theorem Z32.keep {w w' : World} {neg : Bool} {ao : Option Addr} {len : Nat} {z : Int} (h : Z32 w neg ao len z) (hb : Below w.heap.size w w') : Z32 w' neg ao len z := by
  obtain ⟨n, h1, h2⟩ := h
  exact ⟨n, h1.keep hb, h2⟩

/-- returned: a struct that is the integer z -/
def OutI (W : World) (z : Int) (e : Ending) (w' : World) : Prop := ∃ neg ao len cap, e = .returned (.agg #[.bool neg, .slice ao len cap]) ∧ Z32 w' neg ao len z ∧ Below W.heap.size W w'

set_option maxHeartbeats 400000 in
theorem signed_any (s : Bool) (ao : Option Addr) (len cap n : Nat) (W : World) (h : N32 W ao len n) :
    Calls Try.prog 62 #[.bool s, .slice ao len cap] W (OutI W (sgn s n)) := by
  have hz := h.zero
  have H := Lib.hid h
  have HZ := Lib.hid hz
  clear h hz
  cases s with
  | false =>
    go_enter Try.func62, Try.ntmps62
    go_wp2
    refine bodyPost_ret (v := .agg #[.bool false, .slice ao len cap]) (by simp [results, Try.results62, go_sem]) rfl ⟨false, ao, len, cap, rfl, ?_, (Below.refl _ _).alloc (Nat.le_refl _) _⟩
    exact ⟨n, H.out.keep ((Below.refl _ _).alloc (Nat.le_refl _) _), rfl, by simp⟩
  | true =>
    by_cases h0 : len = 0
    · subst h0
      go_enter Try.func62, Try.ntmps62
      go_wp2
      refine bodyPost_ret (v := .agg #[.bool false, .slice ao 0 cap]) (by simp [results, Try.results62, go_sem]) rfl ⟨false, ao, 0, cap, rfl, ?_, (Below.refl _ _).alloc (Nat.le_refl _) _⟩
      have hn : n = 0 := by first | exact HZ.out.2 rfl | exact HZ.out.2 trivial
      exact ⟨n, H.out.keep ((Below.refl _ _).alloc (Nat.le_refl _) _), by rw [hn]; rfl, by simp⟩
    · have b1 : (0 : Int) < (len : Int) := by omega
      have hd : decide (0 < len) = true := by simp; omega
      go_enter Try.func62, Try.ntmps62
      go_wp2
      refine bodyPost_ret (v := .agg #[.bool true, .slice ao len cap]) (by simp [results, Try.results62, go_sem]) rfl ⟨true, ao, len, cap, rfl, ?_, (Below.refl _ _).alloc (Nat.le_refl _) _⟩
      exact ⟨n, H.out.keep ((Below.refl _ _).alloc (Nat.le_refl _) _), rfl, fun _ => by have := HZ.out; omega⟩

theorem wrap_neg (n : Nat) (h : n ≤ 9223372036854775808) : IntKind.u64.wrap (-IntKind.u64.wrap (-(n : Int))) = (n : Int) := by
  simp [IntKind.wrap, IntKind.bits, IntKind.signed]
  omega

set_option maxHeartbeats 400000 in
theorem new_any (z : Int) (W : World) (h1 : -9223372036854775808 ≤ z) (h2 : z ≤ 9223372036854775807) :
    Calls Try.prog 15 #[.int .i64 z] W (OutI W z) := by
  by_cases h0 : z < 0
  · obtain ⟨n, rfl⟩ : ∃ n : Nat, z = -(n : Int) := ⟨z.natAbs, by omega⟩
    have hw := Lib.hid (wrap_neg n (by omega))
    go_enter Try.func15, Try.ntmps15
    go_wp2_with fail
    refine (fromWord_any _ n _ hw.out (by omega)).mono ?_
    rintro e w1 ⟨ao, len, cap, rfl, hn1, hb1⟩
    have HN := Lib.hid hn1
    have HB := Lib.hid hb1
    have HX := Lib.hid (Box.later hb1)
    clear hn1 hb1
    go_wp2_with fail
    refine (signed_any true ao len cap n w1 HN.out).mono ?_
    rintro e w2 ⟨neg, ao2, len2, cap2, rfl, ⟨n2, hn2, hz2, hp2⟩, hb2⟩
    have HX2 := Lib.hid (HX.out.below hb2 (by have := HX.out; exact (Array.getElem?_eq_some_iff.1 this).1))
    have hc0 := HX2.out.cell 0
    have hc1 := HX2.out.cell 1
    have hf0 := HX2.out.frozen 0
    have hf1 := HX2.out.frozen 1
    have HN2 := Lib.hid hn2
    have HB2 := Lib.hid hb2
    have HZ2 := Lib.hid hz2
    have HP2 := Lib.hid hp2
    clear hn2 hb2 hz2 hp2
    go_wp2
    have e0 := ((HX2.out.set 0 (.bool neg)).set 1 (.slice ao2 len2 cap2)).cell 0
    have e1 := ((HX2.out.set 0 (.bool neg)).set 1 (.slice ao2 len2 cap2)).cell 1
    have hlt := HX.out
    refine bodyPost_ret (v := .agg #[.bool neg, .slice ao2 len2 cap2]) (by simp [results, Try.results15, go_sem, e0, e1]) rfl ⟨neg, ao2, len2, cap2, rfl, ⟨n2, HN2.out.set2 HX2.out rfl rfl _ _ rfl, HZ2.out, HP2.out⟩, ?_⟩
    have hb := below_then ((Below.refl W.heap.size W).alloc (Nat.le_refl _) _) (HB.out.trans (HB2.out.mono HB.out.size))
    exact (hb.setCell (Nat.le_refl _) _).setCell (Nat.le_refl _) _
  · obtain ⟨n, rfl⟩ : ∃ n : Nat, z = (n : Int) := ⟨z.toNat, by omega⟩
    have b1 : (n : Int) ≤ 9223372036854775807 := h2
    go_enter Try.func15, Try.ntmps15
    go_wp2_with fail
    refine (fromWord_any _ n _ rfl (by omega)).mono ?_
    rintro e w1 ⟨ao, len, cap, rfl, hn1, hb1⟩
    have HN := Lib.hid hn1
    have HB := Lib.hid hb1
    have HX := Lib.hid (Box.later hb1)
    clear hn1 hb1
    go_wp2_with fail
    refine (signed_any false ao len cap n w1 HN.out).mono ?_
    rintro e w2 ⟨neg, ao2, len2, cap2, rfl, ⟨n2, hn2, hz2, hp2⟩, hb2⟩
    have HX2 := Lib.hid (HX.out.below hb2 (by have := HX.out; exact (Array.getElem?_eq_some_iff.1 this).1))
    have hc0 := HX2.out.cell 0
    have hc1 := HX2.out.cell 1
    have hf0 := HX2.out.frozen 0
    have hf1 := HX2.out.frozen 1
    have HN2 := Lib.hid hn2
    have HB2 := Lib.hid hb2
    have HZ2 := Lib.hid hz2
    have HP2 := Lib.hid hp2
    clear hn2 hb2 hz2 hp2
    go_wp2
    have e0 := ((HX2.out.set 0 (.bool neg)).set 1 (.slice ao2 len2 cap2)).cell 0
    have e1 := ((HX2.out.set 0 (.bool neg)).set 1 (.slice ao2 len2 cap2)).cell 1
    refine bodyPost_ret (v := .agg #[.bool neg, .slice ao2 len2 cap2]) (by simp [results, Try.results15, go_sem, e0, e1]) rfl ⟨neg, ao2, len2, cap2, rfl, ⟨n2, HN2.out.set2 HX2.out rfl rfl _ _ rfl, HZ2.out, HP2.out⟩, ?_⟩
    have hb := below_then ((Below.refl W.heap.size W).alloc (Nat.le_refl _) _) (HB.out.trans (HB2.out.mono HB.out.size))
    exact (hb.setCell (Nat.le_refl _) _).setCell (Nat.le_refl _) _

set_option maxHeartbeats 400000 in
theorem sign_any (neg : Bool) (ao : Option Addr) (len cap : Nat) (z : Int) (W : World) (h : Z32 W neg ao len z) :
    Calls Try.prog 21 #[.agg #[.bool neg, .slice ao len cap]] W (fun e w' => e = .returned (.int .i64 z.sign) ∧ Below W.heap.size W w') := by
  obtain ⟨n, hn, hz, hp⟩ := h
  have h0 := hn.zero
  cases neg with
  | true =>
    have hs : z.sign = -1 := by
      have := hp rfl
      rw [hz]
      apply Int.sign_eq_neg_one_of_neg
      simp only [sgn, if_true]
      omega
    rw [hs]
    clear hn hz hp h0 hs
    go_enter Try.func21, Try.ntmps21
    go_wp2
    go_ret
    exact ⟨rfl, (Below.refl _ _).alloc (Nat.le_refl _) _⟩
  | false =>
    by_cases hl : 0 < len
    · have hs : z.sign = 1 := by
        rw [hz]
        apply Int.sign_eq_one_of_pos
        show (0 : Int) < (n : Int)
        omega
      rw [hs]
      have b1 : (0 : Int) < (len : Int) := by omega
      clear hn hz hp h0 hs
      go_enter Try.func21, Try.ntmps21
      go_wp2
      go_ret
      exact ⟨rfl, (Below.refl _ _).alloc (Nat.le_refl _) _⟩
    · have hs : z.sign = 0 := by
        rw [hz, show n = 0 by omega]; rfl
      rw [hs]
      have b1 : ¬ (0 : Int) < (len : Int) := by omega
      clear hn hz hp h0 hs
      go_enter Try.func21, Try.ntmps21
      go_wp2
      go_ret
      exact ⟨rfl, (Below.refl _ _).alloc (Nat.le_refl _) _⟩
end Go.Proofs.Ytdnnjjclklcihaa
