/- plus, times. -/
import Derived.Test.YtdnnjjclklcihaaInt1
import Derived.Deep.RegionHeld3
set_option linter.unusedVariables false
namespace Go.Proofs.Ytdnnjjclklcihaa
open Go.RowKit

/-- Two boxed structs and a new cell pair, behind them. -/
structure Boxes (W W3 : World) (T : Nat) (a b : Value) (c d : Value) (e f : Value) : Prop where
  b2 : Box W3 W.heap.size T #[a, b]
  b3 : Box W3 (W.heap.size + 1) T #[c, d]
  b4 : Box W3 (W.heap.size + 2) T #[e, f]
  below : Below W.heap.size W W3
  size : W3.heap.size = W.heap.size + 3

theorem boxes (W : World) (T : Nat) (a b c d e f : Value) : Boxes W (((W.alloc (.cells #[a, b] T)).alloc (.cells #[c, d] T)).alloc (.cells #[e, f] T)) T a b c d e f := by
  have h1 := Box.new W T #[a, b]
  have h2 := Box.new (W.alloc (.cells #[a, b] T)) T #[c, d]
  have h3 := Box.new ((W.alloc (.cells #[a, b] T)).alloc (.cells #[c, d] T)) T #[e, f]
  have k1 : ∀ (w : World) (g : Nat) (x : Array Value) (o : Obj), Box w g T x → Box (w.alloc o) g T x := fun w g x o h => (Below.heap_alloc w o g (Array.getElem?_eq_some_iff.1 h).1).trans h
  simp only [World.size_alloc] at h2 h3
  exact ⟨k1 _ _ _ _ (k1 _ _ _ _ h1), k1 _ _ _ _ h2, h3, (((Below.refl _ _).alloc (Nat.le_refl _) _).alloc (by simp) _).alloc (by simp; omega) _, by simp⟩

theorem Boxes.later {W W3 w' : World} {T : Nat} {a b c d e f : Value} (h : Boxes W W3 T a b c d e f) (hb : Below W3.heap.size W3 w') : 
    Box w' W.heap.size T #[a, b] ∧ Box w' (W.heap.size + 1) T #[c, d] ∧ Box w' (W.heap.size + 2) T #[e, f] :=
  ⟨h.b2.below hb (by have := h.size; omega), h.b3.below hb (by have := h.size; omega), h.b4.below hb (by have := h.size; omega)⟩

theorem Boxes.facts {W W3 w' : World} {T : Nat} {a b c d e f : Value} (h : Boxes W W3 T a b c d e f) (hb : Below W3.heap.size W3 w') :
    w'.cell? ⟨W.heap.size, 0, none⟩ = some a ∧ w'.cell? ⟨W.heap.size, 1, none⟩ = some b ∧ w'.cell? ⟨W.heap.size + 1, 0, none⟩ = some c ∧ w'.cell? ⟨W.heap.size + 1, 1, none⟩ = some d := by
  obtain ⟨h1, h2, h3⟩ := h.later hb
  exact ⟨h1.cell 0, h1.cell 1, h2.cell 0, h2.cell 1⟩

theorem Boxes.own {W W3 w' : World} {T : Nat} {a b c d e f : Value} (h : Boxes W W3 T a b c d e f) (hb : Below W3.heap.size W3 w') :
    w'.cell? ⟨W.heap.size + 2, 0, none⟩ = some e ∧ w'.cell? ⟨W.heap.size + 2, 1, none⟩ = some f ∧ w'.frozen? ⟨W.heap.size + 2, 0, none⟩ = false ∧ w'.frozen? ⟨W.heap.size + 2, 1, none⟩ = false := by
  obtain ⟨h1, h2, h3⟩ := h.later hb
  exact ⟨h3.cell 0, h3.cell 1, h3.frozen 0, h3.frozen 1⟩

theorem below_of_drew {w w1 : World} (h : Below w.drew.heap.size w.drew w1) : Below w.heap.size w w1 := (Below.refl _ _).drew.trans h

/-- the end: the result is stored in its cell pair -/
theorem Boxes.fin {W W3 w2 : World} {T : Nat} {a b c d : Value} {eb neg : Bool} {fo ao : Option Addr} {fl fc len cap : Nat} {z : Int} (h : Boxes W W3 T a b c d (.bool eb) (.slice fo fl fc)) (hb : Below W3.heap.size W3 w2) (hz : Z32 w2 neg ao len z) :
    let w' := (w2.setCell ⟨W.heap.size + 2, 0, none⟩ (.bool neg)).setCell ⟨W.heap.size + 2, 1, none⟩ (.slice ao len cap)
    w'.cell? ⟨W.heap.size + 2, 0, none⟩ = some (.bool neg) ∧ w'.cell? ⟨W.heap.size + 2, 1, none⟩ = some (.slice ao len cap) ∧ Z32 w' neg ao len z ∧ Below W.heap.size W w' := by
  obtain ⟨h1, h2, h3⟩ := h.later hb
  obtain ⟨n, hn, hz⟩ := hz
  have k := (h3.set 0 (.bool neg)).set 1 (.slice ao len cap)
  refine ⟨k.cell 0, k.cell 1, ⟨n, hn.set2 h3 rfl rfl _ _ rfl, hz⟩, ?_⟩
  have hbb := h.below.trans (hb.mono (by have := h.size; omega))
  exact (hbb.setCell (by simp) _).setCell (by simp) _

theorem cell_set2 (w : World) (g b o : Nat) (u v : Value) (h : b ≠ g) : ((w.setCell ⟨g, 0, none⟩ u).setCell ⟨g, 1, none⟩ v).cell? ⟨b, o, none⟩ = w.cell? ⟨b, o, none⟩ := by
  have e : ((w.setCell ⟨g, 0, none⟩ u).setCell ⟨g, 1, none⟩ v).heap[b]? = w.heap[b]? := by
    rw [Below.heap_setCell _ _ _ _ h, Below.heap_setCell _ _ _ _ h]
  simp only [World.cell?, e]

theorem sgn_mul (a b : Bool) (m n : Nat) : sgn a m * sgn b n = sgn (a != b) (m * n) := by
  cases a <;> cases b <;> simp [sgn, Int.neg_mul, Int.mul_neg]

set_option maxHeartbeats 2000000 in
theorem times_any (na nb : Bool) (ao bo : Option Addr) (la lb ca cb : Nat) (x y : Int) (W : World) (ha : Z32 W na ao la x) (hb : Z32 W nb bo lb y) (hla : la ≤ 1000000000) (hlb : lb ≤ 1000000000) :
    Calls Try.prog 84 #[.agg #[.bool na, .slice ao la ca], .agg #[.bool nb, .slice bo lb cb]] W (OutI W (x * y)) := by
  obtain ⟨m, hm, rfl, hpm⟩ := ha
  obtain ⟨n, hn, rfl, hpn⟩ := hb
  have HM := Lib.hid hm
  have HN := Lib.hid hn
  have HE := Lib.hid (sgn_mul na nb m n)
  rw [HE.out]
  clear hm hn hpm hpn
  go_enter Try.func84, Try.ntmps84
  go_wp2_with fail
  have hbx := boxes W 24 (.bool na) (.slice ao la ca) (.bool nb) (.slice bo lb cb) (.bool false) (.slice none 0 0)
  obtain ⟨W3, hW3⟩ : ∃ W3, W3 = ((W.alloc (.cells #[.bool na, .slice ao la ca] 24)).alloc (.cells #[.bool nb, .slice bo lb cb] 24)).alloc (.cells #[.bool false, .slice none 0 0] 24) := ⟨_, rfl⟩
  rw [← hW3] at hbx ⊢
  clear hW3
  have HX := Lib.hid hbx
  have c0 := hbx.b2.cell 0
  have c1 := hbx.b2.cell 1
  have c2 := hbx.b3.cell 0
  have c3 := hbx.b3.cell 1
  simp only [List.getElem?_toArray, List.getElem?_cons_zero, List.getElem?_cons_succ] at c0 c1 c2 c3
  have HM3 := Lib.hid (HM.out.keep hbx.below)
  have HN3 := Lib.hid (HN.out.keep hbx.below)
  clear hbx
  go_region_held3 (fun w' => w'.cell? ⟨W.heap.size, 0, none⟩ = some (.bool na) ∧ w'.cell? ⟨W.heap.size, 1, none⟩ = some (.slice ao la ca) ∧ w'.cell? ⟨W.heap.size + 1, 0, none⟩ = some (.bool nb) ∧ w'.cell? ⟨W.heap.size + 1, 1, none⟩ = some (.slice bo lb cb)) (first | (go_keep; done) | ((try dsimp only); (repeat' apply And.intro) <;> (first | (go_keep; done) | (rw [cell_set2 _ _ _ _ _ _ (by omega)]; assumption))))
    (first | (go_at_call 94; refine (product_any _ _ _ _ _ _ m n _ (HM3.out.drewN 1) (HN3.out.drewN 1) hla hlb).mono ?_; rintro e w1 ⟨po, pl, pc, rfl, hp, hb1⟩; have HB1 := Lib.hid (below_of_drew hb1); have HP := Lib.hid hp; clear hb1 hp; obtain ⟨k0, k1, k2, k3⟩ := HX.out.facts HB1.out) | (go_at_call 62; refine (signed_any _ _ _ _ (m * n) _ HP.out).mono ?_; rintro e w2 ⟨neg, so, sl, sc, rfl, hz, hb2⟩; have HB2 := Lib.hid (HB1.out.trans (hb2.mono HB1.out.size)); have HZ := Lib.hid hz; clear hb2 hz; obtain ⟨j0, j1, j2, j3⟩ := HX.out.facts HB2.out; obtain ⟨i0, i1, i2, i3⟩ := HX.out.own HB2.out))
  go_wp2
  obtain ⟨e0, e1, hz, hbel⟩ := HX.out.fin (neg := neg) (ao := so) (len := sl) (cap := sc) HB2.out HZ.out
  exact bodyPost_ret (v := .agg #[.bool neg, .slice so sl sc]) (by simp [results, Try.results84, go_sem, e0, e1]) rfl ⟨neg, so, sl, sc, rfl, hz, hbel⟩
end Go.Proofs.Ytdnnjjclklcihaa
