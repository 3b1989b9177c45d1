/- slices.Reverse of bytes. -/
import Derived.Test.YtdnnjjclklcihaaTen
import Derived.RegionTactic
import Derived.BigRegion
set_option linter.unusedVariables false
namespace Go.Proofs.Ytdnnjjclklcihaa
open Go.RowKit

/-- the first i places and the last i places have changed places -/
def Turned (xs zs : List Nat) (i : Nat) : Prop := zs.length = xs.length ∧ ∀ t, t < xs.length → zs[t]?.getD 0 = if t < i ∨ xs.length < t + 1 + i then xs[xs.length - 1 - t]?.getD 0 else xs[t]?.getD 0

theorem turned_end {xs zs : List Nat} {i : Nat} (h : Turned xs zs i) (hi : xs.length ≤ 2 * i + 1) : zs = xs.reverse := by
  apply List.ext_getElem?
  intro t
  by_cases ht : t < xs.length
  · have h1 := h.2 t ht
    rw [List.getElem?_reverse ht]
    have e1 : zs[t]?.getD 0 = zs[t]'(by have := h.1; omega) := by rw [List.getElem?_eq_getElem]; rfl
    have e2 : xs[xs.length - 1 - t]?.getD 0 = xs[xs.length - 1 - t] := by rw [List.getElem?_eq_getElem]; rfl
    rw [List.getElem?_eq_getElem (by have := h.1; omega), List.getElem?_eq_getElem (by omega), ← e1, ← e2, h1]
    split
    · rfl
    · have : t = xs.length - 1 - t := by omega
      rw [← this]
  · rw [List.getElem?_eq_none (by have := h.1; omega), List.getElem?_eq_none (by simp; omega)]

theorem getD_set (zs : List Nat) (i x t : Nat) : (zs.set i x)[t]?.getD 0 = if i = t ∧ t < zs.length then x else zs[t]?.getD 0 := by
  rw [List.getElem?_set]
  by_cases h : i = t
  · subst h
    by_cases h2 : i < zs.length
    · simp [h2]
    · simp [h2]
  · simp [h]

theorem turned_step {xs zs : List Nat} {i j : Nat} (h : Turned xs zs i) (hij : i < j) (hj : i + j + 1 = xs.length) :
    Turned xs ((zs.set i (zs[j]?.getD 0)).set j (zs[i]?.getD 0)) (i + 1) := by
  refine ⟨by simpa using h.1, fun t ht => ?_⟩
  have hl := h.1
  rw [getD_set, getD_set, h.2 t ht, h.2 i (by omega), h.2 j (by omega)]
  simp only [List.length_set]
  by_cases h1 : j = t
  · subst h1
    rw [if_pos ⟨rfl, by omega⟩, if_neg (by omega), if_pos (by omega)]
    congr 2; omega
  · rw [if_neg (by omega)]
    by_cases h2 : i = t
    · subst h2
      rw [if_pos ⟨rfl, by omega⟩, if_neg (by omega), if_pos (by omega)]
      congr 2; omega
    · rw [if_neg (by omega)]
      by_cases h3 : t < i ∨ xs.length < t + 1 + i
      · rw [if_pos h3, if_pos (by omega)]
      · rw [if_neg h3, if_neg (by omega)]

def RevRel (base e g n cap : Nat) (xs : List Nat) (W : World) (iv jv : Value) (wr : World) : Prop :=
  ∃ (i : Nat) (zs : List Nat), iv = .int .i64 (i : Int) ∧ jv = .int .i64 ((n : Int) - 1 - (i : Int)) ∧ 2 * i ≤ n + 1 ∧ Own .u8 wr base e (.slice (some ⟨g, 0, none⟩) n cap) n zs ∧ Turned xs zs i ∧ Below base W wr

set_option maxHeartbeats 1000000 in
theorem reverse_own (base g n cap : Nat) (xs : List Nat) (W : World) (hown : Own .u8 W base 5 (.slice (some ⟨g, 0, none⟩) n cap) n xs) (hn : n ≤ 1000000000000) :
    Calls Try.prog 109 #[.slice (some ⟨g, 0, none⟩) n cap] W (fun en w' => en = .returned (.tuple #[]) ∧ Own .u8 w' base 5 (.slice (some ⟨g, 0, none⟩) n cap) n xs.reverse ∧ Below base W w') := by
  have hgb : base ≤ g := hown.ge g rfl
  have HX := Lib.hid hown.len
  have HB := Lib.hid hown
  clear hown
  go_enter Try.func109, Try.ntmps109
  go_wp2
  go_loopw [2, 3] (fun iv jv wr => RevRel base 5 g n cap xs W iv jv wr) (fun iv jv _ => n - (intOf iv).toNat)
  case atStart =>
    refine ⟨0, xs, rfl, by simp, by omega, HB.out, ⟨rfl, fun t ht => ?_⟩, Below.refl _ _⟩
    rw [if_neg (by omega)]
  case round =>
    obtain ⟨i, zs, rfl, rfl, hi, hB, ht, hbel⟩ := hrel
    have GZ := Lib.hid hB
    have GT := Lib.hid ht
    have GW := Lib.hid hbel
    clear hB ht hbel
    by_cases hlt : 2 * i + 1 < n
    · obtain ⟨j, hj⟩ : ∃ j, i + j + 1 = n := ⟨n - 1 - i, by omega⟩
      have ej : ((n : Int) - 1 - (i : Int)) = (j : Int) := by omega
      rw [ej]
      have HJ := Lib.hid hj
      have hij : i < j := by omega
      have hin : i < n := by omega
      have hjn : j < n := by omega
      have b0 : (i : Int) < (j : Int) := by omega
      have b1 : (0 : Int) ≤ (i : Int) := by omega
      have b2 : (i : Int) < (n : Int) := by omega
      have b3 : (0 : Int) ≤ (j : Int) := by omega
      have b4 : (j : Int) < (n : Int) := by omega
      have hcells : ∀ t, t < n → wr.cell? ⟨g, t, none⟩ = some (.int .u8 ((zs[t]?.getD 0 : Nat) : Int)) ∧ wr.frozen? ⟨g, t, none⟩ = false := by
        rcases GZ.out.cases with ⟨h, _⟩ | ⟨g', cap', h, _, _, _, _, h3⟩
        · cases h
        · cases h; exact h3
      obtain ⟨c1, f1⟩ := hcells i hin
      obtain ⟨c2, f2⟩ := hcells j hjn
      clear hcells ej hj
      obtain ⟨x, hxe⟩ : ∃ x, x = zs[i]?.getD 0 := ⟨_, rfl⟩
      obtain ⟨y, hye⟩ : ∃ x, x = zs[j]?.getD 0 := ⟨_, rfl⟩
      rw [← hxe] at c1
      rw [← hye] at c2
      have HXE := Lib.hid hxe
      have HYE := Lib.hid hye
      clear hxe hye
      have hne : i ≠ j := by omega
      go_wp2
      go_region
      go_wp2
      refine ⟨?_, by simp [intOf]; omega⟩
      refine ⟨i + 1, (zs.set i y).set j x, by go_num, congrArg (Value.int _) (by have := HJ.out; omega), by omega, ?_, ?_, ?_⟩
      · have h1 := GZ.out.stored i y hin _ rfl
        have h2 := h1.stored j x hjn _ rfl
        exact h2
      · have h3 := turned_step GT.out hij (by rw [HX.out]; exact HJ.out)
        rw [← HXE.out, ← HYE.out] at h3
        exact h3
      · exact ((GW.out.setCell hgb _).setCell hgb _).drew
    · have b0 : ¬ (i : Int) < (n : Int) - 1 - (i : Int) := by omega
      go_wp2
      go_end0
      have := turned_end GT.out (by rw [HX.out]; omega)
      refine ⟨rfl, ?_, GW.out⟩
      rw [← this]
      exact GZ.out
end Go.Proofs.Ytdnnjjclklcihaa
