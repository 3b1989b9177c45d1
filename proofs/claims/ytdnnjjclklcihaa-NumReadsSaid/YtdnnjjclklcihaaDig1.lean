/- The small functions on digits: digit, trim, duplicate, fromWord, toWord, isOne, isOdd. -/
import Derived.Test.YtdnnjjclklcihaaBase
set_option linter.unusedVariables false
namespace Go.Proofs.Ytdnnjjclklcihaa
open Go.RowKit

set_option maxHeartbeats 400000 in
theorem digit_any (ao : Option Addr) (len cap : Nat) (xs : List Nat) (I : Int) (i : Nat) (w : World) (hs : Sl .u32 w ao len xs) (hI : I = (i : Int)) :
    Calls Try.prog 101 #[.slice ao len cap, .int .i64 I] w fun e w' => e = .returned (.int .u32 ((xs[i]?.getD 0 : Nat) : Int)) ∧ w = w' := by
  subst hI
  obtain ⟨hx, b, off, h0, hc⟩ := hs
  have hX := Lib.hid hx
  clear hx
  by_cases hil : i < len
  · obtain rfl := h0 (by omega)
    have hci := hc i hil
    clear hc h0
    go_enter Try.func101, Try.ntmps101
    go_wp2
    go_ret
    exact ⟨rfl, rfl⟩
  · have hn : xs[i]?.getD 0 = 0 := by rw [List.getElem?_eq_none (by have := hX.out; omega)]; rfl
    rw [hn]
    clear hn h0 hc
    go_enter Try.func101, Try.ntmps101
    go_wp2
    go_ret
    exact ⟨rfl, rfl⟩

/-- digit inside a region that draws its order -/
theorem digit_quiet (ao : Option Addr) (len cap : Nat) (xs : List Nat) (I : Int) (i y n : Nat) (w : World) (hs : Sl .u32 w ao len xs) (hI : I = (i : Int)) (hy : y = xs[i]?.getD 0) :
    Calls Try.prog 101 #[.slice ao len cap, .int .i64 I] (w.drewN n) fun e w'' => e = .returned (.int .u32 (y : Int)) ∧ ∃ m, w'' = w.drewN m :=
  (digit_any ao len cap xs I i (w.drewN n) (hs.drewN n) hI).mono fun e w' ⟨h1, h2⟩ => ⟨by rw [h1, hy], n, h2.symm⟩

def TrimPost (w : World) (ao : Option Addr) (len : Nat) (xs : List Nat) (e : Ending) : Prop :=
  ∃ ao' n, e = .returned (.slice ao' n n) ∧ n ≤ len ∧ (0 < n → ao' = ao) ∧ (n = 0 → ao' = none) ∧ Top (xs.take n) ∧ (∀ j, n ≤ j → xs[j]?.getD 0 = 0)

set_option maxHeartbeats 400000 in
theorem trim_raw (ao : Option Addr) (len cap : Nat) (xs : List Nat) (w : World) (hs : Sl .u32 w ao len xs) (hcap : len ≤ cap) (hl : cap ≤ 9223372036854775807) :
    Calls Try.prog 98 #[.slice ao len cap] w fun e w' => TrimPost w ao len xs e ∧ w = w' := by
  obtain ⟨hx, b, off, h0, hc⟩ := hs
  have hX := Lib.hid hx
  clear hx
  go_enter Try.func98, Try.ntmps98
  go_wp2
  go_loop [3] (fun t => ∃ n : Nat, n ≤ len ∧ t = .int .i64 n ∧ ∀ j, n ≤ j → xs[j]?.getD 0 = 0) (fun t => (intOf t).toNat)
  case atStart => exact ⟨len, Nat.le_refl _, rfl, fun j hj => by rw [List.getElem?_eq_none (by have := hX.out; omega)]; rfl⟩
  case round =>
    obtain ⟨n, hn, rfl, hz⟩ := hrel
    have hZ := Lib.hid hz
    clear hz
    have hX2 := hX.out
    by_cases h1 : n = 0
    · subst h1
      go_wp2
      go_ret
      exact ⟨⟨none, 0, rfl, by omega, fun h => by omega, fun _ => rfl, by simpa using Top.nil, hZ.out⟩, rfl⟩
    · have hlen : 0 < len := by omega
      obtain rfl := h0 hlen
      obtain ⟨m, rfl⟩ : ∃ m, n = m + 1 := ⟨n - 1, by omega⟩
      have hcell := hc m (by omega)
      clear hc h0
      obtain ⟨x, hxe⟩ : ∃ x, x = xs[m]?.getD 0 := ⟨_, rfl⟩
      rw [← hxe] at hcell
      have hE := Lib.hid hxe
      clear hxe hX2
      by_cases hx0 : x = 0
      · subst hx0
        go_wp2
        go_round
        case rel => exact ⟨m, by omega, by go_num, fun j hj => (by
          by_cases hj' : j = m
          · subst hj'; exact hE.out.symm
          · exact hZ.out j (by omega))⟩
        case measure => simp [intOf]
      · have hb : ((x : Int) == 0) = false := by simp; omega
        go_wp2
        go_ret
        exact ⟨⟨_, m + 1, rfl, hn, fun _ => rfl, fun h => by omega, top_take (by have := hX.out; omega) (Or.inr (by have := hE.out; simp only [Nat.add_sub_cancel]; omega)), hZ.out⟩, rfl⟩

/-- What trim hands back reads as the row without the zeros at its top. -/
theorem trim_sl {k : IntKind} {w : World} {ao ao' : Option Addr} {len n : Nat} {xs : List Nat} (h : Sl k w ao len xs) (hn : n ≤ len) (ha : 0 < n → ao' = ao) : Sl k w ao' n (xs.take n) := by
  obtain ⟨h1, b, off, h2, h3⟩ := h
  refine ⟨by simp; omega, b, off, fun h0 => (ha h0).trans (h2 (by omega)), fun i hi => ?_⟩
  rw [h3 i (by omega)]
  simp [hi]

def DupPost (len : Nat) (xs : List Nat) (w : World) (e : Ending) (w' : World) : Prop :=
  (len = 0 ∧ e = .returned (.slice none 0 0) ∧ w = w') ∨
  (0 < len ∧ e = .returned (.slice (some ⟨w.heap.size, 0, none⟩) len len) ∧ Blk .u32 w' w.heap.size 104 xs ∧ Below w.heap.size w w' ∧ w.heap.size < w'.heap.size)

set_option maxHeartbeats 400000 in
theorem duplicate_any (ao : Option Addr) (len cap : Nat) (xs : List Nat) (w : World) (hs : Sl .u32 w ao len xs) (hl : len ≤ 1000000000) :
    Calls Try.prog 79 #[.slice ao len cap] w (DupPost len xs w) := by
  have hX := Lib.hid hs
  have hx := hs.len
  clear hs
  by_cases h0 : len = 0
  · have hb : ((len : Int) == 0) = true := by simp; omega
    have hx2 := Lib.hid hx
    clear hx
    subst h0
    go_enter Try.func79, Try.ntmps79
    go_wp2
    go_ret
    exact .inl ⟨rfl, rfl, rfl⟩
  · have hb : ((len : Int) == 0) = false := by simp; omega
    have hx2 := Lib.hid hx
    clear hx
    go_enter Try.func79, Try.ntmps79
    go_wp2_with (first
      | (at_make; refine wpList_mk rfl _ 22 rfl 104 .u32 4 Try.underlying22 (by kernel_rfl) _ len rfl rfl (by omega) (by omega) ?_; intro w1 hB1 hb1 hz1)
      | ((with_reducible show wpList _ _ _ _ _ _); refine wpList_cp rfl _ _ _ _ rfl 104 .u32 Try.underlying22 (by kernel_rfl) w.heap.size _ _ _ _ _ rfl rfl (List.replicate len 0) xs hB1 (hX.out.keep hb1) (Nat.le_refl _) (by simp) w.heap.size w hb1 (Nat.le_refl _) ?_; intro w2 hB2 hb2 hz2))
    go_ret
    refine .inr ⟨by omega, rfl, ?_, hb2, by omega⟩
    simpa using hB2

end Go.Proofs.Ytdnnjjclklcihaa
