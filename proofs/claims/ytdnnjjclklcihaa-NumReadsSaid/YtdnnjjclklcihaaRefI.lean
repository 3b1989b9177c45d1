/- The specification's Int. -/
import Derived.Test.YtdnnjjclklcihaaRaw
set_option linter.unusedVariables false
namespace Go.Proofs.Ytdnnjjclklcihaa
open Go.RowKit

theorem one_len {w : World} {ao : Option Addr} {len : Nat} (h : N16 w ao len 1) : len ≤ 1000000000 := Nat.le_trans (h.len_le (k := 1) (by decide)) (by decide)

set_option maxHeartbeats 1000000 in
theorem int16_neg (ao : Option Addr) (len cap : Nat) (k : Nat) (W : World) (h : N16 W ao len (k + 1)) (hl : len ≤ 1000000000) :
    Calls Try.prog 30 #[.agg #[.bool true, .slice ao len cap]] W (IntPost (-((k : Int) + 1)) W) := by
  have hf : Fr W (W.alloc (.cells #[.bool true, .slice ao len cap] 28)) [(28, #[.bool true, .slice ao len cap])] := (Fr.nil W).alloc rfl _ _
  have HA := Lib.hid (h.keep hf.below)
  have HL := Lib.hid h.lt
  clear h
  go_enter Try.func30, Try.ntmps30
  go_wp2_with fail
  obtain ⟨W3, hW3⟩ : ∃ W3, W3 = W.alloc (.cells #[.bool true, .slice ao len cap] 28) := ⟨_, rfl⟩
  rw [← hW3] at hf HA ⊢
  clear hW3
  have HF := Lib.hid hf
  clear hf
  have c0 : W3.cell? ⟨W.heap.size, 0, none⟩ = some (.bool true) := HF.out.cell 0 0 rfl rfl
  have c1 : W3.cell? ⟨W.heap.size, 1, none⟩ = some (.slice ao len cap) := HF.out.cell 0 1 rfl rfl
  by_cases hk : k ≤ 9223372036854775807
  · go_region_held3 (fun w' => w'.cell? ⟨W.heap.size, 0, none⟩ = some (.bool true) ∧ w'.cell? ⟨W.heap.size, 1, none⟩ = some (.slice ao len cap)) (go_keep)
      (first | (go_at_call 65; refine (of_any 1 1 W3.drew rfl (by decide)).mono ?_; rintro e u1 ⟨po, pl, pc, rfl, hlc1, hcm1, hp, hb1⟩; have HB1 := Lib.hid (below_of_drew hb1); have HP := Lib.hid hp; have hpl := one_len hp; have HF1 := Lib.hid (HF.out.later HB1.out); have HA1 := Lib.hid (HA.out.keep HB1.out); clear hb1 hp; have k0 : u1.cell? ⟨W.heap.size, 0, none⟩ = some (.bool true) := HF1.out.cell 0 0 rfl rfl; have k1 : u1.cell? ⟨W.heap.size, 1, none⟩ = some (.slice ao len cap) := HF1.out.cell 0 1 rfl rfl) | (go_at_call 77; refine (sub16_any _ _ _ _ _ _ (k + 1) 1 _ HA1.out HP.out hl (by omega)).mono ?_; rintro e u2 ⟨qo, ql, qc, rfl, hlc2, hcm2, hq, hb2⟩; have HF2 := Lib.hid (HF1.out.later hb2); have hq2 := (show k + 1 - 1 = k from rfl) ▸ hq; have hql : ql ≤ 1000000000 := Nat.le_trans (hq2.len_le (Nat.lt_of_le_of_lt (Nat.le_succ k) HL.out)) hl; have HQ := Lib.hid hq2; clear hb2 hq hq2; have j0 : u2.cell? ⟨W.heap.size, 0, none⟩ = some (.bool true) := HF2.out.cell 0 0 rfl rfl; have j1 : u2.cell? ⟨W.heap.size, 1, none⟩ = some (.slice ao len cap) := HF2.out.cell 0 1 rfl rfl) | (go_at_call 76; refine (toInt16_fit _ _ _ k _ HQ.out hql hk).mono ?_; rintro e u3 ⟨rfl, rfl⟩))
    go_wp2
    go_ret2
    refine ⟨?_, HF2.out.below⟩
    rw [if_pos (by omega)]
    have : -((k : Int) + 1) = -(k : Int) - 1 := by omega
    rw [this]
    rfl
  · go_region_held3 (fun w' => w'.cell? ⟨W.heap.size, 0, none⟩ = some (.bool true) ∧ w'.cell? ⟨W.heap.size, 1, none⟩ = some (.slice ao len cap)) (go_keep)
      (first | (go_at_call 65; refine (of_any 1 1 W3.drew rfl (by decide)).mono ?_; rintro e u1 ⟨po, pl, pc, rfl, hlc1, hcm1, hp, hb1⟩; have HB1 := Lib.hid (below_of_drew hb1); have HP := Lib.hid hp; have hpl := one_len hp; have HF1 := Lib.hid (HF.out.later HB1.out); have HA1 := Lib.hid (HA.out.keep HB1.out); clear hb1 hp; have k0 : u1.cell? ⟨W.heap.size, 0, none⟩ = some (.bool true) := HF1.out.cell 0 0 rfl rfl; have k1 : u1.cell? ⟨W.heap.size, 1, none⟩ = some (.slice ao len cap) := HF1.out.cell 0 1 rfl rfl) | (go_at_call 77; refine (sub16_any _ _ _ _ _ _ (k + 1) 1 _ HA1.out HP.out hl (by omega)).mono ?_; rintro e u2 ⟨qo, ql, qc, rfl, hlc2, hcm2, hq, hb2⟩; have HF2 := Lib.hid (HF1.out.later hb2); have hq2 := (show k + 1 - 1 = k from rfl) ▸ hq; have hql : ql ≤ 1000000000 := Nat.le_trans (hq2.len_le (Nat.lt_of_le_of_lt (Nat.le_succ k) HL.out)) hl; have HQ := Lib.hid hq2; clear hb2 hq hq2; have j0 : u2.cell? ⟨W.heap.size, 0, none⟩ = some (.bool true) := HF2.out.cell 0 0 rfl rfl; have j1 : u2.cell? ⟨W.heap.size, 1, none⟩ = some (.slice ao len cap) := HF2.out.cell 0 1 rfl rfl) | (go_at_call 76; refine (toInt16_out _ _ _ k _ HQ.out hql (by omega)).mono ?_; rintro e u3 ⟨rfl, rfl⟩))
    go_wp2
    go_ret2
    refine ⟨?_, HF2.out.below⟩
    rw [if_neg (by omega)]; rfl

set_option maxHeartbeats 1000000 in
theorem int16_pos (ao : Option Addr) (len cap : Nat) (k : Nat) (W : World) (h : N16 W ao len k) (hl : len ≤ 1000000000) :
    Calls Try.prog 30 #[.agg #[.bool false, .slice ao len cap]] W (IntPost (k : Int) W) := by
  have hf : Fr W (W.alloc (.cells #[.bool false, .slice ao len cap] 28)) [(28, #[.bool false, .slice ao len cap])] := (Fr.nil W).alloc rfl _ _
  have HA := Lib.hid (h.keep hf.below)
  have HF := Lib.hid hf
  clear h hf
  by_cases hk : k ≤ 9223372036854775807
  · go_enter Try.func30, Try.ntmps30
    go_wp2_with fail
    refine (toInt16_fit _ _ _ k _ HA.out hl hk).mono ?_
    rintro e u3 ⟨rfl, rfl⟩
    go_wp2
    go_ret2
    refine ⟨?_, HF.out.below⟩
    rw [if_pos (by omega)]; rfl
  · go_enter Try.func30, Try.ntmps30
    go_wp2_with fail
    refine (toInt16_out _ _ _ k _ HA.out hl (by omega)).mono ?_
    rintro e u3 ⟨rfl, rfl⟩
    go_wp2
    go_ret2
    refine ⟨?_, HF.out.below⟩
    rw [if_neg (by omega)]; rfl

theorem int16_any (neg : Bool) (ao : Option Addr) (len cap : Nat) (z : Int) (W : World) (h : Z16 W neg ao len z) (hl : len ≤ 1000000000) :
    Calls Try.prog 30 #[.agg #[.bool neg, .slice ao len cap]] W (IntPost z W) := by
  obtain ⟨n, hn, rfl, hp⟩ := h
  cases neg with
  | false => exact int16_pos ao len cap n W hn hl
  | true =>
    obtain ⟨k, rfl⟩ : ∃ k, n = k + 1 := ⟨n - 1, by have := hp rfl; omega⟩
    have e : sgn true (k + 1) = -((k : Int) + 1) := by simp [sgn]
    rw [e]
    exact int16_neg ao len cap k W hn hl
end Go.Proofs.Ytdnnjjclklcihaa
