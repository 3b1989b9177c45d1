/- The specification: Opp, Sub, Cmp. -/
import Derived.Test.YtdnnjjclklcihaaRefE
set_option linter.unusedVariables false
namespace Go.Proofs.Ytdnnjjclklcihaa
open Go.RowKit

theorem sgn_neg (s : Bool) (n : Nat) : -sgn s n = sgn (!s) n := by cases s <;> simp [sgn]

set_option maxHeartbeats 800000 in
theorem opp16_any (neg : Bool) (ao : Option Addr) (len cap : Nat) (z : Int) (W : World) (h : Z16 W neg ao len z) (hlc : len ≤ cap) (hcm : cap ≤ 9223372036854775807) :
    Calls Try.prog 33 #[.agg #[.bool neg, .slice ao len cap]] W (OutJ W (-z)) := by
  have hf : Fr W ((W.alloc (.cells #[.bool neg, .slice ao len cap] 28)).alloc (.cells #[.bool false, .slice none 0 0] 28))
      [(28, #[.bool neg, .slice ao len cap]), (28, #[.bool false, .slice none 0 0])] := ((Fr.nil W).alloc rfl _ _).alloc (by simp) _ _
  obtain ⟨n, hn, rfl, hp⟩ := h
  have HF := Lib.hid hf
  have HN := Lib.hid (hn.keep hf.below)
  clear hf hn hp
  rw [sgn_neg]
  go_enter Try.func33, Try.ntmps33
  go_wp2_with fail
  refine (made_any (!neg) _ _ _ n _ HN.out hlc hcm).mono ?_
  rintro e w1 ⟨s1, uo, ul, uc, rfl, huc, hum, hz1, hb1⟩
  have HF1 := Lib.hid (HF.out.later hb1)
  have HZ1 := Lib.hid hz1
  clear hz1 hb1
  have g0 : w1.cell? ⟨W.heap.size + 1, 0, none⟩ = some (.bool false) := HF1.out.cell 1 0 rfl rfl
  have g1 : w1.cell? ⟨W.heap.size + 1, 1, none⟩ = some (.slice none 0 0) := HF1.out.cell 1 1 rfl rfl
  have g2 : w1.frozen? ⟨W.heap.size + 1, 0, none⟩ = false := HF1.out.frozen 1 0 rfl
  have g3 : w1.frozen? ⟨W.heap.size + 1, 1, none⟩ = false := HF1.out.frozen 1 1 rfl
  go_wp2
  obtain ⟨e0, e1, hz, hbel, _⟩ := HF1.out.finJ (cap := uc) 1 rfl HZ1.out
  exact bodyPost_ret (v := .agg #[.bool s1, .slice uo ul uc]) (by simp [results, Try.results33, go_sem, e0, e1]) rfl ⟨s1, uo, ul, uc, rfl, huc, hum, hz, hbel⟩

set_option maxHeartbeats 2000000 in
theorem subZ16_any (na nb : Bool) (ao bo : Option Addr) (la lb ca cb : Nat) (x y : Int) (W : World) (ha : Z16 W na ao la x) (hb : Z16 W nb bo lb y) (hla : la ≤ 1000000000) (hlb : lb ≤ 1000000000) (hlc : lb ≤ cb) (hcm : cb ≤ 9223372036854775807) :
    Calls Try.prog 40 #[.agg #[.bool na, .slice ao la ca], .agg #[.bool nb, .slice bo lb cb]] W (OutJ W (x - y)) := by
  have hf : Fr W (((W.alloc (.cells #[.bool na, .slice ao la ca] 28)).alloc (.cells #[.bool nb, .slice bo lb cb] 28)).alloc (.cells #[.bool false, .slice none 0 0] 28))
      [(28, #[.bool na, .slice ao la ca]), (28, #[.bool nb, .slice bo lb cb]), (28, #[.bool false, .slice none 0 0])] :=
    (((Fr.nil W).alloc rfl _ _).alloc (by simp) _ _).alloc (by simp) _ _
  have HA := Lib.hid (ha.keep hf.below)
  have HB := Lib.hid (hb.keep hf.below)
  have HLT := Lib.hid hb.n16.lt
  clear ha hb
  rw [show x - y = x + -y from rfl]
  go_enter Try.func40, Try.ntmps40
  go_wp2_with fail
  obtain ⟨W3, hW3⟩ : ∃ W3, W3 = ((W.alloc (.cells #[.bool na, .slice ao la ca] 28)).alloc (.cells #[.bool nb, .slice bo lb cb] 28)).alloc (.cells #[.bool false, .slice none 0 0] 28) := ⟨_, rfl⟩
  rw [← hW3] at hf HA HB ⊢
  clear hW3
  have HF := Lib.hid hf
  clear hf
  have c0 : W3.cell? ⟨W.heap.size, 0, none⟩ = some (.bool na) := HF.out.cell 0 0 rfl rfl
  have c1 : W3.cell? ⟨W.heap.size, 1, none⟩ = some (.slice ao la ca) := HF.out.cell 0 1 rfl rfl
  have c2 : W3.cell? ⟨W.heap.size + 1, 0, none⟩ = some (.bool nb) := HF.out.cell 1 0 rfl rfl
  have c3 : W3.cell? ⟨W.heap.size + 1, 1, none⟩ = some (.slice bo lb cb) := HF.out.cell 1 1 rfl rfl
  go_region_held3 (fun w' => w'.cell? ⟨W.heap.size, 0, none⟩ = some (.bool na) ∧ w'.cell? ⟨W.heap.size, 1, none⟩ = some (.slice ao la ca) ∧ w'.cell? ⟨W.heap.size + 1, 0, none⟩ = some (.bool nb) ∧ w'.cell? ⟨W.heap.size + 1, 1, none⟩ = some (.slice bo lb cb)) (first | (go_keep; done) | ((try dsimp only); (repeat' apply And.intro) <;> (first | (go_keep; done) | (rw [cell_set2 _ _ _ _ _ _ (by omega)]; assumption))))
    (first | (go_at_call 33; refine (opp16_any _ _ _ _ y W3.drew (HB.out.keep ((Below.refl _ _).drew)) hlc hcm).mono ?_; rintro e u1 ⟨s1, po, pl, pc, rfl, hlc1, hcm1, hp, hb1⟩; have HB1 := Lib.hid (below_of_drew hb1); have HP := Lib.hid hp; have HF1 := Lib.hid (HF.out.later HB1.out); have HA1 := Lib.hid (HA.out.keep HB1.out); have hpl : pl ≤ 1000000000 := (by have h5 := HLT.out; have h6 := hp.n16; rw [Int.natAbs_neg] at h6; exact Nat.le_trans (h6.len_le h5) hlb); clear hb1 hp; have k0 : u1.cell? ⟨W.heap.size, 0, none⟩ = some (.bool na) := HF1.out.cell 0 0 rfl rfl; have k1 : u1.cell? ⟨W.heap.size, 1, none⟩ = some (.slice ao la ca) := HF1.out.cell 0 1 rfl rfl; have k2 : u1.cell? ⟨W.heap.size + 1, 0, none⟩ = some (.bool nb) := HF1.out.cell 1 0 rfl rfl; have k3 : u1.cell? ⟨W.heap.size + 1, 1, none⟩ = some (.slice bo lb cb) := HF1.out.cell 1 1 rfl rfl) | (go_at_call 39; refine (plus16_any _ _ _ _ _ _ _ _ x (-y) _ HA1.out HP.out hla hpl).mono ?_; rintro e u2 ⟨neg, so, sl, sc, rfl, hlc2, hcm2, hz, hb2⟩; have HF2 := Lib.hid (HF1.out.later hb2); have HZ := Lib.hid hz; clear hb2 hz; have j0 : u2.cell? ⟨W.heap.size, 0, none⟩ = some (.bool na) := HF2.out.cell 0 0 rfl rfl; have j1 : u2.cell? ⟨W.heap.size, 1, none⟩ = some (.slice ao la ca) := HF2.out.cell 0 1 rfl rfl; have j2 : u2.cell? ⟨W.heap.size + 1, 0, none⟩ = some (.bool nb) := HF2.out.cell 1 0 rfl rfl; have j3 : u2.cell? ⟨W.heap.size + 1, 1, none⟩ = some (.slice bo lb cb) := HF2.out.cell 1 1 rfl rfl; have g0 : u2.cell? ⟨W.heap.size + 2, 0, none⟩ = some (.bool false) := HF2.out.cell 2 0 rfl rfl; have g1 : u2.cell? ⟨W.heap.size + 2, 1, none⟩ = some (.slice none 0 0) := HF2.out.cell 2 1 rfl rfl; have g2 : u2.frozen? ⟨W.heap.size + 2, 0, none⟩ = false := HF2.out.frozen 2 0 rfl; have g3 : u2.frozen? ⟨W.heap.size + 2, 1, none⟩ = false := HF2.out.frozen 2 1 rfl))
  go_wp2
  obtain ⟨e0, e1, hz, hbel, _⟩ := HF2.out.finJ (cap := sc) 2 rfl HZ.out
  exact bodyPost_ret (v := .agg #[.bool neg, .slice so sl sc]) (by simp [results, Try.results40, go_sem, e0, e1]) rfl ⟨neg, so, sl, sc, rfl, hlc2, hcm2, hz, hbel⟩

set_option maxHeartbeats 800000 in
theorem cmpZ16_any (na nb : Bool) (ao bo : Option Addr) (la lb ca cb : Nat) (x y : Int) (W : World) (ha : Z16 W na ao la x) (hb : Z16 W nb bo lb y) (hla : la ≤ 1000000000) (hlb : lb ≤ 1000000000) (hlc : lb ≤ cb) (hcm : cb ≤ 9223372036854775807) :
    Calls Try.prog 38 #[.agg #[.bool na, .slice ao la ca], .agg #[.bool nb, .slice bo lb cb]] W (fun e w' => e = .returned (.int .i64 (x - y).sign) ∧ Below W.heap.size W w') := by
  have hf : Fr W ((W.alloc (.cells #[.bool na, .slice ao la ca] 28)).alloc (.cells #[.bool nb, .slice bo lb cb] 28))
      [(28, #[.bool na, .slice ao la ca]), (28, #[.bool nb, .slice bo lb cb])] := ((Fr.nil W).alloc rfl _ _).alloc (by simp) _ _
  have HA := Lib.hid (ha.keep hf.below)
  have HB := Lib.hid (hb.keep hf.below)
  have HF := Lib.hid hf
  clear ha hb hf
  go_enter Try.func38, Try.ntmps38
  go_wp2_with fail
  refine (subZ16_any _ _ _ _ _ _ _ _ x y _ HA.out HB.out hla hlb hlc hcm).mono ?_
  rintro e w1 ⟨s1, uo, ul, uc, rfl, huc, hum, hz1, hb1⟩
  have HF1 := Lib.hid (HF.out.later hb1)
  have HZ1 := Lib.hid hz1
  clear hz1 hb1
  go_wp2_with fail
  refine (sign16_any _ _ _ _ (x - y) _ HZ1.out).mono ?_
  rintro e w2 ⟨rfl, hb2⟩
  have HF2 := Lib.hid (HF1.out.later hb2)
  clear hb2
  go_wp2
  go_ret
  exact ⟨rfl, HF2.out.below⟩
end Go.Proofs.Ytdnnjjclklcihaa
