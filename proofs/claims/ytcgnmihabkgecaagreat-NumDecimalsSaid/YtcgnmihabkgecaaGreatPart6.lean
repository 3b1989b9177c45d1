/- Part 6 of the contracts: Plus, RefE, RefF, Whole, IntA, IntB, Par, Read. -/
import Derived.Test.YtcgnmihabkgecaaGreatPart5

/- plus. -/
set_option linter.unusedVariables false
namespace Go.Proofs.YtcgnmihabkgecaaGreat
open Go.RowKit

theorem sgn_add (s : Bool) (m n : Nat) : sgn s m + sgn s n = sgn s (m + n) := by cases s <;> simp [sgn]; omega
theorem sgn_lt (s : Bool) {m n : Nat} (h : m < n) : sgn s m + sgn (!s) n = sgn (!s) (n - m) := by cases s <;> simp [sgn] <;> omega
theorem sgn_ge (s : Bool) {m n : Nat} (h : n ≤ m) : sgn s m + sgn (!s) n = sgn s (m - n) := by cases s <;> simp [sgn] <;> omega

set_option maxHeartbeats 2000000 in
theorem plus_same (s : Bool) (ao bo : Option Addr) (la lb ca cb : Nat) (m n : Nat) (W : World) (hm : N32 W ao la m) (hn : N32 W bo lb n) (hla : la ≤ 1000000000) (hlb : lb ≤ 1000000000) :
    Calls Tryz.prog 58 #[.agg #[.bool s, .slice ao la ca], .agg #[.bool s, .slice bo lb cb]] W (OutI W (sgn s (m + n))) := by
  have hf : Fr W (((W.alloc (.cells #[.bool s, .slice ao la ca] 25)).alloc (.cells #[.bool s, .slice bo lb cb] 25)).alloc (.cells #[.bool false, .slice none 0 0] 25))
      [(25, #[.bool s, .slice ao la ca]), (25, #[.bool s, .slice bo lb cb]), (25, #[.bool false, .slice none 0 0])] :=
    (((Fr.nil W).alloc rfl _ _).alloc (by simp) _ _).alloc (by simp) _ _
  have HM := Lib.hid (hm.keep hf.below)
  have HN := Lib.hid (hn.keep hf.below)
  clear hm hn
  go_enter Tryz.func58, Tryz.ntmps58
  go_wp2_with fail
  obtain ⟨W3, hW3⟩ : ∃ W3, W3 = ((W.alloc (.cells #[.bool s, .slice ao la ca] 25)).alloc (.cells #[.bool s, .slice bo lb cb] 25)).alloc (.cells #[.bool false, .slice none 0 0] 25) := ⟨_, rfl⟩
  rw [← hW3] at hf HM HN ⊢
  clear hW3
  have HF := Lib.hid hf
  clear hf
  have c0 : W3.cell? ⟨W.heap.size, 0, none⟩ = some (.bool s) := HF.out.cell 0 0 rfl rfl
  have c1 : W3.cell? ⟨W.heap.size, 1, none⟩ = some (.slice ao la ca) := HF.out.cell 0 1 rfl rfl
  have c2 : W3.cell? ⟨W.heap.size + 1, 0, none⟩ = some (.bool s) := HF.out.cell 1 0 rfl rfl
  have c3 : W3.cell? ⟨W.heap.size + 1, 1, none⟩ = some (.slice bo lb cb) := HF.out.cell 1 1 rfl rfl
  go_region_held3 (fun w' => w'.cell? ⟨W.heap.size, 0, none⟩ = some (.bool s) ∧ w'.cell? ⟨W.heap.size, 1, none⟩ = some (.slice ao la ca) ∧ w'.cell? ⟨W.heap.size + 1, 0, none⟩ = some (.bool s) ∧ w'.cell? ⟨W.heap.size + 1, 1, none⟩ = some (.slice bo lb cb)) (first | (go_keep; done) | ((try dsimp only); (repeat' apply And.intro) <;> (first | (go_keep; done) | (rw [cell_set2 _ _ _ _ _ _ (by omega)]; assumption))))
    (first | (go_at_call 66; refine (sum_any _ _ _ _ _ _ m n W3.drew HM.out HN.out hla hlb).mono ?_; rintro e u1 ⟨po, pl, pc, rfl, hp, hb1⟩; have HB1 := Lib.hid (below_of_drew hb1); have HP := Lib.hid hp; have HF1 := Lib.hid (HF.out.later HB1.out); clear hb1 hp; have k0 : u1.cell? ⟨W.heap.size, 0, none⟩ = some (.bool s) := HF1.out.cell 0 0 rfl rfl; have k1 : u1.cell? ⟨W.heap.size, 1, none⟩ = some (.slice ao la ca) := HF1.out.cell 0 1 rfl rfl; have k2 : u1.cell? ⟨W.heap.size + 1, 0, none⟩ = some (.bool s) := HF1.out.cell 1 0 rfl rfl; have k3 : u1.cell? ⟨W.heap.size + 1, 1, none⟩ = some (.slice bo lb cb) := HF1.out.cell 1 1 rfl rfl) | (go_at_call 46; refine (signed_any s _ _ _ (m + n) _ HP.out).mono ?_; rintro e u2 ⟨neg, so, sl, sc, rfl, hz, hb2⟩; have HF2 := Lib.hid (HF1.out.later hb2); have HZ := Lib.hid hz; clear hb2 hz; have j0 : u2.cell? ⟨W.heap.size, 0, none⟩ = some (.bool s) := HF2.out.cell 0 0 rfl rfl; have j1 : u2.cell? ⟨W.heap.size, 1, none⟩ = some (.slice ao la ca) := HF2.out.cell 0 1 rfl rfl; have j2 : u2.cell? ⟨W.heap.size + 1, 0, none⟩ = some (.bool s) := HF2.out.cell 1 0 rfl rfl; have j3 : u2.cell? ⟨W.heap.size + 1, 1, none⟩ = some (.slice bo lb cb) := HF2.out.cell 1 1 rfl rfl; have g0 : u2.cell? ⟨W.heap.size + 2, 0, none⟩ = some (.bool false) := HF2.out.cell 2 0 rfl rfl; have g1 : u2.cell? ⟨W.heap.size + 2, 1, none⟩ = some (.slice none 0 0) := HF2.out.cell 2 1 rfl rfl; have g2 : u2.frozen? ⟨W.heap.size + 2, 0, none⟩ = false := HF2.out.frozen 2 0 rfl; have g3 : u2.frozen? ⟨W.heap.size + 2, 1, none⟩ = false := HF2.out.frozen 2 1 rfl))
  go_wp2
  obtain ⟨e0, e1, hz, hbel, _⟩ := HF2.out.finI (cap := sc) 2 rfl HZ.out
  exact bodyPost_ret (v := .agg #[.bool neg, .slice so sl sc]) (by simp [results, Tryz.results58, go_sem, e0, e1]) rfl ⟨neg, so, sl, sc, rfl, hz, hbel⟩

set_option maxHeartbeats 2000000 in
theorem plus_lt (s : Bool) (ao bo : Option Addr) (la lb ca cb : Nat) (m n : Nat) (W : World) (hm : N32 W ao la m) (hn : N32 W bo lb n) (hla : la ≤ 1000000000) (hlb : lb ≤ 1000000000) (hlt : m < n) :
    Calls Tryz.prog 58 #[.agg #[.bool s, .slice ao la ca], .agg #[.bool (!s), .slice bo lb cb]] W (OutI W (sgn (!s) (n - m))) := by
  have hf : Fr W (((W.alloc (.cells #[.bool s, .slice ao la ca] 25)).alloc (.cells #[.bool (!s), .slice bo lb cb] 25)).alloc (.cells #[.bool false, .slice none 0 0] 25))
      [(25, #[.bool s, .slice ao la ca]), (25, #[.bool (!s), .slice bo lb cb]), (25, #[.bool false, .slice none 0 0])] :=
    (((Fr.nil W).alloc rfl _ _).alloc (by simp) _ _).alloc (by simp) _ _
  have HM := Lib.hid (hm.keep hf.below)
  have HN := Lib.hid (hn.keep hf.below)
  clear hm hn
  have hbb : (s == !s) = false := by cases s <;> rfl
  go_enter Tryz.func58, Tryz.ntmps58
  go_wp2_with fail
  obtain ⟨W3, hW3⟩ : ∃ W3, W3 = ((W.alloc (.cells #[.bool s, .slice ao la ca] 25)).alloc (.cells #[.bool (!s), .slice bo lb cb] 25)).alloc (.cells #[.bool false, .slice none 0 0] 25) := ⟨_, rfl⟩
  rw [← hW3] at hf HM HN ⊢
  clear hW3
  have HF0 := Lib.hid hf
  clear hf
  have c0 : W3.cell? ⟨W.heap.size, 0, none⟩ = some (.bool s) := HF0.out.cell 0 0 rfl rfl
  have c1 : W3.cell? ⟨W.heap.size, 1, none⟩ = some (.slice ao la ca) := HF0.out.cell 0 1 rfl rfl
  have c2 : W3.cell? ⟨W.heap.size + 1, 0, none⟩ = some (.bool (!s)) := HF0.out.cell 1 0 rfl rfl
  have c3 : W3.cell? ⟨W.heap.size + 1, 1, none⟩ = some (.slice bo lb cb) := HF0.out.cell 1 1 rfl rfl
  go_wp2_with fail
  refine (compare_any _ _ _ _ _ _ m n W3 HM.out HN.out hla hlb).mono ?_
  rintro e w1 ⟨rfl, hdr⟩
  rw [cmpN_lt hlt]
  have HF := Lib.hid (HF0.out.later hdr.below)
  have HM1 := Lib.hid (HM.out.keep hdr.below)
  have HN1 := Lib.hid (HN.out.keep hdr.below)
  clear hdr c0 c1 c2 c3
  have d0 : w1.cell? ⟨W.heap.size, 0, none⟩ = some (.bool s) := HF.out.cell 0 0 rfl rfl
  have d1 : w1.cell? ⟨W.heap.size, 1, none⟩ = some (.slice ao la ca) := HF.out.cell 0 1 rfl rfl
  have d2 : w1.cell? ⟨W.heap.size + 1, 0, none⟩ = some (.bool (!s)) := HF.out.cell 1 0 rfl rfl
  have d3 : w1.cell? ⟨W.heap.size + 1, 1, none⟩ = some (.slice bo lb cb) := HF.out.cell 1 1 rfl rfl
  go_wp2_with fail
  go_region_held3 (fun w' => w'.cell? ⟨W.heap.size, 0, none⟩ = some (.bool s) ∧ w'.cell? ⟨W.heap.size, 1, none⟩ = some (.slice ao la ca) ∧ w'.cell? ⟨W.heap.size + 1, 0, none⟩ = some (.bool (!s)) ∧ w'.cell? ⟨W.heap.size + 1, 1, none⟩ = some (.slice bo lb cb)) (first | (go_keep; done) | ((try dsimp only); (repeat' apply And.intro) <;> (first | (go_keep; done) | (rw [cell_set2 _ _ _ _ _ _ (by omega)]; assumption))))
    (first | (go_at_call 72; refine (difference_any _ _ _ _ _ _ n m w1.drew HN1.out HM1.out hlb (Nat.le_of_lt hlt)).mono ?_; rintro e u1 ⟨po, pl, pc, rfl, hp, hb1⟩; have HB1 := Lib.hid (below_of_drew hb1); have HP := Lib.hid hp; have HF1 := Lib.hid (HF.out.later HB1.out); clear hb1 hp; have k0 : u1.cell? ⟨W.heap.size, 0, none⟩ = some (.bool s) := HF1.out.cell 0 0 rfl rfl; have k1 : u1.cell? ⟨W.heap.size, 1, none⟩ = some (.slice ao la ca) := HF1.out.cell 0 1 rfl rfl; have k2 : u1.cell? ⟨W.heap.size + 1, 0, none⟩ = some (.bool (!s)) := HF1.out.cell 1 0 rfl rfl; have k3 : u1.cell? ⟨W.heap.size + 1, 1, none⟩ = some (.slice bo lb cb) := HF1.out.cell 1 1 rfl rfl) | (go_at_call 46; refine (signed_any (!s) _ _ _ (n - m) _ HP.out).mono ?_; rintro e u2 ⟨neg, so, sl, sc, rfl, hz, hb2⟩; have HF2 := Lib.hid (HF1.out.later hb2); have HZ := Lib.hid hz; clear hb2 hz; have j0 : u2.cell? ⟨W.heap.size, 0, none⟩ = some (.bool s) := HF2.out.cell 0 0 rfl rfl; have j1 : u2.cell? ⟨W.heap.size, 1, none⟩ = some (.slice ao la ca) := HF2.out.cell 0 1 rfl rfl; have j2 : u2.cell? ⟨W.heap.size + 1, 0, none⟩ = some (.bool (!s)) := HF2.out.cell 1 0 rfl rfl; have j3 : u2.cell? ⟨W.heap.size + 1, 1, none⟩ = some (.slice bo lb cb) := HF2.out.cell 1 1 rfl rfl; have g0 : u2.cell? ⟨W.heap.size + 2, 0, none⟩ = some (.bool false) := HF2.out.cell 2 0 rfl rfl; have g1 : u2.cell? ⟨W.heap.size + 2, 1, none⟩ = some (.slice none 0 0) := HF2.out.cell 2 1 rfl rfl; have g2 : u2.frozen? ⟨W.heap.size + 2, 0, none⟩ = false := HF2.out.frozen 2 0 rfl; have g3 : u2.frozen? ⟨W.heap.size + 2, 1, none⟩ = false := HF2.out.frozen 2 1 rfl))
  go_wp2
  obtain ⟨e0, e1, hz, hbel, _⟩ := HF2.out.finI (cap := sc) 2 rfl HZ.out
  exact bodyPost_ret (v := .agg #[.bool neg, .slice so sl sc]) (by simp [results, Tryz.results58, go_sem, e0, e1]) rfl ⟨neg, so, sl, sc, rfl, hz, hbel⟩

set_option maxHeartbeats 2000000 in
theorem plus_ge (s : Bool) (ao bo : Option Addr) (la lb ca cb : Nat) (m n : Nat) (W : World) (hm : N32 W ao la m) (hn : N32 W bo lb n) (hla : la ≤ 1000000000) (hlb : lb ≤ 1000000000) (hlt : n ≤ m) :
    Calls Tryz.prog 58 #[.agg #[.bool s, .slice ao la ca], .agg #[.bool (!s), .slice bo lb cb]] W (OutI W (sgn s (m - n))) := by
  have hf : Fr W (((W.alloc (.cells #[.bool s, .slice ao la ca] 25)).alloc (.cells #[.bool (!s), .slice bo lb cb] 25)).alloc (.cells #[.bool false, .slice none 0 0] 25))
      [(25, #[.bool s, .slice ao la ca]), (25, #[.bool (!s), .slice bo lb cb]), (25, #[.bool false, .slice none 0 0])] :=
    (((Fr.nil W).alloc rfl _ _).alloc (by simp) _ _).alloc (by simp) _ _
  have HM := Lib.hid (hm.keep hf.below)
  have HN := Lib.hid (hn.keep hf.below)
  clear hm hn
  have hbb : (s == !s) = false := by cases s <;> rfl
  go_enter Tryz.func58, Tryz.ntmps58
  go_wp2_with fail
  obtain ⟨W3, hW3⟩ : ∃ W3, W3 = ((W.alloc (.cells #[.bool s, .slice ao la ca] 25)).alloc (.cells #[.bool (!s), .slice bo lb cb] 25)).alloc (.cells #[.bool false, .slice none 0 0] 25) := ⟨_, rfl⟩
  rw [← hW3] at hf HM HN ⊢
  clear hW3
  have HF0 := Lib.hid hf
  clear hf
  have c0 : W3.cell? ⟨W.heap.size, 0, none⟩ = some (.bool s) := HF0.out.cell 0 0 rfl rfl
  have c1 : W3.cell? ⟨W.heap.size, 1, none⟩ = some (.slice ao la ca) := HF0.out.cell 0 1 rfl rfl
  have c2 : W3.cell? ⟨W.heap.size + 1, 0, none⟩ = some (.bool (!s)) := HF0.out.cell 1 0 rfl rfl
  have c3 : W3.cell? ⟨W.heap.size + 1, 1, none⟩ = some (.slice bo lb cb) := HF0.out.cell 1 1 rfl rfl
  go_wp2_with fail
  refine (compare_any _ _ _ _ _ _ m n W3 HM.out HN.out hla hlb).mono ?_
  rintro e w1 ⟨rfl, hdr⟩
  obtain ⟨z, hz⟩ : ∃ z, z = cmpN m n := ⟨_, rfl⟩
  rw [← hz]
  have tz : 0 ≤ z := by rw [hz]; unfold cmpN; rw [if_neg (by omega)]; split <;> decide
  have tn : ¬ z < 0 := by omega
  clear hz
  have HF := Lib.hid (HF0.out.later hdr.below)
  have HM1 := Lib.hid (HM.out.keep hdr.below)
  have HN1 := Lib.hid (HN.out.keep hdr.below)
  clear hdr c0 c1 c2 c3
  have d0 : w1.cell? ⟨W.heap.size, 0, none⟩ = some (.bool s) := HF.out.cell 0 0 rfl rfl
  have d1 : w1.cell? ⟨W.heap.size, 1, none⟩ = some (.slice ao la ca) := HF.out.cell 0 1 rfl rfl
  have d2 : w1.cell? ⟨W.heap.size + 1, 0, none⟩ = some (.bool (!s)) := HF.out.cell 1 0 rfl rfl
  have d3 : w1.cell? ⟨W.heap.size + 1, 1, none⟩ = some (.slice bo lb cb) := HF.out.cell 1 1 rfl rfl
  go_wp2_with fail
  go_region_held3 (fun w' => w'.cell? ⟨W.heap.size, 0, none⟩ = some (.bool s) ∧ w'.cell? ⟨W.heap.size, 1, none⟩ = some (.slice ao la ca) ∧ w'.cell? ⟨W.heap.size + 1, 0, none⟩ = some (.bool (!s)) ∧ w'.cell? ⟨W.heap.size + 1, 1, none⟩ = some (.slice bo lb cb)) (first | (go_keep; done) | ((try dsimp only); (repeat' apply And.intro) <;> (first | (go_keep; done) | (rw [cell_set2 _ _ _ _ _ _ (by omega)]; assumption))))
    (first | (go_at_call 72; refine (difference_any _ _ _ _ _ _ m n w1.drew HM1.out HN1.out hla hlt).mono ?_; rintro e u1 ⟨po, pl, pc, rfl, hp, hb1⟩; have HB1 := Lib.hid (below_of_drew hb1); have HP := Lib.hid hp; have HF1 := Lib.hid (HF.out.later HB1.out); clear hb1 hp; have k0 : u1.cell? ⟨W.heap.size, 0, none⟩ = some (.bool s) := HF1.out.cell 0 0 rfl rfl; have k1 : u1.cell? ⟨W.heap.size, 1, none⟩ = some (.slice ao la ca) := HF1.out.cell 0 1 rfl rfl; have k2 : u1.cell? ⟨W.heap.size + 1, 0, none⟩ = some (.bool (!s)) := HF1.out.cell 1 0 rfl rfl; have k3 : u1.cell? ⟨W.heap.size + 1, 1, none⟩ = some (.slice bo lb cb) := HF1.out.cell 1 1 rfl rfl) | (go_at_call 46; refine (signed_any s _ _ _ (m - n) _ HP.out).mono ?_; rintro e u2 ⟨neg, so, sl, sc, rfl, hz, hb2⟩; have HF2 := Lib.hid (HF1.out.later hb2); have HZ := Lib.hid hz; clear hb2 hz; have j0 : u2.cell? ⟨W.heap.size, 0, none⟩ = some (.bool s) := HF2.out.cell 0 0 rfl rfl; have j1 : u2.cell? ⟨W.heap.size, 1, none⟩ = some (.slice ao la ca) := HF2.out.cell 0 1 rfl rfl; have j2 : u2.cell? ⟨W.heap.size + 1, 0, none⟩ = some (.bool (!s)) := HF2.out.cell 1 0 rfl rfl; have j3 : u2.cell? ⟨W.heap.size + 1, 1, none⟩ = some (.slice bo lb cb) := HF2.out.cell 1 1 rfl rfl; have g0 : u2.cell? ⟨W.heap.size + 2, 0, none⟩ = some (.bool false) := HF2.out.cell 2 0 rfl rfl; have g1 : u2.cell? ⟨W.heap.size + 2, 1, none⟩ = some (.slice none 0 0) := HF2.out.cell 2 1 rfl rfl; have g2 : u2.frozen? ⟨W.heap.size + 2, 0, none⟩ = false := HF2.out.frozen 2 0 rfl; have g3 : u2.frozen? ⟨W.heap.size + 2, 1, none⟩ = false := HF2.out.frozen 2 1 rfl))
  go_wp2
  obtain ⟨e0, e1, hz, hbel, _⟩ := HF2.out.finI (cap := sc) 2 rfl HZ.out
  exact bodyPost_ret (v := .agg #[.bool neg, .slice so sl sc]) (by simp [results, Tryz.results58, go_sem, e0, e1]) rfl ⟨neg, so, sl, sc, rfl, hz, hbel⟩

theorem plus_any (na nb : Bool) (ao bo : Option Addr) (la lb ca cb : Nat) (x y : Int) (W : World) (ha : Z32 W na ao la x) (hb : Z32 W nb bo lb y) (hla : la ≤ 1000000000) (hlb : lb ≤ 1000000000) :
    Calls Tryz.prog 58 #[.agg #[.bool na, .slice ao la ca], .agg #[.bool nb, .slice bo lb cb]] W (OutI W (x + y)) := by
  obtain ⟨m, hm, rfl, hpm⟩ := ha
  obtain ⟨n, hn, rfl, hpn⟩ := hb
  by_cases h : na = nb
  · subst h
    rw [sgn_add]
    exact plus_same na ao bo la lb ca cb m n W hm hn hla hlb
  · obtain rfl : nb = !na := by cases na <;> cases nb <;> simp_all
    rcases Nat.lt_or_ge m n with hlt | hlt
    · rw [sgn_lt na hlt]
      exact plus_lt na ao bo la lb ca cb m n W hm hn hla hlb hlt
    · rw [sgn_ge na hlt]
      exact plus_ge na ao bo la lb ca cb m n W hm hn hla hlb hlt
end Go.Proofs.YtcgnmihabkgecaaGreat

/- The specification: Add. -/
set_option linter.unusedVariables false
namespace Go.Proofs.YtcgnmihabkgecaaGreat
open Go.RowKit

set_option maxHeartbeats 2000000 in
theorem plus16_same (s : Bool) (ao bo : Option Addr) (la lb ca cb : Nat) (m n : Nat) (W : World) (hm : N16 W ao la m) (hn : N16 W bo lb n) (hla : la ≤ 1000000000) (hlb : lb ≤ 1000000000) :
    Calls Tryz.prog 115 #[.agg #[.bool s, .slice ao la ca], .agg #[.bool s, .slice bo lb cb]] W (OutJ W (sgn s (m + n))) := by
  have hf : Fr W (((W.alloc (.cells #[.bool s, .slice ao la ca] 33)).alloc (.cells #[.bool s, .slice bo lb cb] 33)).alloc (.cells #[.bool false, .slice none 0 0] 33))
      [(33, #[.bool s, .slice ao la ca]), (33, #[.bool s, .slice bo lb cb]), (33, #[.bool false, .slice none 0 0])] :=
    (((Fr.nil W).alloc rfl _ _).alloc (by simp) _ _).alloc (by simp) _ _
  have HM := Lib.hid (hm.keep hf.below)
  have HN := Lib.hid (hn.keep hf.below)
  clear hm hn
  go_enter Tryz.func115, Tryz.ntmps115
  go_wp2_with fail
  obtain ⟨W3, hW3⟩ : ∃ W3, W3 = ((W.alloc (.cells #[.bool s, .slice ao la ca] 33)).alloc (.cells #[.bool s, .slice bo lb cb] 33)).alloc (.cells #[.bool false, .slice none 0 0] 33) := ⟨_, rfl⟩
  rw [← hW3] at hf HM HN ⊢
  clear hW3
  have HF := Lib.hid hf
  clear hf
  have c0 : W3.cell? ⟨W.heap.size, 0, none⟩ = some (.bool s) := HF.out.cell 0 0 rfl rfl
  have c1 : W3.cell? ⟨W.heap.size, 1, none⟩ = some (.slice ao la ca) := HF.out.cell 0 1 rfl rfl
  have c2 : W3.cell? ⟨W.heap.size + 1, 0, none⟩ = some (.bool s) := HF.out.cell 1 0 rfl rfl
  have c3 : W3.cell? ⟨W.heap.size + 1, 1, none⟩ = some (.slice bo lb cb) := HF.out.cell 1 1 rfl rfl
  go_region_held3 (fun w' => w'.cell? ⟨W.heap.size, 0, none⟩ = some (.bool s) ∧ w'.cell? ⟨W.heap.size, 1, none⟩ = some (.slice ao la ca) ∧ w'.cell? ⟨W.heap.size + 1, 0, none⟩ = some (.bool s) ∧ w'.cell? ⟨W.heap.size + 1, 1, none⟩ = some (.slice bo lb cb)) (first | (go_keep; done) | ((try dsimp only); (repeat' apply And.intro) <;> (first | (go_keep; done) | (rw [cell_set2 _ _ _ _ _ _ (by omega)]; assumption))))
    (first | (go_at_call 84; refine (add_any _ _ _ _ _ _ m n W3.drew HM.out HN.out hla hlb).mono ?_; rintro e u1 ⟨po, pl, pc, rfl, hlc1, hcm1, hp, hb1⟩; have HB1 := Lib.hid (below_of_drew hb1); have HP := Lib.hid hp; have HF1 := Lib.hid (HF.out.later HB1.out); clear hb1 hp; have k0 : u1.cell? ⟨W.heap.size, 0, none⟩ = some (.bool s) := HF1.out.cell 0 0 rfl rfl; have k1 : u1.cell? ⟨W.heap.size, 1, none⟩ = some (.slice ao la ca) := HF1.out.cell 0 1 rfl rfl; have k2 : u1.cell? ⟨W.heap.size + 1, 0, none⟩ = some (.bool s) := HF1.out.cell 1 0 rfl rfl; have k3 : u1.cell? ⟨W.heap.size + 1, 1, none⟩ = some (.slice bo lb cb) := HF1.out.cell 1 1 rfl rfl) | (go_at_call 53; refine (made_any s _ _ _ (m + n) _ HP.out hlc1 hcm1).mono ?_; rintro e u2 ⟨neg, so, sl, sc, rfl, hlc2, hcm2, hz, hb2⟩; have HF2 := Lib.hid (HF1.out.later hb2); have HZ := Lib.hid hz; clear hb2 hz; have j0 : u2.cell? ⟨W.heap.size, 0, none⟩ = some (.bool s) := HF2.out.cell 0 0 rfl rfl; have j1 : u2.cell? ⟨W.heap.size, 1, none⟩ = some (.slice ao la ca) := HF2.out.cell 0 1 rfl rfl; have j2 : u2.cell? ⟨W.heap.size + 1, 0, none⟩ = some (.bool s) := HF2.out.cell 1 0 rfl rfl; have j3 : u2.cell? ⟨W.heap.size + 1, 1, none⟩ = some (.slice bo lb cb) := HF2.out.cell 1 1 rfl rfl; have g0 : u2.cell? ⟨W.heap.size + 2, 0, none⟩ = some (.bool false) := HF2.out.cell 2 0 rfl rfl; have g1 : u2.cell? ⟨W.heap.size + 2, 1, none⟩ = some (.slice none 0 0) := HF2.out.cell 2 1 rfl rfl; have g2 : u2.frozen? ⟨W.heap.size + 2, 0, none⟩ = false := HF2.out.frozen 2 0 rfl; have g3 : u2.frozen? ⟨W.heap.size + 2, 1, none⟩ = false := HF2.out.frozen 2 1 rfl))
  go_wp2
  obtain ⟨e0, e1, hz, hbel, _⟩ := HF2.out.finJ (cap := sc) 2 rfl HZ.out
  exact bodyPost_ret (v := .agg #[.bool neg, .slice so sl sc]) (by simp [results, Tryz.results115, go_sem, e0, e1]) rfl ⟨neg, so, sl, sc, rfl, hlc2, hcm2, hz, hbel⟩

set_option maxHeartbeats 2000000 in
theorem plus16_lt (s : Bool) (ao bo : Option Addr) (la lb ca cb : Nat) (m n : Nat) (W : World) (hm : N16 W ao la m) (hn : N16 W bo lb n) (hla : la ≤ 1000000000) (hlb : lb ≤ 1000000000) (hlt : m < n) :
    Calls Tryz.prog 115 #[.agg #[.bool s, .slice ao la ca], .agg #[.bool (!s), .slice bo lb cb]] W (OutJ W (sgn (!s) (n - m))) := by
  have hf : Fr W (((W.alloc (.cells #[.bool s, .slice ao la ca] 33)).alloc (.cells #[.bool (!s), .slice bo lb cb] 33)).alloc (.cells #[.bool false, .slice none 0 0] 33))
      [(33, #[.bool s, .slice ao la ca]), (33, #[.bool (!s), .slice bo lb cb]), (33, #[.bool false, .slice none 0 0])] :=
    (((Fr.nil W).alloc rfl _ _).alloc (by simp) _ _).alloc (by simp) _ _
  have HM := Lib.hid (hm.keep hf.below)
  have HN := Lib.hid (hn.keep hf.below)
  clear hm hn
  have hbb : (s == !s) = false := by cases s <;> rfl
  go_enter Tryz.func115, Tryz.ntmps115
  go_wp2_with fail
  obtain ⟨W3, hW3⟩ : ∃ W3, W3 = ((W.alloc (.cells #[.bool s, .slice ao la ca] 33)).alloc (.cells #[.bool (!s), .slice bo lb cb] 33)).alloc (.cells #[.bool false, .slice none 0 0] 33) := ⟨_, rfl⟩
  rw [← hW3] at hf HM HN ⊢
  clear hW3
  have HF0 := Lib.hid hf
  clear hf
  have c0 : W3.cell? ⟨W.heap.size, 0, none⟩ = some (.bool s) := HF0.out.cell 0 0 rfl rfl
  have c1 : W3.cell? ⟨W.heap.size, 1, none⟩ = some (.slice ao la ca) := HF0.out.cell 0 1 rfl rfl
  have c2 : W3.cell? ⟨W.heap.size + 1, 0, none⟩ = some (.bool (!s)) := HF0.out.cell 1 0 rfl rfl
  have c3 : W3.cell? ⟨W.heap.size + 1, 1, none⟩ = some (.slice bo lb cb) := HF0.out.cell 1 1 rfl rfl
  go_wp2_with fail
  refine (cmp16_any _ _ _ _ _ _ m n W3 HM.out HN.out hla hlb).mono ?_
  rintro e w1 ⟨rfl, hdr⟩
  rw [cmpN_lt hlt]
  have HF := Lib.hid (HF0.out.later hdr.below)
  have HM1 := Lib.hid (HM.out.keep hdr.below)
  have HN1 := Lib.hid (HN.out.keep hdr.below)
  clear hdr c0 c1 c2 c3
  have d0 : w1.cell? ⟨W.heap.size, 0, none⟩ = some (.bool s) := HF.out.cell 0 0 rfl rfl
  have d1 : w1.cell? ⟨W.heap.size, 1, none⟩ = some (.slice ao la ca) := HF.out.cell 0 1 rfl rfl
  have d2 : w1.cell? ⟨W.heap.size + 1, 0, none⟩ = some (.bool (!s)) := HF.out.cell 1 0 rfl rfl
  have d3 : w1.cell? ⟨W.heap.size + 1, 1, none⟩ = some (.slice bo lb cb) := HF.out.cell 1 1 rfl rfl
  go_wp2_with fail
  go_region_held3 (fun w' => w'.cell? ⟨W.heap.size, 0, none⟩ = some (.bool s) ∧ w'.cell? ⟨W.heap.size, 1, none⟩ = some (.slice ao la ca) ∧ w'.cell? ⟨W.heap.size + 1, 0, none⟩ = some (.bool (!s)) ∧ w'.cell? ⟨W.heap.size + 1, 1, none⟩ = some (.slice bo lb cb)) (first | (go_keep; done) | ((try dsimp only); (repeat' apply And.intro) <;> (first | (go_keep; done) | (rw [cell_set2 _ _ _ _ _ _ (by omega)]; assumption))))
    (first | (go_at_call 113; refine (sub16_any _ _ _ _ _ _ n m w1.drew HN1.out HM1.out hlb (Nat.le_of_lt hlt)).mono ?_; rintro e u1 ⟨po, pl, pc, rfl, hlc1, hcm1, hp, hb1⟩; have HB1 := Lib.hid (below_of_drew hb1); have HP := Lib.hid hp; have HF1 := Lib.hid (HF.out.later HB1.out); clear hb1 hp; have k0 : u1.cell? ⟨W.heap.size, 0, none⟩ = some (.bool s) := HF1.out.cell 0 0 rfl rfl; have k1 : u1.cell? ⟨W.heap.size, 1, none⟩ = some (.slice ao la ca) := HF1.out.cell 0 1 rfl rfl; have k2 : u1.cell? ⟨W.heap.size + 1, 0, none⟩ = some (.bool (!s)) := HF1.out.cell 1 0 rfl rfl; have k3 : u1.cell? ⟨W.heap.size + 1, 1, none⟩ = some (.slice bo lb cb) := HF1.out.cell 1 1 rfl rfl) | (go_at_call 53; refine (made_any (!s) _ _ _ (n - m) _ HP.out hlc1 hcm1).mono ?_; rintro e u2 ⟨neg, so, sl, sc, rfl, hlc2, hcm2, hz, hb2⟩; have HF2 := Lib.hid (HF1.out.later hb2); have HZ := Lib.hid hz; clear hb2 hz; have j0 : u2.cell? ⟨W.heap.size, 0, none⟩ = some (.bool s) := HF2.out.cell 0 0 rfl rfl; have j1 : u2.cell? ⟨W.heap.size, 1, none⟩ = some (.slice ao la ca) := HF2.out.cell 0 1 rfl rfl; have j2 : u2.cell? ⟨W.heap.size + 1, 0, none⟩ = some (.bool (!s)) := HF2.out.cell 1 0 rfl rfl; have j3 : u2.cell? ⟨W.heap.size + 1, 1, none⟩ = some (.slice bo lb cb) := HF2.out.cell 1 1 rfl rfl; have g0 : u2.cell? ⟨W.heap.size + 2, 0, none⟩ = some (.bool false) := HF2.out.cell 2 0 rfl rfl; have g1 : u2.cell? ⟨W.heap.size + 2, 1, none⟩ = some (.slice none 0 0) := HF2.out.cell 2 1 rfl rfl; have g2 : u2.frozen? ⟨W.heap.size + 2, 0, none⟩ = false := HF2.out.frozen 2 0 rfl; have g3 : u2.frozen? ⟨W.heap.size + 2, 1, none⟩ = false := HF2.out.frozen 2 1 rfl))
  go_wp2
  obtain ⟨e0, e1, hz, hbel, _⟩ := HF2.out.finJ (cap := sc) 2 rfl HZ.out
  exact bodyPost_ret (v := .agg #[.bool neg, .slice so sl sc]) (by simp [results, Tryz.results115, go_sem, e0, e1]) rfl ⟨neg, so, sl, sc, rfl, hlc2, hcm2, hz, hbel⟩

set_option maxHeartbeats 2000000 in
theorem plus16_ge (s : Bool) (ao bo : Option Addr) (la lb ca cb : Nat) (m n : Nat) (W : World) (hm : N16 W ao la m) (hn : N16 W bo lb n) (hla : la ≤ 1000000000) (hlb : lb ≤ 1000000000) (hlt : n ≤ m) :
    Calls Tryz.prog 115 #[.agg #[.bool s, .slice ao la ca], .agg #[.bool (!s), .slice bo lb cb]] W (OutJ W (sgn s (m - n))) := by
  have hf : Fr W (((W.alloc (.cells #[.bool s, .slice ao la ca] 33)).alloc (.cells #[.bool (!s), .slice bo lb cb] 33)).alloc (.cells #[.bool false, .slice none 0 0] 33))
      [(33, #[.bool s, .slice ao la ca]), (33, #[.bool (!s), .slice bo lb cb]), (33, #[.bool false, .slice none 0 0])] :=
    (((Fr.nil W).alloc rfl _ _).alloc (by simp) _ _).alloc (by simp) _ _
  have HM := Lib.hid (hm.keep hf.below)
  have HN := Lib.hid (hn.keep hf.below)
  clear hm hn
  have hbb : (s == !s) = false := by cases s <;> rfl
  go_enter Tryz.func115, Tryz.ntmps115
  go_wp2_with fail
  obtain ⟨W3, hW3⟩ : ∃ W3, W3 = ((W.alloc (.cells #[.bool s, .slice ao la ca] 33)).alloc (.cells #[.bool (!s), .slice bo lb cb] 33)).alloc (.cells #[.bool false, .slice none 0 0] 33) := ⟨_, rfl⟩
  rw [← hW3] at hf HM HN ⊢
  clear hW3
  have HF0 := Lib.hid hf
  clear hf
  have c0 : W3.cell? ⟨W.heap.size, 0, none⟩ = some (.bool s) := HF0.out.cell 0 0 rfl rfl
  have c1 : W3.cell? ⟨W.heap.size, 1, none⟩ = some (.slice ao la ca) := HF0.out.cell 0 1 rfl rfl
  have c2 : W3.cell? ⟨W.heap.size + 1, 0, none⟩ = some (.bool (!s)) := HF0.out.cell 1 0 rfl rfl
  have c3 : W3.cell? ⟨W.heap.size + 1, 1, none⟩ = some (.slice bo lb cb) := HF0.out.cell 1 1 rfl rfl
  go_wp2_with fail
  refine (cmp16_any _ _ _ _ _ _ m n W3 HM.out HN.out hla hlb).mono ?_
  rintro e w1 ⟨rfl, hdr⟩
  obtain ⟨z, hz⟩ : ∃ z, z = cmpN m n := ⟨_, rfl⟩
  rw [← hz]
  have tz : 0 ≤ z := by rw [hz]; unfold cmpN; rw [if_neg (by omega)]; split <;> decide
  have tn : ¬ z < 0 := by omega
  clear hz
  have HF := Lib.hid (HF0.out.later hdr.below)
  have HM1 := Lib.hid (HM.out.keep hdr.below)
  have HN1 := Lib.hid (HN.out.keep hdr.below)
  clear hdr c0 c1 c2 c3
  have d0 : w1.cell? ⟨W.heap.size, 0, none⟩ = some (.bool s) := HF.out.cell 0 0 rfl rfl
  have d1 : w1.cell? ⟨W.heap.size, 1, none⟩ = some (.slice ao la ca) := HF.out.cell 0 1 rfl rfl
  have d2 : w1.cell? ⟨W.heap.size + 1, 0, none⟩ = some (.bool (!s)) := HF.out.cell 1 0 rfl rfl
  have d3 : w1.cell? ⟨W.heap.size + 1, 1, none⟩ = some (.slice bo lb cb) := HF.out.cell 1 1 rfl rfl
  go_wp2_with fail
  go_region_held3 (fun w' => w'.cell? ⟨W.heap.size, 0, none⟩ = some (.bool s) ∧ w'.cell? ⟨W.heap.size, 1, none⟩ = some (.slice ao la ca) ∧ w'.cell? ⟨W.heap.size + 1, 0, none⟩ = some (.bool (!s)) ∧ w'.cell? ⟨W.heap.size + 1, 1, none⟩ = some (.slice bo lb cb)) (first | (go_keep; done) | ((try dsimp only); (repeat' apply And.intro) <;> (first | (go_keep; done) | (rw [cell_set2 _ _ _ _ _ _ (by omega)]; assumption))))
    (first | (go_at_call 113; refine (sub16_any _ _ _ _ _ _ m n w1.drew HM1.out HN1.out hla hlt).mono ?_; rintro e u1 ⟨po, pl, pc, rfl, hlc1, hcm1, hp, hb1⟩; have HB1 := Lib.hid (below_of_drew hb1); have HP := Lib.hid hp; have HF1 := Lib.hid (HF.out.later HB1.out); clear hb1 hp; have k0 : u1.cell? ⟨W.heap.size, 0, none⟩ = some (.bool s) := HF1.out.cell 0 0 rfl rfl; have k1 : u1.cell? ⟨W.heap.size, 1, none⟩ = some (.slice ao la ca) := HF1.out.cell 0 1 rfl rfl; have k2 : u1.cell? ⟨W.heap.size + 1, 0, none⟩ = some (.bool (!s)) := HF1.out.cell 1 0 rfl rfl; have k3 : u1.cell? ⟨W.heap.size + 1, 1, none⟩ = some (.slice bo lb cb) := HF1.out.cell 1 1 rfl rfl) | (go_at_call 53; refine (made_any s _ _ _ (m - n) _ HP.out hlc1 hcm1).mono ?_; rintro e u2 ⟨neg, so, sl, sc, rfl, hlc2, hcm2, hz, hb2⟩; have HF2 := Lib.hid (HF1.out.later hb2); have HZ := Lib.hid hz; clear hb2 hz; have j0 : u2.cell? ⟨W.heap.size, 0, none⟩ = some (.bool s) := HF2.out.cell 0 0 rfl rfl; have j1 : u2.cell? ⟨W.heap.size, 1, none⟩ = some (.slice ao la ca) := HF2.out.cell 0 1 rfl rfl; have j2 : u2.cell? ⟨W.heap.size + 1, 0, none⟩ = some (.bool (!s)) := HF2.out.cell 1 0 rfl rfl; have j3 : u2.cell? ⟨W.heap.size + 1, 1, none⟩ = some (.slice bo lb cb) := HF2.out.cell 1 1 rfl rfl; have g0 : u2.cell? ⟨W.heap.size + 2, 0, none⟩ = some (.bool false) := HF2.out.cell 2 0 rfl rfl; have g1 : u2.cell? ⟨W.heap.size + 2, 1, none⟩ = some (.slice none 0 0) := HF2.out.cell 2 1 rfl rfl; have g2 : u2.frozen? ⟨W.heap.size + 2, 0, none⟩ = false := HF2.out.frozen 2 0 rfl; have g3 : u2.frozen? ⟨W.heap.size + 2, 1, none⟩ = false := HF2.out.frozen 2 1 rfl))
  go_wp2
  obtain ⟨e0, e1, hz, hbel, _⟩ := HF2.out.finJ (cap := sc) 2 rfl HZ.out
  exact bodyPost_ret (v := .agg #[.bool neg, .slice so sl sc]) (by simp [results, Tryz.results115, go_sem, e0, e1]) rfl ⟨neg, so, sl, sc, rfl, hlc2, hcm2, hz, hbel⟩

theorem plus16_any (na nb : Bool) (ao bo : Option Addr) (la lb ca cb : Nat) (x y : Int) (W : World) (ha : Z16 W na ao la x) (hb : Z16 W nb bo lb y) (hla : la ≤ 1000000000) (hlb : lb ≤ 1000000000) :
    Calls Tryz.prog 115 #[.agg #[.bool na, .slice ao la ca], .agg #[.bool nb, .slice bo lb cb]] W (OutJ W (x + y)) := by
  obtain ⟨m, hm, rfl, hpm⟩ := ha
  obtain ⟨n, hn, rfl, hpn⟩ := hb
  by_cases h : na = nb
  · subst h
    rw [sgn_add]
    exact plus16_same na ao bo la lb ca cb m n W hm hn hla hlb
  · obtain rfl : nb = !na := by cases na <;> cases nb <;> simp_all
    rcases Nat.lt_or_ge m n with hlt | hlt
    · rw [sgn_lt na hlt]
      exact plus16_lt na ao bo la lb ca cb m n W hm hn hla hlb hlt
    · rw [sgn_ge na hlt]
      exact plus16_ge na ao bo la lb ca cb m n W hm hn hla hlb hlt
end Go.Proofs.YtcgnmihabkgecaaGreat

/- The specification: Opp, Sub, Cmp. -/
set_option linter.unusedVariables false
namespace Go.Proofs.YtcgnmihabkgecaaGreat
open Go.RowKit

theorem sgn_neg (s : Bool) (n : Nat) : -sgn s n = sgn (!s) n := by cases s <;> simp [sgn]

set_option maxHeartbeats 800000 in
theorem opp16_any (neg : Bool) (ao : Option Addr) (len cap : Nat) (z : Int) (W : World) (h : Z16 W neg ao len z) (hlc : len ≤ cap) (hcm : cap ≤ 9223372036854775807) :
    Calls Tryz.prog 116 #[.agg #[.bool neg, .slice ao len cap]] W (OutJ W (-z)) := by
  have hf : Fr W ((W.alloc (.cells #[.bool neg, .slice ao len cap] 33)).alloc (.cells #[.bool false, .slice none 0 0] 33))
      [(33, #[.bool neg, .slice ao len cap]), (33, #[.bool false, .slice none 0 0])] := ((Fr.nil W).alloc rfl _ _).alloc (by simp) _ _
  obtain ⟨n, hn, rfl, hp⟩ := h
  have HF := Lib.hid hf
  have HN := Lib.hid (hn.keep hf.below)
  clear hf hn hp
  rw [sgn_neg]
  go_enter Tryz.func116, Tryz.ntmps116
  go_wp2_with fail
  refine (made_any (!neg) _ _ _ n _ HN.out hlc hcm).mono ?_
  rintro e w1 ⟨s1, uo, ul, uc, rfl, huc, hum, hz1, hb1⟩
  have HF1 := Lib.hid (HF.out.later hb1)
  have HZ1 := Lib.hid hz1
  clear hz1 hb1
  have g0 : w1.cell? ⟨W.heap.size + 1, 0, none⟩ = some (.bool false) := HF1.out.cell 1 0 rfl rfl
  have g1 : w1.cell? ⟨W.heap.size + 1, 1, none⟩ = some (.slice none 0 0) := HF1.out.cell 1 1 rfl rfl
  have g2 : w1.frozen? ⟨W.heap.size + 1, 0, none⟩ = false := HF1.out.frozen 1 0 rfl
  have g3 : w1.frozen? ⟨W.heap.size + 1, 1, none⟩ = false := HF1.out.frozen 1 1 rfl
  go_wp2
  obtain ⟨e0, e1, hz, hbel, _⟩ := HF1.out.finJ (cap := uc) 1 rfl HZ1.out
  exact bodyPost_ret (v := .agg #[.bool s1, .slice uo ul uc]) (by simp [results, Tryz.results116, go_sem, e0, e1]) rfl ⟨s1, uo, ul, uc, rfl, huc, hum, hz, hbel⟩

set_option maxHeartbeats 2000000 in
theorem subZ16_any (na nb : Bool) (ao bo : Option Addr) (la lb ca cb : Nat) (x y : Int) (W : World) (ha : Z16 W na ao la x) (hb : Z16 W nb bo lb y) (hla : la ≤ 1000000000) (hlb : lb ≤ 1000000000) (hlc : lb ≤ cb) (hcm : cb ≤ 9223372036854775807) :
    Calls Tryz.prog 86 #[.agg #[.bool na, .slice ao la ca], .agg #[.bool nb, .slice bo lb cb]] W (OutJ W (x - y)) := by
  have hf : Fr W (((W.alloc (.cells #[.bool na, .slice ao la ca] 33)).alloc (.cells #[.bool nb, .slice bo lb cb] 33)).alloc (.cells #[.bool false, .slice none 0 0] 33))
      [(33, #[.bool na, .slice ao la ca]), (33, #[.bool nb, .slice bo lb cb]), (33, #[.bool false, .slice none 0 0])] :=
    (((Fr.nil W).alloc rfl _ _).alloc (by simp) _ _).alloc (by simp) _ _
  have HA := Lib.hid (ha.keep hf.below)
  have HB := Lib.hid (hb.keep hf.below)
  have HLT := Lib.hid hb.n16.lt
  clear ha hb
  rw [show x - y = x + -y from rfl]
  go_enter Tryz.func86, Tryz.ntmps86
  go_wp2_with fail
  obtain ⟨W3, hW3⟩ : ∃ W3, W3 = ((W.alloc (.cells #[.bool na, .slice ao la ca] 33)).alloc (.cells #[.bool nb, .slice bo lb cb] 33)).alloc (.cells #[.bool false, .slice none 0 0] 33) := ⟨_, rfl⟩
  rw [← hW3] at hf HA HB ⊢
  clear hW3
  have HF := Lib.hid hf
  clear hf
  have c0 : W3.cell? ⟨W.heap.size, 0, none⟩ = some (.bool na) := HF.out.cell 0 0 rfl rfl
  have c1 : W3.cell? ⟨W.heap.size, 1, none⟩ = some (.slice ao la ca) := HF.out.cell 0 1 rfl rfl
  have c2 : W3.cell? ⟨W.heap.size + 1, 0, none⟩ = some (.bool nb) := HF.out.cell 1 0 rfl rfl
  have c3 : W3.cell? ⟨W.heap.size + 1, 1, none⟩ = some (.slice bo lb cb) := HF.out.cell 1 1 rfl rfl
  go_region_held3 (fun w' => w'.cell? ⟨W.heap.size, 0, none⟩ = some (.bool na) ∧ w'.cell? ⟨W.heap.size, 1, none⟩ = some (.slice ao la ca) ∧ w'.cell? ⟨W.heap.size + 1, 0, none⟩ = some (.bool nb) ∧ w'.cell? ⟨W.heap.size + 1, 1, none⟩ = some (.slice bo lb cb)) (first | (go_keep; done) | ((try dsimp only); (repeat' apply And.intro) <;> (first | (go_keep; done) | (rw [cell_set2 _ _ _ _ _ _ (by omega)]; assumption))))
    (first | (go_at_call 116; refine (opp16_any _ _ _ _ y W3.drew (HB.out.keep ((Below.refl _ _).drew)) hlc hcm).mono ?_; rintro e u1 ⟨s1, po, pl, pc, rfl, hlc1, hcm1, hp, hb1⟩; have HB1 := Lib.hid (below_of_drew hb1); have HP := Lib.hid hp; have HF1 := Lib.hid (HF.out.later HB1.out); have HA1 := Lib.hid (HA.out.keep HB1.out); have hpl : pl ≤ 1000000000 := (by have h5 := HLT.out; have h6 := hp.n16; rw [Int.natAbs_neg] at h6; exact Nat.le_trans (h6.len_le h5) hlb); clear hb1 hp; have k0 : u1.cell? ⟨W.heap.size, 0, none⟩ = some (.bool na) := HF1.out.cell 0 0 rfl rfl; have k1 : u1.cell? ⟨W.heap.size, 1, none⟩ = some (.slice ao la ca) := HF1.out.cell 0 1 rfl rfl; have k2 : u1.cell? ⟨W.heap.size + 1, 0, none⟩ = some (.bool nb) := HF1.out.cell 1 0 rfl rfl; have k3 : u1.cell? ⟨W.heap.size + 1, 1, none⟩ = some (.slice bo lb cb) := HF1.out.cell 1 1 rfl rfl) | (go_at_call 115; refine (plus16_any _ _ _ _ _ _ _ _ x (-y) _ HA1.out HP.out hla hpl).mono ?_; rintro e u2 ⟨neg, so, sl, sc, rfl, hlc2, hcm2, hz, hb2⟩; have HF2 := Lib.hid (HF1.out.later hb2); have HZ := Lib.hid hz; clear hb2 hz; have j0 : u2.cell? ⟨W.heap.size, 0, none⟩ = some (.bool na) := HF2.out.cell 0 0 rfl rfl; have j1 : u2.cell? ⟨W.heap.size, 1, none⟩ = some (.slice ao la ca) := HF2.out.cell 0 1 rfl rfl; have j2 : u2.cell? ⟨W.heap.size + 1, 0, none⟩ = some (.bool nb) := HF2.out.cell 1 0 rfl rfl; have j3 : u2.cell? ⟨W.heap.size + 1, 1, none⟩ = some (.slice bo lb cb) := HF2.out.cell 1 1 rfl rfl; have g0 : u2.cell? ⟨W.heap.size + 2, 0, none⟩ = some (.bool false) := HF2.out.cell 2 0 rfl rfl; have g1 : u2.cell? ⟨W.heap.size + 2, 1, none⟩ = some (.slice none 0 0) := HF2.out.cell 2 1 rfl rfl; have g2 : u2.frozen? ⟨W.heap.size + 2, 0, none⟩ = false := HF2.out.frozen 2 0 rfl; have g3 : u2.frozen? ⟨W.heap.size + 2, 1, none⟩ = false := HF2.out.frozen 2 1 rfl))
  go_wp2
  obtain ⟨e0, e1, hz, hbel, _⟩ := HF2.out.finJ (cap := sc) 2 rfl HZ.out
  exact bodyPost_ret (v := .agg #[.bool neg, .slice so sl sc]) (by simp [results, Tryz.results86, go_sem, e0, e1]) rfl ⟨neg, so, sl, sc, rfl, hlc2, hcm2, hz, hbel⟩

set_option maxHeartbeats 800000 in
theorem cmpZ16_any (na nb : Bool) (ao bo : Option Addr) (la lb ca cb : Nat) (x y : Int) (W : World) (ha : Z16 W na ao la x) (hb : Z16 W nb bo lb y) (hla : la ≤ 1000000000) (hlb : lb ≤ 1000000000) (hlc : lb ≤ cb) (hcm : cb ≤ 9223372036854775807) :
    Calls Tryz.prog 39 #[.agg #[.bool na, .slice ao la ca], .agg #[.bool nb, .slice bo lb cb]] W (fun e w' => e = .returned (.int .i64 (x - y).sign) ∧ Below W.heap.size W w') := by
  have hf : Fr W ((W.alloc (.cells #[.bool na, .slice ao la ca] 33)).alloc (.cells #[.bool nb, .slice bo lb cb] 33))
      [(33, #[.bool na, .slice ao la ca]), (33, #[.bool nb, .slice bo lb cb])] := ((Fr.nil W).alloc rfl _ _).alloc (by simp) _ _
  have HA := Lib.hid (ha.keep hf.below)
  have HB := Lib.hid (hb.keep hf.below)
  have HF := Lib.hid hf
  clear ha hb hf
  go_enter Tryz.func39, Tryz.ntmps39
  go_wp2_with fail
  refine (subZ16_any _ _ _ _ _ _ _ _ x y _ HA.out HB.out hla hlb hlc hcm).mono ?_
  rintro e w1 ⟨s1, uo, ul, uc, rfl, huc, hum, hz1, hb1⟩
  have HF1 := Lib.hid (HF.out.later hb1)
  have HZ1 := Lib.hid hz1
  clear hz1 hb1
  go_wp2_with fail
  refine (sign16_any _ _ _ _ (x - y) _ HZ1.out).mono ?_
  rintro e w2 ⟨rfl, hb2⟩
  have HF2 := Lib.hid (HF1.out.later hb2)
  clear hb2
  go_wp2
  go_ret
  exact ⟨rfl, HF2.out.below⟩
end Go.Proofs.YtcgnmihabkgecaaGreat

/- Of, Num, Floor of fractions; the specification's Whole and Text of a fraction. -/
set_option linter.unusedVariables false
namespace Go.Proofs.YtcgnmihabkgecaaGreat
open Go.RowKit

set_option maxHeartbeats 800000 in
theorem ratOf_any (z : Int) (W : World) (h1 : -9223372036854775808 ≤ z) (h2 : z ≤ 9223372036854775807) :
    Calls Tryz.prog 23 #[.int .i64 z] W (OutQ W z 1) := by
  have hf : Fr W (W.alloc (.cells #[.bool false, .slice none 0 0, .slice none 0 0] 27)) [(27, #[.bool false, .slice none 0 0, .slice none 0 0])] := (Fr.nil W).alloc rfl _ _
  have HF := Lib.hid hf
  clear hf
  go_enter Tryz.func23, Tryz.ntmps23
  go_wp2_with fail
  refine (new_any z _ h1 h2).mono ?_
  rintro e w1 ⟨neg, uo, ul, uc, rfl, hz, hb1⟩
  have HF1 := Lib.hid (HF.out.later hb1)
  have hq : Q32 w1 neg uo ul none 0 z 1 := ⟨hz, .inl ⟨rfl, rfl⟩⟩
  have HQ := Lib.hid hq
  clear hz hb1 hq
  have g0 : w1.cell? ⟨W.heap.size, 0, none⟩ = some (.bool false) := HF1.out.cell 0 0 rfl rfl
  have g1 : w1.cell? ⟨W.heap.size, 1, none⟩ = some (.slice none 0 0) := HF1.out.cell 0 1 rfl rfl
  have g5 : w1.cell? ⟨W.heap.size, 2, none⟩ = some (.slice none 0 0) := HF1.out.cell 0 2 rfl rfl
  have g2 : w1.frozen? ⟨W.heap.size, 0, none⟩ = false := HF1.out.frozen 0 0 rfl
  have g3 : w1.frozen? ⟨W.heap.size, 1, none⟩ = false := HF1.out.frozen 0 1 rfl
  have g4 : w1.frozen? ⟨W.heap.size, 2, none⟩ = false := HF1.out.frozen 0 2 rfl
  go_wp2
  obtain ⟨e0, e1, e2, hz, hbel⟩ := HF1.out.finQ (cap := uc) (bc := 0) 0 rfl HQ.out
  exact bodyPost_ret (v := .agg #[.bool neg, .slice uo ul uc, .slice none 0 0]) (by simp only [Nat.add_zero] at e0 e1 e2; simp [results, Tryz.results23, go_sem, e0, e1, e2]) rfl ⟨neg, uo, ul, uc, none, 0, 0, rfl, hz, hbel⟩

/-- a fraction of the specification is returned -/
def OutK (W : World) (p : Int) (q : Int) (e : Ending) (w' : World) : Prop :=
  ∃ s1 o1 l1 c1 s2 o2 l2 c2, e = .returned (.agg #[.bool s1, .slice o1 l1 c1, .bool s2, .slice o2 l2 c2]) ∧ l1 ≤ c1 ∧ c1 ≤ 9223372036854775807 ∧ l2 ≤ c2 ∧ c2 ≤ 9223372036854775807 ∧ Z16 w' s1 o1 l1 p ∧ Z16 w' s2 o2 l2 q ∧ Below W.heap.size W w'

theorem Fr.finK {W w : World} {bs : List (Nat × Array Value)} {s1 s2 : Bool} {o1 o2 : Option Addr} {l1 l2 c1 c2 : Nat} {p q : Int} (hf : Fr W w bs) (i : Nat) {T : Nat} {e0 e1 : Bool} {a1 a2 : Option Addr} {m1 m2 d1 d2 : Nat}
    (hi : bs[i]? = some (T, #[.bool e0, .slice a1 m1 d1, .bool e1, .slice a2 m2 d2])) (h1 : Z16 w s1 o1 l1 p) (h2 : Z16 w s2 o2 l2 q) :
    let w' := (((w.setCell ⟨W.heap.size + i, 0, none⟩ (.bool s1)).setCell ⟨W.heap.size + i, 1, none⟩ (.slice o1 l1 c1)).setCell ⟨W.heap.size + i, 2, none⟩ (.bool s2)).setCell ⟨W.heap.size + i, 3, none⟩ (.slice o2 l2 c2)
    w'.cell? ⟨W.heap.size + i, 0, none⟩ = some (.bool s1) ∧ w'.cell? ⟨W.heap.size + i, 1, none⟩ = some (.slice o1 l1 c1) ∧ w'.cell? ⟨W.heap.size + i, 2, none⟩ = some (.bool s2) ∧ w'.cell? ⟨W.heap.size + i, 3, none⟩ = some (.slice o2 l2 c2) ∧
      Z16 w' s1 o1 l1 p ∧ Z16 w' s2 o2 l2 q ∧ Below W.heap.size W w' := by
  have hl := (List.getElem?_eq_some_iff.1 hi).1
  have k1 := hf.set i 0 hi (.bool s1)
  have i1 : (bs.set i (T, #[.bool s1, .slice a1 m1 d1, .bool e1, .slice a2 m2 d2]))[i]? = some (T, #[.bool s1, .slice a1 m1 d1, .bool e1, .slice a2 m2 d2]) := List.getElem?_set_self hl
  have p1 := h1.setFr hf i 0 hi rfl (.bool s1)
  have q1 := h2.setFr hf i 0 hi rfl (.bool s1)
  have k2 := k1.set i 1 i1 (.slice o1 l1 c1)
  have i2 : ((bs.set i (T, #[.bool s1, .slice a1 m1 d1, .bool e1, .slice a2 m2 d2])).set i (T, #[.bool s1, .slice o1 l1 c1, .bool e1, .slice a2 m2 d2]))[i]? = some (T, #[.bool s1, .slice o1 l1 c1, .bool e1, .slice a2 m2 d2]) := List.getElem?_set_self (by simpa using hl)
  have p2 := p1.setFr k1 i 1 i1 rfl (.slice o1 l1 c1)
  have q2 := q1.setFr k1 i 1 i1 rfl (.slice o1 l1 c1)
  have k3 := k2.set i 2 i2 (.bool s2)
  have i3 : (((bs.set i (T, #[.bool s1, .slice a1 m1 d1, .bool e1, .slice a2 m2 d2])).set i (T, #[.bool s1, .slice o1 l1 c1, .bool e1, .slice a2 m2 d2])).set i (T, #[.bool s1, .slice o1 l1 c1, .bool s2, .slice a2 m2 d2]))[i]? = some (T, #[.bool s1, .slice o1 l1 c1, .bool s2, .slice a2 m2 d2]) := List.getElem?_set_self (by simpa using hl)
  have p3 := p2.setFr k2 i 2 i2 rfl (.bool s2)
  have q3 := q2.setFr k2 i 2 i2 rfl (.bool s2)
  have k4 := k3.set i 3 i3 (.slice o2 l2 c2)
  have i4 : ((((bs.set i (T, #[.bool s1, .slice a1 m1 d1, .bool e1, .slice a2 m2 d2])).set i (T, #[.bool s1, .slice o1 l1 c1, .bool e1, .slice a2 m2 d2])).set i (T, #[.bool s1, .slice o1 l1 c1, .bool s2, .slice a2 m2 d2])).set i (T, #[.bool s1, .slice o1 l1 c1, .bool s2, .slice o2 l2 c2]))[i]? = some (T, #[.bool s1, .slice o1 l1 c1, .bool s2, .slice o2 l2 c2]) := List.getElem?_set_self (by simpa using hl)
  have p4 := p3.setFr k3 i 3 i3 rfl (.slice o2 l2 c2)
  have q4 := q3.setFr k3 i 3 i3 rfl (.slice o2 l2 c2)
  exact ⟨k4.cell i 0 i4 rfl, k4.cell i 1 i4 rfl, k4.cell i 2 i4 rfl, k4.cell i 3 i4 rfl, p4, q4, k4.below⟩

end Go.Proofs.YtcgnmihabkgecaaGreat

/- fitting, Neg, Add, Sub, Mul, Cmp. -/
set_option linter.unusedVariables false
namespace Go.Proofs.YtcgnmihabkgecaaGreat
open Go.RowKit

/-- the integer fits -/
def Fits (z : Int) : Prop := blen z.natAbs ≤ 16384

/-- returned: the integer and no error, or, if it does not fit, 0 and the error -/
def OutF (W : World) (z : Int) (e : Ending) (w' : World) : Prop :=
  (Fits z ∧ ∃ neg ao len cap, e = .returned (.tuple #[.agg #[.bool neg, .slice ao len cap], .int .i64 0]) ∧ Z32 w' neg ao len z ∧ Below W.heap.size W w') ∨
  (¬ Fits z ∧ e = .returned (.tuple #[.agg #[.bool false, .slice none 0 0], .int .i64 3]) ∧ Below W.heap.size W w')

theorem Z32.nil (w : World) : Z32 w false none 0 0 := ⟨0, N32.nil _ _, rfl, by simp⟩

set_option maxHeartbeats 800000 in
theorem fitting_any (neg : Bool) (ao : Option Addr) (len cap : Nat) (z : Int) (W : World) (h : Z32 W neg ao len z) (hl : len ≤ 1000000000) :
    Calls Tryz.prog 75 #[.agg #[.bool neg, .slice ao len cap]] W (OutF W z) := by
  have hf : Fr W ((W.alloc (.cells #[.bool neg, .slice ao len cap] 25)).alloc (.cells #[.bool false, .slice none 0 0] 25))
      [(25, #[.bool neg, .slice ao len cap]), (25, #[.bool false, .slice none 0 0])] := ((Fr.nil W).alloc rfl _ _).alloc (by simp) _ _
  have HZ := Lib.hid (h.keep hf.below)
  have HF := Lib.hid hf
  clear h hf
  go_enter Tryz.func75, Tryz.ntmps75
  go_wp2_with fail
  refine (bitLen_any _ _ _ _ z _ HZ.out hl).mono ?_
  rintro e w1 ⟨rfl, hb1⟩
  have HF1 := Lib.hid (HF.out.later hb1)
  have HZ1 := Lib.hid (HZ.out.keep hb1)
  clear hb1
  have b0 : w1.cell? ⟨W.heap.size, 0, none⟩ = some (.bool neg) := HF1.out.cell 0 0 rfl rfl
  have b1 : w1.cell? ⟨W.heap.size, 1, none⟩ = some (.slice ao len cap) := HF1.out.cell 0 1 rfl rfl
  have g0 : w1.cell? ⟨W.heap.size + 1, 0, none⟩ = some (.bool false) := HF1.out.cell 1 0 rfl rfl
  have g1 : w1.cell? ⟨W.heap.size + 1, 1, none⟩ = some (.slice none 0 0) := HF1.out.cell 1 1 rfl rfl
  have g2 : w1.frozen? ⟨W.heap.size + 1, 0, none⟩ = false := HF1.out.frozen 1 0 rfl
  have g3 : w1.frozen? ⟨W.heap.size + 1, 1, none⟩ = false := HF1.out.frozen 1 1 rfl
  obtain ⟨k, hk⟩ : ∃ k, k = blen z.natAbs := ⟨_, rfl⟩
  rw [← hk]
  by_cases hfit : k ≤ 16384
  · have t1 : ¬ (16384 : Int) < (k : Int) := by omega
    have HX : Hid (Fits z) := by unfold Fits; rw [← hk]; exact hfit
    clear hk hfit
    go_wp2
    obtain ⟨e0, e1, hz, hbel, _⟩ := HF1.out.finI (cap := cap) 1 rfl HZ1.out
    exact bodyPost_ret (v := .tuple #[.agg #[.bool neg, .slice ao len cap], .int .i64 0]) (by simp [results, Tryz.results75, go_sem, e0, e1]) rfl (.inl ⟨HX.out, neg, ao, len, cap, rfl, hz, hbel⟩)
  · have t1 : (16384 : Int) < (k : Int) := by omega
    have HX : Hid (¬ Fits z) := by unfold Fits; rw [← hk]; exact hfit
    clear hk hfit
    go_wp2
    obtain ⟨e0, e1, hz, hbel, _⟩ := HF1.out.finI (cap := 0) 1 rfl (Z32.nil _)
    exact bodyPost_ret (v := .tuple #[.agg #[.bool false, .slice none 0 0], .int .i64 3]) (by simp [results, Tryz.results75, go_sem, e0, e1]) rfl (.inr ⟨HX.out, rfl, hbel⟩)

set_option maxHeartbeats 1000000 in
theorem neg_any (na : Bool) (ao : Option Addr) (la ca : Nat) (z : Int) (W : World) (h : Z32 W na ao la z) (hla : la ≤ 1000000000) :
    Calls Tryz.prog 69 #[.agg #[.bool na, .slice ao la ca]] W (OutI W (-z)) := by
  have hf : Fr W ((W.alloc (.cells #[.bool na, .slice ao la ca] 25)).alloc (.cells #[.bool false, .slice none 0 0] 25))
      [(25, #[.bool na, .slice ao la ca]), (25, #[.bool false, .slice none 0 0])] := ((Fr.nil W).alloc rfl _ _).alloc (by simp) _ _
  obtain ⟨n, hn, rfl, hp⟩ := h.keep hf.below
  have HN := Lib.hid hn
  clear h hn hp
  rw [sgn_neg]
  go_enter Tryz.func69, Tryz.ntmps69
  go_wp2_with fail
  obtain ⟨W3, hW3⟩ : ∃ W3, W3 = (W.alloc (.cells #[.bool na, .slice ao la ca] 25)).alloc (.cells #[.bool false, .slice none 0 0] 25) := ⟨_, rfl⟩
  rw [← hW3] at hf HN ⊢
  clear hW3
  have HF := Lib.hid hf
  clear hf
  have c0 : W3.cell? ⟨W.heap.size, 0, none⟩ = some (.bool na) := HF.out.cell 0 0 rfl rfl
  have c1 : W3.cell? ⟨W.heap.size, 1, none⟩ = some (.slice ao la ca) := HF.out.cell 0 1 rfl rfl
  go_region_held3 (fun w' => w'.cell? ⟨W.heap.size, 0, none⟩ = some (.bool na) ∧ w'.cell? ⟨W.heap.size, 1, none⟩ = some (.slice ao la ca)) (first | (go_keep; done) | ((try dsimp only); (repeat' apply And.intro) <;> (first | (go_keep; done) | (rw [cell_set2 _ _ _ _ _ _ (by omega)]; assumption))))
    (first | (go_at_call 70; refine (duplicate_n _ _ _ n W3.drew HN.out hla).mono ?_; rintro e u1 ⟨po, pc, rfl, hp, hb1⟩; have HB1 := Lib.hid (below_of_drew hb1); have HP := Lib.hid hp; have HF1 := Lib.hid (HF.out.later HB1.out); clear hb1 hp; have k0 : u1.cell? ⟨W.heap.size, 0, none⟩ = some (.bool na) := HF1.out.cell 0 0 rfl rfl; have k1 : u1.cell? ⟨W.heap.size, 1, none⟩ = some (.slice ao la ca) := HF1.out.cell 0 1 rfl rfl) | (go_at_call 46; refine (signed_any (!na) _ _ _ n _ HP.out).mono ?_; rintro e u2 ⟨neg, so, sl, sc, rfl, hz, hb2⟩; have HF2 := Lib.hid (HF1.out.later hb2); have HZ := Lib.hid hz; clear hb2 hz; have j0 : u2.cell? ⟨W.heap.size, 0, none⟩ = some (.bool na) := HF2.out.cell 0 0 rfl rfl; have j1 : u2.cell? ⟨W.heap.size, 1, none⟩ = some (.slice ao la ca) := HF2.out.cell 0 1 rfl rfl; have g0 : u2.cell? ⟨W.heap.size + 1, 0, none⟩ = some (.bool false) := HF2.out.cell 1 0 rfl rfl; have g1 : u2.cell? ⟨W.heap.size + 1, 1, none⟩ = some (.slice none 0 0) := HF2.out.cell 1 1 rfl rfl; have g2 : u2.frozen? ⟨W.heap.size + 1, 0, none⟩ = false := HF2.out.frozen 1 0 rfl; have g3 : u2.frozen? ⟨W.heap.size + 1, 1, none⟩ = false := HF2.out.frozen 1 1 rfl))
  go_wp2
  obtain ⟨e0, e1, hz, hbel, _⟩ := HF2.out.finI (cap := sc) 1 rfl HZ.out
  exact bodyPost_ret (v := .agg #[.bool neg, .slice so sl sc]) (by simp [results, Tryz.results69, go_sem, e0, e1]) rfl ⟨neg, so, sl, sc, rfl, hz, hbel⟩

theorem addI_len {x y : Int} {a b : Nat} (hx : x.natAbs < B32 ^ a) (hy : y.natAbs < B32 ^ b) : (x + y).natAbs < B32 ^ (a + b + 1) := by
  have h1 : B32 ^ a ≤ B32 ^ (a + b) := Nat.pow_le_pow_right B32_pos (by omega)
  have h2 : B32 ^ b ≤ B32 ^ (a + b) := Nat.pow_le_pow_right B32_pos (by omega)
  have h3 : B32 ^ (a + b + 1) = B32 ^ (a + b) * B32 := Nat.pow_succ ..
  rw [h3, B32_eq]
  rw [B32_eq] at hx hy h1 h2
  omega

theorem mulI_len {x y : Int} {a b : Nat} (hx : x.natAbs < B32 ^ a) (hy : y.natAbs < B32 ^ b) : (x * y).natAbs < B32 ^ (a + b + 1) := by
  rw [Int.natAbs_mul]
  have h1 : x.natAbs * y.natAbs < B32 ^ a * B32 ^ b := Nat.mul_lt_mul'' hx hy
  rw [← Nat.pow_add] at h1
  exact Nat.lt_of_lt_of_le h1 (Nat.pow_le_pow_right B32_pos (by omega))

end Go.Proofs.YtcgnmihabkgecaaGreat

/- Sub, Cmp. -/
set_option linter.unusedVariables false
namespace Go.Proofs.YtcgnmihabkgecaaGreat
open Go.RowKit

/-- the same with one shape of the ending -/
def OutF1 (W : World) (z : Int) (e : Ending) (w' : World) : Prop :=
  ∃ neg ao len cap er z', e = .returned (.tuple #[.agg #[.bool neg, .slice ao len cap], .int .i64 er]) ∧ Z32 w' neg ao len z' ∧ Below W.heap.size W w' ∧
    ((Fits z ∧ er = 0 ∧ z' = z) ∨ (¬ Fits z ∧ er = 3 ∧ neg = false ∧ ao = none ∧ len = 0 ∧ cap = 0))

theorem OutF.one {W w' : World} {z : Int} {e : Ending} (h : OutF W z e w') : OutF1 W z e w' := by
  rcases h with ⟨h, neg, ao, len, cap, rfl, hz, hb⟩ | ⟨h, rfl, hb⟩
  · exact ⟨neg, ao, len, cap, 0, z, rfl, hz, hb, .inl ⟨h, rfl, rfl⟩⟩
  · exact ⟨false, none, 0, 0, 3, 0, rfl, Z32.nil _, hb, .inr ⟨h, rfl, rfl, rfl, rfl, rfl⟩⟩

theorem OutF1.two {W w' : World} {z : Int} {e : Ending} (h : OutF1 W z e w') : OutF W z e w' := by
  obtain ⟨neg, ao, len, cap, er, z', rfl, hz, hb, ⟨h, rfl, rfl⟩ | ⟨h, rfl, rfl, rfl, rfl, rfl⟩⟩ := h
  · exact .inl ⟨h, neg, ao, len, cap, rfl, hz, hb⟩
  · exact .inr ⟨h, rfl, hb⟩

theorem cmpN_sub (m n : Nat) : cmpN m n = ((m : Int) - (n : Int)).sign := by
  rcases Nat.lt_trichotomy m n with h | h | h
  · rw [cmpN_lt h, Int.sign_eq_neg_one_of_neg (by omega)]
  · rw [cmpN_eq h, h]; simp
  · rw [cmpN_gt h, Int.sign_eq_one_of_pos (by omega)]

set_option maxHeartbeats 1000000 in
theorem cmpI_any (na nb : Bool) (ao bo : Option Addr) (la lb ca cb : Nat) (x y : Int) (W : World) (ha : Z32 W na ao la x) (hb : Z32 W nb bo lb y) (hla : la ≤ 1000000000) (hlb : lb ≤ 1000000000) :
    Calls Tryz.prog 61 #[.agg #[.bool na, .slice ao la ca], .agg #[.bool nb, .slice bo lb cb]] W (fun e w' => e = .returned (.int .i64 (x - y).sign) ∧ Below W.heap.size W w') := by
  have hf : Fr W ((W.alloc (.cells #[.bool na, .slice ao la ca] 25)).alloc (.cells #[.bool nb, .slice bo lb cb] 25))
      [(25, #[.bool na, .slice ao la ca]), (25, #[.bool nb, .slice bo lb cb])] := ((Fr.nil W).alloc rfl _ _).alloc (by simp) _ _
  obtain ⟨m, hm, rfl, hpm⟩ := ha
  obtain ⟨n, hn, rfl, hpn⟩ := hb
  have HM := Lib.hid (hm.keep hf.below)
  have HN := Lib.hid (hn.keep hf.below)
  have HF := Lib.hid hf
  have HPM := Lib.hid hpm
  have HPN := Lib.hid hpn
  clear hm hn hf hpm hpn
  cases na <;> cases nb
  · have HE : Hid ((sgn false m - sgn false n).sign = cmpN m n) := by show _ = _; rw [cmpN_sub]; congr 1 <;> (simp [sgn]; omega)
    rw [HE.out]
    go_enter Tryz.func61, Tryz.ntmps61
    go_wp2_with fail
    refine (compare_any _ _ _ _ _ _ m n _ HM.out HN.out hla hlb).mono ?_
    rintro e w1 ⟨rfl, hd⟩
    have HF1 := Lib.hid (HF.out.later hd.below)
    clear hd
    go_wp2
    go_ret
    exact ⟨rfl, HF1.out.below⟩
  · have HE : Hid ((sgn false m - sgn true n).sign = 1) := by show _ = _; have := HPN.out rfl; rw [Int.sign_eq_one_of_pos]; simp [sgn]; omega
    rw [HE.out]
    go_enter Tryz.func61, Tryz.ntmps61
    go_wp2
    go_ret
    exact ⟨rfl, HF.out.below⟩
  · have HE : Hid ((sgn true m - sgn false n).sign = -1) := by show _ = _; have := HPM.out rfl; rw [Int.sign_eq_neg_one_of_neg]; simp [sgn]; omega
    rw [HE.out]
    go_enter Tryz.func61, Tryz.ntmps61
    go_wp2
    go_ret
    exact ⟨rfl, HF.out.below⟩
  · have HE : Hid ((sgn true m - sgn true n).sign = cmpN n m) := by show _ = _; rw [cmpN_sub]; congr 1 <;> (simp [sgn]; omega)
    rw [HE.out]
    go_enter Tryz.func61, Tryz.ntmps61
    go_wp2_with fail
    refine (compare_any _ _ _ _ _ _ n m _ HN.out HM.out hlb hla).mono ?_
    rintro e w1 ⟨rfl, hd⟩
    have HF1 := Lib.hid (HF.out.later hd.below)
    clear hd
    go_wp2
    go_ret
    exact ⟨rfl, HF1.out.below⟩
end Go.Proofs.YtcgnmihabkgecaaGreat

/- Texts: hasDigits, isPositive, isNumeral. -/
set_option linter.unusedVariables false
namespace Go.Proofs.YtcgnmihabkgecaaGreat
open Go.RowKit Go.Proofs

def isDig (c : UInt8) : Bool := decide (48 ≤ c.toNat) && decide (c.toNat ≤ 57)
def hasDigs (xs : List UInt8) : Bool := xs.all isDig && decide (xs ≠ [])

theorem all_take_succ {xs : List UInt8} {i : Nat} (hi : i < xs.length) (h : (xs.take i).all isDig = true) (hd : isDig xs[i] = true) : (xs.take (i + 1)).all isDig = true := by
  rw [List.take_succ_eq_append_getElem hi, List.all_append, h]
  simp [hd]

theorem hasDigs_false {xs : List UInt8} {i : Nat} (hi : i < xs.length) (hd : isDig xs[i] = false) : hasDigs xs = false := by
  unfold hasDigs
  rw [Bool.and_eq_false_iff]
  left
  rw [List.all_eq_false]
  exact ⟨xs[i], List.getElem_mem hi, by simp [hd]⟩

theorem str_size (xs : List UInt8) : (⟨xs.toArray⟩ : ByteArray).size = xs.length := by simp [ByteArray.size]
theorem str_get (xs : List UInt8) (i : Nat) (hi : i < xs.length) (h : i < (⟨xs.toArray⟩ : ByteArray).size) : (⟨xs.toArray⟩ : ByteArray)[i]'h = xs[i] := rfl

set_option maxHeartbeats 400000 in
theorem hasDigits_any (xs : List UInt8) (w : World) (hl : xs.length ≤ 1000000000) :
    Calls Tryz.prog 44 #[.string ⟨xs.toArray⟩] w fun e w' => e = .returned (.bool (hasDigs xs)) ∧ w = w' := by
  go_enter Tryz.func44, Tryz.ntmps44
  go_wp2
  go_loop [3] (fun t => ∃ i : Nat, i ≤ xs.length ∧ t = .int .i64 i ∧ (xs.take i).all isDig = true) (fun t => xs.length - (intOf t).toNat)
  case atStart => exact ⟨0, by omega, rfl, by simp⟩
  case round =>
    obtain ⟨i, hi, rfl, hall⟩ := hrel
    have HA := Lib.hid hall
    clear hall
    by_cases hil : i < xs.length
    · have t1 : (i : Int) < (xs.length : Int) := by omega
      have hs : i < (⟨xs.toArray⟩ : ByteArray).size := by rw [str_size]; exact hil
      obtain ⟨c, hc⟩ : ∃ c : Nat, c = xs[i].toNat := ⟨_, rfl⟩
      have hc2 : ((⟨xs.toArray⟩ : ByteArray)[i]'hs).toNat = c := hc.symm
      have HC := Lib.hid hc
      clear hc
      by_cases h1 : c < 48
      · have t2 : ¬ (48 : Int) ≤ ((((⟨xs.toArray⟩ : ByteArray)[i]'hs).toNat : Nat) : Int) := by rw [hc2]; omega
        have HX : Hid (hasDigs xs = false) := hasDigs_false hil (by unfold isDig; rw [← HC.out]; simp; omega)
        clear hc2
        go_wp2
        go_ret
        exact ⟨ret_bool HX.out.symm, rfl⟩
      · have t2 : (48 : Int) ≤ ((((⟨xs.toArray⟩ : ByteArray)[i]'hs).toNat : Nat) : Int) := by rw [hc2]; omega
        by_cases h2 : c ≤ 57
        · have t3 : ((((⟨xs.toArray⟩ : ByteArray)[i]'hs).toNat : Nat) : Int) ≤ 57 := by rw [hc2]; omega
          have HX : Hid (isDig xs[i] = true) := by show _ = _; unfold isDig; rw [← HC.out]; simp; omega
          clear hc2
          go_wp2
          go_round
          case rel => exact ⟨i + 1, by omega, by go_num, all_take_succ hil HA.out HX.out⟩
          case measure => simp [intOf]; omega
        · have t3 : ¬ ((((⟨xs.toArray⟩ : ByteArray)[i]'hs).toNat : Nat) : Int) ≤ 57 := by rw [hc2]; omega
          have HX : Hid (hasDigs xs = false) := hasDigs_false hil (by unfold isDig; rw [← HC.out]; simp; omega)
          clear hc2
          go_wp2
          go_ret
          exact ⟨ret_bool HX.out.symm, rfl⟩
    · have t1 : ¬ (i : Int) < (xs.length : Int) := by omega
      have HX : Hid (xs.all isDig = true) := by
        show _ = _
        have := HA.out
        rwa [List.take_of_length_le (by omega)] at this
      go_wp2
      go_ret
      refine ⟨ret_bool ?_, rfl⟩
      unfold hasDigs
      rw [HX.out]
      cases xs <;> simp

def isPos (xs : List UInt8) : Bool := hasDigs xs && decide (xs.head? ≠ some 48)

theorem hasDigs_ne {xs : List UInt8} (h : hasDigs xs = true) : xs ≠ [] := by
  unfold hasDigs at h
  simp at h
  exact h.2

set_option maxHeartbeats 400000 in
theorem isPositive_any (xs : List UInt8) (w : World) (hl : xs.length ≤ 1000000000) :
    Calls Tryz.prog 31 #[.string ⟨xs.toArray⟩] w fun e w' => e = .returned (.bool (isPos xs)) ∧ w = w' := by
  cases h : hasDigs xs with
  | false =>
    have HE : Hid (isPos xs = false) := by show _ = _; unfold isPos; rw [h]; rfl
    rw [HE.out]
    go_enter Tryz.func31, Tryz.ntmps31
    go_wp2_with fail
    refine (hasDigits_any xs _ hl).mono ?_
    rw [h]
    rintro e w1 ⟨rfl, rfl⟩
    clear h
    go_wp2
    go_ret
    exact ⟨rfl, rfl⟩
  | true =>
    obtain ⟨x, t, rfl⟩ : ∃ x t, xs = x :: t := by
      cases xs with
      | nil => exact absurd rfl (hasDigs_ne h)
      | cons x t => exact ⟨x, t, rfl⟩
    go_enter Tryz.func31, Tryz.ntmps31
    go_wp2_with fail
    refine (hasDigits_any _ _ hl).mono ?_
    rw [h]
    rintro e w1 ⟨rfl, rfl⟩
    have H := Lib.hid h
    clear h
    go_wp2
    go_ret
    refine ⟨ret_bool ?_, rfl⟩
    unfold isPos
    rw [H.out]
    show (((x.toNat : Nat) : Int) != 48) = _
    by_cases hx : x = 48
    · subst hx; rfl
    · have : x.toNat ≠ 48 := fun h => hx (UInt8.toNat_inj.1 h)
      simp [hx]
      omega

def isNum (xs : List UInt8) : Bool := decide (xs = [48]) || isPos (Lib.trimPrefix xs [45])

set_option maxHeartbeats 400000 in
theorem isNumeral_any (xs : List UInt8) (w : World) (hl : xs.length ≤ 1000000000) :
    Calls Tryz.prog 30 #[.string ⟨xs.toArray⟩] w fun e w' => e = .returned (.bool (isNum xs)) ∧ w = w' := by
  by_cases h0 : xs = [48]
  · subst h0
    go_enter Tryz.func30, Tryz.ntmps30
    go_wp2
    go_ret
    exact ⟨rfl, rfl⟩
  · have HE : Hid (isNum xs = isPos (Lib.trimPrefix xs [45])) := by show _ = _; unfold isNum; rw [decide_eq_false h0]; rfl
    rw [HE.out]
    have hle := Lib.trimPrefix_le xs [45]
    go_enter Tryz.func30, Tryz.ntmps30
    go_wp2_with fail
    refine (Tryz.strings_TrimPrefix _ _ _).mono ?_
    rintro e w1 ⟨rfl, rfl⟩
    go_wp2_with fail
    refine (isPositive_any (Lib.trimPrefix xs [45]) _ (by omega)).mono ?_
    rintro e w1 ⟨rfl, rfl⟩
    have H0 := Lib.hid h0
    clear h0
    go_wp2
    go_ret
    refine ⟨ret_bool ?_, rfl⟩
    have : (xs == [48]) = false := by simpa using H0.out
    rw [this, Bool.false_or]
end Go.Proofs.YtcgnmihabkgecaaGreat

/- readDigits. -/
set_option linter.unusedVariables false
namespace Go.Proofs.YtcgnmihabkgecaaGreat
open Go.RowKit Go.Proofs

/-- the number of a row of decimal digits, the highest one first -/
def dec (xs : List UInt8) : Nat := xs.foldl (fun a c => 10 * a + (c.toNat - 48)) 0

theorem foldl_dec (xs : List UInt8) (a : Nat) : xs.foldl (fun a c => 10 * a + (c.toNat - 48)) a = a * 10 ^ xs.length + dec xs := by
  induction xs generalizing a with
  | nil => simp [dec]
  | cons x xs ih =>
    unfold dec
    simp only [List.foldl_cons, List.length_cons]
    rw [ih, ih (10 * 0 + (x.toNat - 48)), Nat.pow_succ]
    grind

theorem dec_append (xs ys : List UInt8) : dec (xs ++ ys) = dec xs * 10 ^ ys.length + dec ys := by
  unfold dec
  rw [List.foldl_append, foldl_dec]
  rfl

theorem dec_snoc (xs : List UInt8) (c : UInt8) : dec (xs ++ [c]) = 10 * dec xs + (c.toNat - 48) := by
  rw [dec_append]; simp [dec, Nat.mul_comm]

theorem dec_lt {xs : List UInt8} (h : xs.all isDig = true) : dec xs < 10 ^ xs.length := by
  obtain ⟨zs, rfl⟩ : ∃ zs, xs = zs.reverse := ⟨xs.reverse, by simp⟩
  induction zs with
  | nil => simp [dec]
  | cons c zs ih =>
    rw [List.reverse_cons] at h ⊢
    rw [List.all_append, Bool.and_eq_true] at h
    have h2 := h.2
    simp [isDig] at h2
    rw [dec_snoc, List.length_append, List.length_singleton, Nat.pow_succ]
    have := ih h.1
    omega

theorem dec_take_succ {xs : List UInt8} {i : Nat} (hi : i < xs.length) : dec (xs.take (i + 1)) = 10 * dec (xs.take i) + (xs[i].toNat - 48) := by
  rw [List.take_succ_eq_append_getElem hi, dec_snoc]

theorem pow10_le {i : Nat} (h : i ≤ 8) : 10 ^ i ≤ 100000000 := Nat.pow_le_pow_right (by decide) h

theorem str_drop (ys : List UInt8) (i : Nat) : (⟨ys.toArray⟩ : ByteArray).extract i ys.length = ⟨(ys.drop i).toArray⟩ := by
  apply ByteArray.ext
  rw [ByteArray.data_extract]
  simp
  rw [List.take_of_length_le (by simp)]

def strLen : Value → Nat
  | .string s => s.size
  | _ => 0

def RdRel (xs : List UInt8) (W : World) (sv dv : Value) (wr : World) : Prop :=
  ∃ (p n : Nat) (zs : List Nat), sv = .string ⟨(xs.drop p).toArray⟩ ∧ p ≤ xs.length ∧ Own .u32 wr W.heap.size 91 dv n zs ∧ Dig B32 zs ∧ Top zs ∧ n ≤ p ∧ val B32 zs = dec (xs.take p) ∧ Below W.heap.size W wr

set_option maxHeartbeats 1000000 in
theorem readDigits_any (xs : List UInt8) (W : World) (hl : xs.length ≤ 100000000) (hd : xs.all isDig = true) :
    Calls Tryz.prog 45 #[.string ⟨xs.toArray⟩] W (Out32 W (dec xs)) := by
  have HD := Lib.hid hd
  clear hd
  go_enter Tryz.func45, Tryz.ntmps45
  go_wp2
  go_loopw [0, 3] (fun sv dv wr => RdRel xs W sv dv wr) (fun sv _ _ => strLen sv)
  case atStart => exact ⟨0, 0, [], by simp, by omega, Own.nil _ _ _ _, Dig.nil _, Top.nil, by omega, rfl, Below.refl _ _⟩
  case round =>
    obtain ⟨p, n, zs, rfl, hp, hown, hdz, ht, hn, hv, hbel⟩ := hrel
    have HO := Lib.hid hown
    have HZ := Lib.hid hdz
    have HT := Lib.hid ht
    have HV := Lib.hid hv
    have HB := Lib.hid hbel
    clear hown hdz ht hv hbel
    obtain ⟨ys, hys⟩ : ∃ ys, ys = xs.drop p := ⟨_, rfl⟩
    rw [← hys]
    have hyl : ys.length = xs.length - p := by rw [hys]; simp
    have HYL := Lib.hid hyl
    have HYS := Lib.hid hys
    clear hys hyl
    have hyb : ys.length ≤ 100000000 := by have := HYL.out; omega
    have HDY : Hid (ys.all isDig = true) := by
      show _ = _
      have h := HD.out
      rw [← List.take_append_drop p xs, List.all_append, Bool.and_eq_true] at h
      rw [HYS.out]; exact h.2
    by_cases h0 : ys.length = 0
    · have hpl : p = xs.length := by have := HYL.out; omega
      have HPL := Lib.hid hpl
      clear hpl
      have t1 : ¬ (0 : Int) < (ys.length : Int) := by omega
      obtain ⟨ao, cap, rfl, hlc, hcm, hsl⟩ := HO.out.sl
      have HS := Lib.hid hsl
      clear hsl
      go_wp2
      go_ret
      exact ⟨ao, n, cap, rfl, ⟨zs, HS.out, HZ.out, HT.out, by rw [HV.out, HPL.out, List.take_length]⟩, HB.out⟩
    · have t1 : (0 : Int) < (ys.length : Int) := by omega
      obtain ⟨s, hs⟩ : ∃ s : Nat, s = (ys.length - 1) % 9 + 1 := ⟨_, rfl⟩
      have e1 : ((ys.length : Int) - 1) % 9 + 1 = (s : Int) := by omega
      have hs9 : s ≤ 9 := by omega
      have hs1 : 1 ≤ s := by omega
      have hsy : s ≤ ys.length := by omega
      have HE1 := Lib.hid e1
      clear e1 hs
      go_wp2_with fail
      rw [HE1.out]
      go_loop [5, 6, 17] (fun gv bv iv => ∃ i : Nat, i ≤ s ∧ iv = .int .i64 (i : Int) ∧ gv = .int .u32 ((dec (ys.take i) : Nat) : Int) ∧ bv = .int .u32 ((10 ^ i : Nat) : Int)) (fun gv bv iv => s - (intOf iv).toNat)
      case atStart => exact ⟨0, by omega, rfl, rfl, rfl⟩
      case round =>
        obtain ⟨i, hi, rfl, rfl, rfl⟩ := hrel
        obtain ⟨b, hb⟩ : ∃ b, b = 10 ^ i := ⟨_, rfl⟩
        obtain ⟨g, hg⟩ : ∃ g, g = dec (ys.take i) := ⟨_, rfl⟩
        have hgb : g < b := by
          have h := HDY.out
          rw [← List.take_append_drop i ys, List.all_append, Bool.and_eq_true] at h
          have := dec_lt h.1
          rw [List.length_take, Nat.min_eq_left (by omega)] at this
          omega
        rw [← hb, ← hg]
        by_cases hil : i = s
        · subst hil
          have t2 : ¬ (i : Int) < (i : Int) := by omega
          have hb0 : 0 < b := by rw [hb]; exact Nat.pow_pos (by decide)
          have hb9 : b ≤ 1000000000 := by rw [hb]; exact (Nat.pow_le_pow_right (by decide) hs9 : 10 ^ i ≤ 10 ^ 9)
          have HBE := Lib.hid hb
          have HGE := Lib.hid hg
          have hnn : n ≤ 1000000000 := by omega
          clear hb hg
          have t6 : (0 : Int) ≤ (i : Int) := by omega
          have t7 : (i : Int) ≤ (ys.length : Int) := by omega
          go_wp2_with fail
          refine (scale_any W.heap.size n _ zs _ _ b g _ HO.out HZ.out HT.out rfl rfl hb0 (by omega) (by omega) hnn HB.out.size).mono ?_
          rintro e w1 ⟨v', m, zs', rfl, hown', hd', hm, hv', ht', hb'⟩
          have J1 := Lib.hid hown'
          have J2 := Lib.hid hd'
          have J3 := Lib.hid hv'
          have J4 := Lib.hid ht'
          have J5 := Lib.hid hb'
          clear hown' hd' hv' ht' hb'
          go_wp2
          rw [str_drop]
          have hi1 : 1 ≤ i := by omega
          refine ⟨⟨p + i, m, zs', ?_, by have := HYL.out; omega, J1.out, J2.out, J4.out, by omega, ?_, HB.out.trans J5.out⟩, ?_⟩
          · rw [HYS.out, List.drop_drop]
          · rw [J3.out, List.take_add, dec_append, HV.out, HGE.out, ← HYS.out, HBE.out, List.length_take, Nat.min_eq_left (by omega), Nat.mul_comm]
          · simp only [strLen, str_size, List.length_drop]
            omega
        · have t2 : (i : Int) < (s : Int) := by omega
          have hb8 : b ≤ 100000000 := by rw [hb]; exact pow10_le (by omega)
          have hiy : i < ys.length := by omega
          have hss : i < (⟨ys.toArray⟩ : ByteArray).size := by rw [str_size]; exact hiy
          have t3 : (i : Int) < (ys.length : Int) := by omega
          have hdg : isDig ys[i] = true := List.all_eq_true.1 HDY.out _ (List.getElem_mem hiy)
          have hdg2 : 48 ≤ ys[i].toNat ∧ ys[i].toNat ≤ 57 := by simpa [isDig] using hdg
          obtain ⟨c, hc⟩ : ∃ c : Nat, c = ys[i].toNat := ⟨_, rfl⟩
          have hc2 : ((⟨ys.toArray⟩ : ByteArray)[i]'hss).toNat = c := hc.symm
          rw [← hc] at hdg2
          have HN : Hid (dec (ys.take (i + 1)) = 10 * g + (c - 48)) := by show _ = _; rw [dec_take_succ hiy, ← hg, ← hc]
          have HBI : Hid (10 ^ (i + 1) = 10 * b) := by show _ = _; rw [Nat.pow_succ, ← hb]; omega
          have t4 : (48 : Int) ≤ ((((⟨ys.toArray⟩ : ByteArray)[i]'hss).toNat : Nat) : Int) := by rw [hc2]; omega
          have t5 : ((((⟨ys.toArray⟩ : ByteArray)[i]'hss).toNat : Nat) : Int) ≤ 57 := by rw [hc2]; omega
          have HC2 := Lib.hid hc2
          clear hb hg hdg hc hc2
          go_wp2
          go_round
          case rel =>
            rw [HC2.out]
            exact ⟨i + 1, by omega, by go_num, by rw [HN.out]; exact congrArg (Value.int _) (by omega), by rw [HBI.out]; exact congrArg (Value.int _) (by omega)⟩
          case measure => simp [intOf]; omega
end Go.Proofs.YtcgnmihabkgecaaGreat
