/- Part 6 of the contracts: Plus, RefE, RefF, Whole, IntA, RatA, Shift. -/
import Derived.Test.YtcgnmihabkgecaaGreatPart5

/- plus. -/
set_option linter.unusedVariables false
namespace Go.Proofs.YtcgnmihabkgecaaGreat
open Go.RowKit

theorem sgn_add (s : Bool) (m n : Nat) : sgn s m + sgn s n = sgn s (m + n) := by cases s <;> simp [sgn]; omega
theorem sgn_lt (s : Bool) {m n : Nat} (h : m < n) : sgn s m + sgn (!s) n = sgn (!s) (n - m) := by cases s <;> simp [sgn] <;> omega
theorem sgn_ge (s : Bool) {m n : Nat} (h : n ≤ m) : sgn s m + sgn (!s) n = sgn s (m - n) := by cases s <;> simp [sgn] <;> omega

set_option maxHeartbeats 2000000 in
theorem plus_same (s : Bool) (ao bo : Option Addr) (la lb ca cb : Nat) (m n : Nat) (W : World) (hm : N32 W ao la m) (hn : N32 W bo lb n) (hla : la ≤ 1000000000) (hlb : lb ≤ 1000000000) :
    Calls Tryz.prog 58 #[.agg #[.bool s, .slice ao la ca], .agg #[.bool s, .slice bo lb cb]] W (OutI W (sgn s (m + n))) := by
  have hf : Fr W (((W.alloc (.cells #[.bool s, .slice ao la ca] 25)).alloc (.cells #[.bool s, .slice bo lb cb] 25)).alloc (.cells #[.bool false, .slice none 0 0] 25))
      [(25, #[.bool s, .slice ao la ca]), (25, #[.bool s, .slice bo lb cb]), (25, #[.bool false, .slice none 0 0])] :=
    (((Fr.nil W).alloc rfl _ _).alloc (by simp) _ _).alloc (by simp) _ _
  have HM := Lib.hid (hm.keep hf.below)
  have HN := Lib.hid (hn.keep hf.below)
  clear hm hn
  go_enter Tryz.func58, Tryz.ntmps58
  go_wp2_with fail
  obtain ⟨W3, hW3⟩ : ∃ W3, W3 = ((W.alloc (.cells #[.bool s, .slice ao la ca] 25)).alloc (.cells #[.bool s, .slice bo lb cb] 25)).alloc (.cells #[.bool false, .slice none 0 0] 25) := ⟨_, rfl⟩
  rw [← hW3] at hf HM HN ⊢
  clear hW3
  have HF := Lib.hid hf
  clear hf
  have c0 : W3.cell? ⟨W.heap.size, 0, none⟩ = some (.bool s) := HF.out.cell 0 0 rfl rfl
  have c1 : W3.cell? ⟨W.heap.size, 1, none⟩ = some (.slice ao la ca) := HF.out.cell 0 1 rfl rfl
  have c2 : W3.cell? ⟨W.heap.size + 1, 0, none⟩ = some (.bool s) := HF.out.cell 1 0 rfl rfl
  have c3 : W3.cell? ⟨W.heap.size + 1, 1, none⟩ = some (.slice bo lb cb) := HF.out.cell 1 1 rfl rfl
  go_region_held3 (fun w' => w'.cell? ⟨W.heap.size, 0, none⟩ = some (.bool s) ∧ w'.cell? ⟨W.heap.size, 1, none⟩ = some (.slice ao la ca) ∧ w'.cell? ⟨W.heap.size + 1, 0, none⟩ = some (.bool s) ∧ w'.cell? ⟨W.heap.size + 1, 1, none⟩ = some (.slice bo lb cb)) (first | (go_keep; done) | ((try dsimp only); (repeat' apply And.intro) <;> (first | (go_keep; done) | (rw [cell_set2 _ _ _ _ _ _ (by omega)]; assumption))))
    (first | (go_at_call 66; refine (sum_any _ _ _ _ _ _ m n W3.drew HM.out HN.out hla hlb).mono ?_; rintro e u1 ⟨po, pl, pc, rfl, hp, hb1⟩; have HB1 := Lib.hid (below_of_drew hb1); have HP := Lib.hid hp; have HF1 := Lib.hid (HF.out.later HB1.out); clear hb1 hp; have k0 : u1.cell? ⟨W.heap.size, 0, none⟩ = some (.bool s) := HF1.out.cell 0 0 rfl rfl; have k1 : u1.cell? ⟨W.heap.size, 1, none⟩ = some (.slice ao la ca) := HF1.out.cell 0 1 rfl rfl; have k2 : u1.cell? ⟨W.heap.size + 1, 0, none⟩ = some (.bool s) := HF1.out.cell 1 0 rfl rfl; have k3 : u1.cell? ⟨W.heap.size + 1, 1, none⟩ = some (.slice bo lb cb) := HF1.out.cell 1 1 rfl rfl) | (go_at_call 46; refine (signed_any s _ _ _ (m + n) _ HP.out).mono ?_; rintro e u2 ⟨neg, so, sl, sc, rfl, hz, hb2⟩; have HF2 := Lib.hid (HF1.out.later hb2); have HZ := Lib.hid hz; clear hb2 hz; have j0 : u2.cell? ⟨W.heap.size, 0, none⟩ = some (.bool s) := HF2.out.cell 0 0 rfl rfl; have j1 : u2.cell? ⟨W.heap.size, 1, none⟩ = some (.slice ao la ca) := HF2.out.cell 0 1 rfl rfl; have j2 : u2.cell? ⟨W.heap.size + 1, 0, none⟩ = some (.bool s) := HF2.out.cell 1 0 rfl rfl; have j3 : u2.cell? ⟨W.heap.size + 1, 1, none⟩ = some (.slice bo lb cb) := HF2.out.cell 1 1 rfl rfl; have g0 : u2.cell? ⟨W.heap.size + 2, 0, none⟩ = some (.bool false) := HF2.out.cell 2 0 rfl rfl; have g1 : u2.cell? ⟨W.heap.size + 2, 1, none⟩ = some (.slice none 0 0) := HF2.out.cell 2 1 rfl rfl; have g2 : u2.frozen? ⟨W.heap.size + 2, 0, none⟩ = false := HF2.out.frozen 2 0 rfl; have g3 : u2.frozen? ⟨W.heap.size + 2, 1, none⟩ = false := HF2.out.frozen 2 1 rfl))
  go_wp2
  obtain ⟨e0, e1, hz, hbel, _⟩ := HF2.out.finI (cap := sc) 2 rfl HZ.out
  exact bodyPost_ret (v := .agg #[.bool neg, .slice so sl sc]) (by simp [results, Tryz.results58, go_sem, e0, e1]) rfl ⟨neg, so, sl, sc, rfl, hz, hbel⟩

set_option maxHeartbeats 2000000 in
theorem plus_lt (s : Bool) (ao bo : Option Addr) (la lb ca cb : Nat) (m n : Nat) (W : World) (hm : N32 W ao la m) (hn : N32 W bo lb n) (hla : la ≤ 1000000000) (hlb : lb ≤ 1000000000) (hlt : m < n) :
    Calls Tryz.prog 58 #[.agg #[.bool s, .slice ao la ca], .agg #[.bool (!s), .slice bo lb cb]] W (OutI W (sgn (!s) (n - m))) := by
  have hf : Fr W (((W.alloc (.cells #[.bool s, .slice ao la ca] 25)).alloc (.cells #[.bool (!s), .slice bo lb cb] 25)).alloc (.cells #[.bool false, .slice none 0 0] 25))
      [(25, #[.bool s, .slice ao la ca]), (25, #[.bool (!s), .slice bo lb cb]), (25, #[.bool false, .slice none 0 0])] :=
    (((Fr.nil W).alloc rfl _ _).alloc (by simp) _ _).alloc (by simp) _ _
  have HM := Lib.hid (hm.keep hf.below)
  have HN := Lib.hid (hn.keep hf.below)
  clear hm hn
  have hbb : (s == !s) = false := by cases s <;> rfl
  go_enter Tryz.func58, Tryz.ntmps58
  go_wp2_with fail
  obtain ⟨W3, hW3⟩ : ∃ W3, W3 = ((W.alloc (.cells #[.bool s, .slice ao la ca] 25)).alloc (.cells #[.bool (!s), .slice bo lb cb] 25)).alloc (.cells #[.bool false, .slice none 0 0] 25) := ⟨_, rfl⟩
  rw [← hW3] at hf HM HN ⊢
  clear hW3
  have HF0 := Lib.hid hf
  clear hf
  have c0 : W3.cell? ⟨W.heap.size, 0, none⟩ = some (.bool s) := HF0.out.cell 0 0 rfl rfl
  have c1 : W3.cell? ⟨W.heap.size, 1, none⟩ = some (.slice ao la ca) := HF0.out.cell 0 1 rfl rfl
  have c2 : W3.cell? ⟨W.heap.size + 1, 0, none⟩ = some (.bool (!s)) := HF0.out.cell 1 0 rfl rfl
  have c3 : W3.cell? ⟨W.heap.size + 1, 1, none⟩ = some (.slice bo lb cb) := HF0.out.cell 1 1 rfl rfl
  go_wp2_with fail
  refine (compare_any _ _ _ _ _ _ m n W3 HM.out HN.out hla hlb).mono ?_
  rintro e w1 ⟨rfl, hdr⟩
  rw [cmpN_lt hlt]
  have HF := Lib.hid (HF0.out.later hdr.below)
  have HM1 := Lib.hid (HM.out.keep hdr.below)
  have HN1 := Lib.hid (HN.out.keep hdr.below)
  clear hdr c0 c1 c2 c3
  have d0 : w1.cell? ⟨W.heap.size, 0, none⟩ = some (.bool s) := HF.out.cell 0 0 rfl rfl
  have d1 : w1.cell? ⟨W.heap.size, 1, none⟩ = some (.slice ao la ca) := HF.out.cell 0 1 rfl rfl
  have d2 : w1.cell? ⟨W.heap.size + 1, 0, none⟩ = some (.bool (!s)) := HF.out.cell 1 0 rfl rfl
  have d3 : w1.cell? ⟨W.heap.size + 1, 1, none⟩ = some (.slice bo lb cb) := HF.out.cell 1 1 rfl rfl
  go_wp2_with fail
  go_region_held3 (fun w' => w'.cell? ⟨W.heap.size, 0, none⟩ = some (.bool s) ∧ w'.cell? ⟨W.heap.size, 1, none⟩ = some (.slice ao la ca) ∧ w'.cell? ⟨W.heap.size + 1, 0, none⟩ = some (.bool (!s)) ∧ w'.cell? ⟨W.heap.size + 1, 1, none⟩ = some (.slice bo lb cb)) (first | (go_keep; done) | ((try dsimp only); (repeat' apply And.intro) <;> (first | (go_keep; done) | (rw [cell_set2 _ _ _ _ _ _ (by omega)]; assumption))))
    (first | (go_at_call 72; refine (difference_any _ _ _ _ _ _ n m w1.drew HN1.out HM1.out hlb (Nat.le_of_lt hlt)).mono ?_; rintro e u1 ⟨po, pl, pc, rfl, hp, hb1⟩; have HB1 := Lib.hid (below_of_drew hb1); have HP := Lib.hid hp; have HF1 := Lib.hid (HF.out.later HB1.out); clear hb1 hp; have k0 : u1.cell? ⟨W.heap.size, 0, none⟩ = some (.bool s) := HF1.out.cell 0 0 rfl rfl; have k1 : u1.cell? ⟨W.heap.size, 1, none⟩ = some (.slice ao la ca) := HF1.out.cell 0 1 rfl rfl; have k2 : u1.cell? ⟨W.heap.size + 1, 0, none⟩ = some (.bool (!s)) := HF1.out.cell 1 0 rfl rfl; have k3 : u1.cell? ⟨W.heap.size + 1, 1, none⟩ = some (.slice bo lb cb) := HF1.out.cell 1 1 rfl rfl) | (go_at_call 46; refine (signed_any (!s) _ _ _ (n - m) _ HP.out).mono ?_; rintro e u2 ⟨neg, so, sl, sc, rfl, hz, hb2⟩; have HF2 := Lib.hid (HF1.out.later hb2); have HZ := Lib.hid hz; clear hb2 hz; have j0 : u2.cell? ⟨W.heap.size, 0, none⟩ = some (.bool s) := HF2.out.cell 0 0 rfl rfl; have j1 : u2.cell? ⟨W.heap.size, 1, none⟩ = some (.slice ao la ca) := HF2.out.cell 0 1 rfl rfl; have j2 : u2.cell? ⟨W.heap.size + 1, 0, none⟩ = some (.bool (!s)) := HF2.out.cell 1 0 rfl rfl; have j3 : u2.cell? ⟨W.heap.size + 1, 1, none⟩ = some (.slice bo lb cb) := HF2.out.cell 1 1 rfl rfl; have g0 : u2.cell? ⟨W.heap.size + 2, 0, none⟩ = some (.bool false) := HF2.out.cell 2 0 rfl rfl; have g1 : u2.cell? ⟨W.heap.size + 2, 1, none⟩ = some (.slice none 0 0) := HF2.out.cell 2 1 rfl rfl; have g2 : u2.frozen? ⟨W.heap.size + 2, 0, none⟩ = false := HF2.out.frozen 2 0 rfl; have g3 : u2.frozen? ⟨W.heap.size + 2, 1, none⟩ = false := HF2.out.frozen 2 1 rfl))
  go_wp2
  obtain ⟨e0, e1, hz, hbel, _⟩ := HF2.out.finI (cap := sc) 2 rfl HZ.out
  exact bodyPost_ret (v := .agg #[.bool neg, .slice so sl sc]) (by simp [results, Tryz.results58, go_sem, e0, e1]) rfl ⟨neg, so, sl, sc, rfl, hz, hbel⟩

set_option maxHeartbeats 2000000 in
theorem plus_ge (s : Bool) (ao bo : Option Addr) (la lb ca cb : Nat) (m n : Nat) (W : World) (hm : N32 W ao la m) (hn : N32 W bo lb n) (hla : la ≤ 1000000000) (hlb : lb ≤ 1000000000) (hlt : n ≤ m) :
    Calls Tryz.prog 58 #[.agg #[.bool s, .slice ao la ca], .agg #[.bool (!s), .slice bo lb cb]] W (OutI W (sgn s (m - n))) := by
  have hf : Fr W (((W.alloc (.cells #[.bool s, .slice ao la ca] 25)).alloc (.cells #[.bool (!s), .slice bo lb cb] 25)).alloc (.cells #[.bool false, .slice none 0 0] 25))
      [(25, #[.bool s, .slice ao la ca]), (25, #[.bool (!s), .slice bo lb cb]), (25, #[.bool false, .slice none 0 0])] :=
    (((Fr.nil W).alloc rfl _ _).alloc (by simp) _ _).alloc (by simp) _ _
  have HM := Lib.hid (hm.keep hf.below)
  have HN := Lib.hid (hn.keep hf.below)
  clear hm hn
  have hbb : (s == !s) = false := by cases s <;> rfl
  go_enter Tryz.func58, Tryz.ntmps58
  go_wp2_with fail
  obtain ⟨W3, hW3⟩ : ∃ W3, W3 = ((W.alloc (.cells #[.bool s, .slice ao la ca] 25)).alloc (.cells #[.bool (!s), .slice bo lb cb] 25)).alloc (.cells #[.bool false, .slice none 0 0] 25) := ⟨_, rfl⟩
  rw [← hW3] at hf HM HN ⊢
  clear hW3
  have HF0 := Lib.hid hf
  clear hf
  have c0 : W3.cell? ⟨W.heap.size, 0, none⟩ = some (.bool s) := HF0.out.cell 0 0 rfl rfl
  have c1 : W3.cell? ⟨W.heap.size, 1, none⟩ = some (.slice ao la ca) := HF0.out.cell 0 1 rfl rfl
  have c2 : W3.cell? ⟨W.heap.size + 1, 0, none⟩ = some (.bool (!s)) := HF0.out.cell 1 0 rfl rfl
  have c3 : W3.cell? ⟨W.heap.size + 1, 1, none⟩ = some (.slice bo lb cb) := HF0.out.cell 1 1 rfl rfl
  go_wp2_with fail
  refine (compare_any _ _ _ _ _ _ m n W3 HM.out HN.out hla hlb).mono ?_
  rintro e w1 ⟨rfl, hdr⟩
  obtain ⟨z, hz⟩ : ∃ z, z = cmpN m n := ⟨_, rfl⟩
  rw [← hz]
  have tz : 0 ≤ z := by rw [hz]; unfold cmpN; rw [if_neg (by omega)]; split <;> decide
  have tn : ¬ z < 0 := by omega
  clear hz
  have HF := Lib.hid (HF0.out.later hdr.below)
  have HM1 := Lib.hid (HM.out.keep hdr.below)
  have HN1 := Lib.hid (HN.out.keep hdr.below)
  clear hdr c0 c1 c2 c3
  have d0 : w1.cell? ⟨W.heap.size, 0, none⟩ = some (.bool s) := HF.out.cell 0 0 rfl rfl
  have d1 : w1.cell? ⟨W.heap.size, 1, none⟩ = some (.slice ao la ca) := HF.out.cell 0 1 rfl rfl
  have d2 : w1.cell? ⟨W.heap.size + 1, 0, none⟩ = some (.bool (!s)) := HF.out.cell 1 0 rfl rfl
  have d3 : w1.cell? ⟨W.heap.size + 1, 1, none⟩ = some (.slice bo lb cb) := HF.out.cell 1 1 rfl rfl
  go_wp2_with fail
  go_region_held3 (fun w' => w'.cell? ⟨W.heap.size, 0, none⟩ = some (.bool s) ∧ w'.cell? ⟨W.heap.size, 1, none⟩ = some (.slice ao la ca) ∧ w'.cell? ⟨W.heap.size + 1, 0, none⟩ = some (.bool (!s)) ∧ w'.cell? ⟨W.heap.size + 1, 1, none⟩ = some (.slice bo lb cb)) (first | (go_keep; done) | ((try dsimp only); (repeat' apply And.intro) <;> (first | (go_keep; done) | (rw [cell_set2 _ _ _ _ _ _ (by omega)]; assumption))))
    (first | (go_at_call 72; refine (difference_any _ _ _ _ _ _ m n w1.drew HM1.out HN1.out hla hlt).mono ?_; rintro e u1 ⟨po, pl, pc, rfl, hp, hb1⟩; have HB1 := Lib.hid (below_of_drew hb1); have HP := Lib.hid hp; have HF1 := Lib.hid (HF.out.later HB1.out); clear hb1 hp; have k0 : u1.cell? ⟨W.heap.size, 0, none⟩ = some (.bool s) := HF1.out.cell 0 0 rfl rfl; have k1 : u1.cell? ⟨W.heap.size, 1, none⟩ = some (.slice ao la ca) := HF1.out.cell 0 1 rfl rfl; have k2 : u1.cell? ⟨W.heap.size + 1, 0, none⟩ = some (.bool (!s)) := HF1.out.cell 1 0 rfl rfl; have k3 : u1.cell? ⟨W.heap.size + 1, 1, none⟩ = some (.slice bo lb cb) := HF1.out.cell 1 1 rfl rfl) | (go_at_call 46; refine (signed_any s _ _ _ (m - n) _ HP.out).mono ?_; rintro e u2 ⟨neg, so, sl, sc, rfl, hz, hb2⟩; have HF2 := Lib.hid (HF1.out.later hb2); have HZ := Lib.hid hz; clear hb2 hz; have j0 : u2.cell? ⟨W.heap.size, 0, none⟩ = some (.bool s) := HF2.out.cell 0 0 rfl rfl; have j1 : u2.cell? ⟨W.heap.size, 1, none⟩ = some (.slice ao la ca) := HF2.out.cell 0 1 rfl rfl; have j2 : u2.cell? ⟨W.heap.size + 1, 0, none⟩ = some (.bool (!s)) := HF2.out.cell 1 0 rfl rfl; have j3 : u2.cell? ⟨W.heap.size + 1, 1, none⟩ = some (.slice bo lb cb) := HF2.out.cell 1 1 rfl rfl; have g0 : u2.cell? ⟨W.heap.size + 2, 0, none⟩ = some (.bool false) := HF2.out.cell 2 0 rfl rfl; have g1 : u2.cell? ⟨W.heap.size + 2, 1, none⟩ = some (.slice none 0 0) := HF2.out.cell 2 1 rfl rfl; have g2 : u2.frozen? ⟨W.heap.size + 2, 0, none⟩ = false := HF2.out.frozen 2 0 rfl; have g3 : u2.frozen? ⟨W.heap.size + 2, 1, none⟩ = false := HF2.out.frozen 2 1 rfl))
  go_wp2
  obtain ⟨e0, e1, hz, hbel, _⟩ := HF2.out.finI (cap := sc) 2 rfl HZ.out
  exact bodyPost_ret (v := .agg #[.bool neg, .slice so sl sc]) (by simp [results, Tryz.results58, go_sem, e0, e1]) rfl ⟨neg, so, sl, sc, rfl, hz, hbel⟩

theorem plus_any (na nb : Bool) (ao bo : Option Addr) (la lb ca cb : Nat) (x y : Int) (W : World) (ha : Z32 W na ao la x) (hb : Z32 W nb bo lb y) (hla : la ≤ 1000000000) (hlb : lb ≤ 1000000000) :
    Calls Tryz.prog 58 #[.agg #[.bool na, .slice ao la ca], .agg #[.bool nb, .slice bo lb cb]] W (OutI W (x + y)) := by
  obtain ⟨m, hm, rfl, hpm⟩ := ha
  obtain ⟨n, hn, rfl, hpn⟩ := hb
  by_cases h : na = nb
  · subst h
    rw [sgn_add]
    exact plus_same na ao bo la lb ca cb m n W hm hn hla hlb
  · obtain rfl : nb = !na := by cases na <;> cases nb <;> simp_all
    rcases Nat.lt_or_ge m n with hlt | hlt
    · rw [sgn_lt na hlt]
      exact plus_lt na ao bo la lb ca cb m n W hm hn hla hlb hlt
    · rw [sgn_ge na hlt]
      exact plus_ge na ao bo la lb ca cb m n W hm hn hla hlb hlt
end Go.Proofs.YtcgnmihabkgecaaGreat

/- The specification: Add. -/
set_option linter.unusedVariables false
namespace Go.Proofs.YtcgnmihabkgecaaGreat
open Go.RowKit

set_option maxHeartbeats 2000000 in
theorem plus16_same (s : Bool) (ao bo : Option Addr) (la lb ca cb : Nat) (m n : Nat) (W : World) (hm : N16 W ao la m) (hn : N16 W bo lb n) (hla : la ≤ 1000000000) (hlb : lb ≤ 1000000000) :
    Calls Tryz.prog 115 #[.agg #[.bool s, .slice ao la ca], .agg #[.bool s, .slice bo lb cb]] W (OutJ W (sgn s (m + n))) := by
  have hf : Fr W (((W.alloc (.cells #[.bool s, .slice ao la ca] 33)).alloc (.cells #[.bool s, .slice bo lb cb] 33)).alloc (.cells #[.bool false, .slice none 0 0] 33))
      [(33, #[.bool s, .slice ao la ca]), (33, #[.bool s, .slice bo lb cb]), (33, #[.bool false, .slice none 0 0])] :=
    (((Fr.nil W).alloc rfl _ _).alloc (by simp) _ _).alloc (by simp) _ _
  have HM := Lib.hid (hm.keep hf.below)
  have HN := Lib.hid (hn.keep hf.below)
  clear hm hn
  go_enter Tryz.func115, Tryz.ntmps115
  go_wp2_with fail
  obtain ⟨W3, hW3⟩ : ∃ W3, W3 = ((W.alloc (.cells #[.bool s, .slice ao la ca] 33)).alloc (.cells #[.bool s, .slice bo lb cb] 33)).alloc (.cells #[.bool false, .slice none 0 0] 33) := ⟨_, rfl⟩
  rw [← hW3] at hf HM HN ⊢
  clear hW3
  have HF := Lib.hid hf
  clear hf
  have c0 : W3.cell? ⟨W.heap.size, 0, none⟩ = some (.bool s) := HF.out.cell 0 0 rfl rfl
  have c1 : W3.cell? ⟨W.heap.size, 1, none⟩ = some (.slice ao la ca) := HF.out.cell 0 1 rfl rfl
  have c2 : W3.cell? ⟨W.heap.size + 1, 0, none⟩ = some (.bool s) := HF.out.cell 1 0 rfl rfl
  have c3 : W3.cell? ⟨W.heap.size + 1, 1, none⟩ = some (.slice bo lb cb) := HF.out.cell 1 1 rfl rfl
  go_region_held3 (fun w' => w'.cell? ⟨W.heap.size, 0, none⟩ = some (.bool s) ∧ w'.cell? ⟨W.heap.size, 1, none⟩ = some (.slice ao la ca) ∧ w'.cell? ⟨W.heap.size + 1, 0, none⟩ = some (.bool s) ∧ w'.cell? ⟨W.heap.size + 1, 1, none⟩ = some (.slice bo lb cb)) (first | (go_keep; done) | ((try dsimp only); (repeat' apply And.intro) <;> (first | (go_keep; done) | (rw [cell_set2 _ _ _ _ _ _ (by omega)]; assumption))))
    (first | (go_at_call 84; refine (add_any _ _ _ _ _ _ m n W3.drew HM.out HN.out hla hlb).mono ?_; rintro e u1 ⟨po, pl, pc, rfl, hlc1, hcm1, hp, hb1⟩; have HB1 := Lib.hid (below_of_drew hb1); have HP := Lib.hid hp; have HF1 := Lib.hid (HF.out.later HB1.out); clear hb1 hp; have k0 : u1.cell? ⟨W.heap.size, 0, none⟩ = some (.bool s) := HF1.out.cell 0 0 rfl rfl; have k1 : u1.cell? ⟨W.heap.size, 1, none⟩ = some (.slice ao la ca) := HF1.out.cell 0 1 rfl rfl; have k2 : u1.cell? ⟨W.heap.size + 1, 0, none⟩ = some (.bool s) := HF1.out.cell 1 0 rfl rfl; have k3 : u1.cell? ⟨W.heap.size + 1, 1, none⟩ = some (.slice bo lb cb) := HF1.out.cell 1 1 rfl rfl) | (go_at_call 53; refine (made_any s _ _ _ (m + n) _ HP.out hlc1 hcm1).mono ?_; rintro e u2 ⟨neg, so, sl, sc, rfl, hlc2, hcm2, hz, hb2⟩; have HF2 := Lib.hid (HF1.out.later hb2); have HZ := Lib.hid hz; clear hb2 hz; have j0 : u2.cell? ⟨W.heap.size, 0, none⟩ = some (.bool s) := HF2.out.cell 0 0 rfl rfl; have j1 : u2.cell? ⟨W.heap.size, 1, none⟩ = some (.slice ao la ca) := HF2.out.cell 0 1 rfl rfl; have j2 : u2.cell? ⟨W.heap.size + 1, 0, none⟩ = some (.bool s) := HF2.out.cell 1 0 rfl rfl; have j3 : u2.cell? ⟨W.heap.size + 1, 1, none⟩ = some (.slice bo lb cb) := HF2.out.cell 1 1 rfl rfl; have g0 : u2.cell? ⟨W.heap.size + 2, 0, none⟩ = some (.bool false) := HF2.out.cell 2 0 rfl rfl; have g1 : u2.cell? ⟨W.heap.size + 2, 1, none⟩ = some (.slice none 0 0) := HF2.out.cell 2 1 rfl rfl; have g2 : u2.frozen? ⟨W.heap.size + 2, 0, none⟩ = false := HF2.out.frozen 2 0 rfl; have g3 : u2.frozen? ⟨W.heap.size + 2, 1, none⟩ = false := HF2.out.frozen 2 1 rfl))
  go_wp2
  obtain ⟨e0, e1, hz, hbel, _⟩ := HF2.out.finJ (cap := sc) 2 rfl HZ.out
  exact bodyPost_ret (v := .agg #[.bool neg, .slice so sl sc]) (by simp [results, Tryz.results115, go_sem, e0, e1]) rfl ⟨neg, so, sl, sc, rfl, hlc2, hcm2, hz, hbel⟩

set_option maxHeartbeats 2000000 in
theorem plus16_lt (s : Bool) (ao bo : Option Addr) (la lb ca cb : Nat) (m n : Nat) (W : World) (hm : N16 W ao la m) (hn : N16 W bo lb n) (hla : la ≤ 1000000000) (hlb : lb ≤ 1000000000) (hlt : m < n) :
    Calls Tryz.prog 115 #[.agg #[.bool s, .slice ao la ca], .agg #[.bool (!s), .slice bo lb cb]] W (OutJ W (sgn (!s) (n - m))) := by
  have hf : Fr W (((W.alloc (.cells #[.bool s, .slice ao la ca] 33)).alloc (.cells #[.bool (!s), .slice bo lb cb] 33)).alloc (.cells #[.bool false, .slice none 0 0] 33))
      [(33, #[.bool s, .slice ao la ca]), (33, #[.bool (!s), .slice bo lb cb]), (33, #[.bool false, .slice none 0 0])] :=
    (((Fr.nil W).alloc rfl _ _).alloc (by simp) _ _).alloc (by simp) _ _
  have HM := Lib.hid (hm.keep hf.below)
  have HN := Lib.hid (hn.keep hf.below)
  clear hm hn
  have hbb : (s == !s) = false := by cases s <;> rfl
  go_enter Tryz.func115, Tryz.ntmps115
  go_wp2_with fail
  obtain ⟨W3, hW3⟩ : ∃ W3, W3 = ((W.alloc (.cells #[.bool s, .slice ao la ca] 33)).alloc (.cells #[.bool (!s), .slice bo lb cb] 33)).alloc (.cells #[.bool false, .slice none 0 0] 33) := ⟨_, rfl⟩
  rw [← hW3] at hf HM HN ⊢
  clear hW3
  have HF0 := Lib.hid hf
  clear hf
  have c0 : W3.cell? ⟨W.heap.size, 0, none⟩ = some (.bool s) := HF0.out.cell 0 0 rfl rfl
  have c1 : W3.cell? ⟨W.heap.size, 1, none⟩ = some (.slice ao la ca) := HF0.out.cell 0 1 rfl rfl
  have c2 : W3.cell? ⟨W.heap.size + 1, 0, none⟩ = some (.bool (!s)) := HF0.out.cell 1 0 rfl rfl
  have c3 : W3.cell? ⟨W.heap.size + 1, 1, none⟩ = some (.slice bo lb cb) := HF0.out.cell 1 1 rfl rfl
  go_wp2_with fail
  refine (cmp16_any _ _ _ _ _ _ m n W3 HM.out HN.out hla hlb).mono ?_
  rintro e w1 ⟨rfl, hdr⟩
  rw [cmpN_lt hlt]
  have HF := Lib.hid (HF0.out.later hdr.below)
  have HM1 := Lib.hid (HM.out.keep hdr.below)
  have HN1 := Lib.hid (HN.out.keep hdr.below)
  clear hdr c0 c1 c2 c3
  have d0 : w1.cell? ⟨W.heap.size, 0, none⟩ = some (.bool s) := HF.out.cell 0 0 rfl rfl
  have d1 : w1.cell? ⟨W.heap.size, 1, none⟩ = some (.slice ao la ca) := HF.out.cell 0 1 rfl rfl
  have d2 : w1.cell? ⟨W.heap.size + 1, 0, none⟩ = some (.bool (!s)) := HF.out.cell 1 0 rfl rfl
  have d3 : w1.cell? ⟨W.heap.size + 1, 1, none⟩ = some (.slice bo lb cb) := HF.out.cell 1 1 rfl rfl
  go_wp2_with fail
  go_region_held3 (fun w' => w'.cell? ⟨W.heap.size, 0, none⟩ = some (.bool s) ∧ w'.cell? ⟨W.heap.size, 1, none⟩ = some (.slice ao la ca) ∧ w'.cell? ⟨W.heap.size + 1, 0, none⟩ = some (.bool (!s)) ∧ w'.cell? ⟨W.heap.size + 1, 1, none⟩ = some (.slice bo lb cb)) (first | (go_keep; done) | ((try dsimp only); (repeat' apply And.intro) <;> (first | (go_keep; done) | (rw [cell_set2 _ _ _ _ _ _ (by omega)]; assumption))))
    (first | (go_at_call 113; refine (sub16_any _ _ _ _ _ _ n m w1.drew HN1.out HM1.out hlb (Nat.le_of_lt hlt)).mono ?_; rintro e u1 ⟨po, pl, pc, rfl, hlc1, hcm1, hp, hb1⟩; have HB1 := Lib.hid (below_of_drew hb1); have HP := Lib.hid hp; have HF1 := Lib.hid (HF.out.later HB1.out); clear hb1 hp; have k0 : u1.cell? ⟨W.heap.size, 0, none⟩ = some (.bool s) := HF1.out.cell 0 0 rfl rfl; have k1 : u1.cell? ⟨W.heap.size, 1, none⟩ = some (.slice ao la ca) := HF1.out.cell 0 1 rfl rfl; have k2 : u1.cell? ⟨W.heap.size + 1, 0, none⟩ = some (.bool (!s)) := HF1.out.cell 1 0 rfl rfl; have k3 : u1.cell? ⟨W.heap.size + 1, 1, none⟩ = some (.slice bo lb cb) := HF1.out.cell 1 1 rfl rfl) | (go_at_call 53; refine (made_any (!s) _ _ _ (n - m) _ HP.out hlc1 hcm1).mono ?_; rintro e u2 ⟨neg, so, sl, sc, rfl, hlc2, hcm2, hz, hb2⟩; have HF2 := Lib.hid (HF1.out.later hb2); have HZ := Lib.hid hz; clear hb2 hz; have j0 : u2.cell? ⟨W.heap.size, 0, none⟩ = some (.bool s) := HF2.out.cell 0 0 rfl rfl; have j1 : u2.cell? ⟨W.heap.size, 1, none⟩ = some (.slice ao la ca) := HF2.out.cell 0 1 rfl rfl; have j2 : u2.cell? ⟨W.heap.size + 1, 0, none⟩ = some (.bool (!s)) := HF2.out.cell 1 0 rfl rfl; have j3 : u2.cell? ⟨W.heap.size + 1, 1, none⟩ = some (.slice bo lb cb) := HF2.out.cell 1 1 rfl rfl; have g0 : u2.cell? ⟨W.heap.size + 2, 0, none⟩ = some (.bool false) := HF2.out.cell 2 0 rfl rfl; have g1 : u2.cell? ⟨W.heap.size + 2, 1, none⟩ = some (.slice none 0 0) := HF2.out.cell 2 1 rfl rfl; have g2 : u2.frozen? ⟨W.heap.size + 2, 0, none⟩ = false := HF2.out.frozen 2 0 rfl; have g3 : u2.frozen? ⟨W.heap.size + 2, 1, none⟩ = false := HF2.out.frozen 2 1 rfl))
  go_wp2
  obtain ⟨e0, e1, hz, hbel, _⟩ := HF2.out.finJ (cap := sc) 2 rfl HZ.out
  exact bodyPost_ret (v := .agg #[.bool neg, .slice so sl sc]) (by simp [results, Tryz.results115, go_sem, e0, e1]) rfl ⟨neg, so, sl, sc, rfl, hlc2, hcm2, hz, hbel⟩

set_option maxHeartbeats 2000000 in
theorem plus16_ge (s : Bool) (ao bo : Option Addr) (la lb ca cb : Nat) (m n : Nat) (W : World) (hm : N16 W ao la m) (hn : N16 W bo lb n) (hla : la ≤ 1000000000) (hlb : lb ≤ 1000000000) (hlt : n ≤ m) :
    Calls Tryz.prog 115 #[.agg #[.bool s, .slice ao la ca], .agg #[.bool (!s), .slice bo lb cb]] W (OutJ W (sgn s (m - n))) := by
  have hf : Fr W (((W.alloc (.cells #[.bool s, .slice ao la ca] 33)).alloc (.cells #[.bool (!s), .slice bo lb cb] 33)).alloc (.cells #[.bool false, .slice none 0 0] 33))
      [(33, #[.bool s, .slice ao la ca]), (33, #[.bool (!s), .slice bo lb cb]), (33, #[.bool false, .slice none 0 0])] :=
    (((Fr.nil W).alloc rfl _ _).alloc (by simp) _ _).alloc (by simp) _ _
  have HM := Lib.hid (hm.keep hf.below)
  have HN := Lib.hid (hn.keep hf.below)
  clear hm hn
  have hbb : (s == !s) = false := by cases s <;> rfl
  go_enter Tryz.func115, Tryz.ntmps115
  go_wp2_with fail
  obtain ⟨W3, hW3⟩ : ∃ W3, W3 = ((W.alloc (.cells #[.bool s, .slice ao la ca] 33)).alloc (.cells #[.bool (!s), .slice bo lb cb] 33)).alloc (.cells #[.bool false, .slice none 0 0] 33) := ⟨_, rfl⟩
  rw [← hW3] at hf HM HN ⊢
  clear hW3
  have HF0 := Lib.hid hf
  clear hf
  have c0 : W3.cell? ⟨W.heap.size, 0, none⟩ = some (.bool s) := HF0.out.cell 0 0 rfl rfl
  have c1 : W3.cell? ⟨W.heap.size, 1, none⟩ = some (.slice ao la ca) := HF0.out.cell 0 1 rfl rfl
  have c2 : W3.cell? ⟨W.heap.size + 1, 0, none⟩ = some (.bool (!s)) := HF0.out.cell 1 0 rfl rfl
  have c3 : W3.cell? ⟨W.heap.size + 1, 1, none⟩ = some (.slice bo lb cb) := HF0.out.cell 1 1 rfl rfl
  go_wp2_with fail
  refine (cmp16_any _ _ _ _ _ _ m n W3 HM.out HN.out hla hlb).mono ?_
  rintro e w1 ⟨rfl, hdr⟩
  obtain ⟨z, hz⟩ : ∃ z, z = cmpN m n := ⟨_, rfl⟩
  rw [← hz]
  have tz : 0 ≤ z := by rw [hz]; unfold cmpN; rw [if_neg (by omega)]; split <;> decide
  have tn : ¬ z < 0 := by omega
  clear hz
  have HF := Lib.hid (HF0.out.later hdr.below)
  have HM1 := Lib.hid (HM.out.keep hdr.below)
  have HN1 := Lib.hid (HN.out.keep hdr.below)
  clear hdr c0 c1 c2 c3
  have d0 : w1.cell? ⟨W.heap.size, 0, none⟩ = some (.bool s) := HF.out.cell 0 0 rfl rfl
  have d1 : w1.cell? ⟨W.heap.size, 1, none⟩ = some (.slice ao la ca) := HF.out.cell 0 1 rfl rfl
  have d2 : w1.cell? ⟨W.heap.size + 1, 0, none⟩ = some (.bool (!s)) := HF.out.cell 1 0 rfl rfl
  have d3 : w1.cell? ⟨W.heap.size + 1, 1, none⟩ = some (.slice bo lb cb) := HF.out.cell 1 1 rfl rfl
  go_wp2_with fail
  go_region_held3 (fun w' => w'.cell? ⟨W.heap.size, 0, none⟩ = some (.bool s) ∧ w'.cell? ⟨W.heap.size, 1, none⟩ = some (.slice ao la ca) ∧ w'.cell? ⟨W.heap.size + 1, 0, none⟩ = some (.bool (!s)) ∧ w'.cell? ⟨W.heap.size + 1, 1, none⟩ = some (.slice bo lb cb)) (first | (go_keep; done) | ((try dsimp only); (repeat' apply And.intro) <;> (first | (go_keep; done) | (rw [cell_set2 _ _ _ _ _ _ (by omega)]; assumption))))
    (first | (go_at_call 113; refine (sub16_any _ _ _ _ _ _ m n w1.drew HM1.out HN1.out hla hlt).mono ?_; rintro e u1 ⟨po, pl, pc, rfl, hlc1, hcm1, hp, hb1⟩; have HB1 := Lib.hid (below_of_drew hb1); have HP := Lib.hid hp; have HF1 := Lib.hid (HF.out.later HB1.out); clear hb1 hp; have k0 : u1.cell? ⟨W.heap.size, 0, none⟩ = some (.bool s) := HF1.out.cell 0 0 rfl rfl; have k1 : u1.cell? ⟨W.heap.size, 1, none⟩ = some (.slice ao la ca) := HF1.out.cell 0 1 rfl rfl; have k2 : u1.cell? ⟨W.heap.size + 1, 0, none⟩ = some (.bool (!s)) := HF1.out.cell 1 0 rfl rfl; have k3 : u1.cell? ⟨W.heap.size + 1, 1, none⟩ = some (.slice bo lb cb) := HF1.out.cell 1 1 rfl rfl) | (go_at_call 53; refine (made_any s _ _ _ (m - n) _ HP.out hlc1 hcm1).mono ?_; rintro e u2 ⟨neg, so, sl, sc, rfl, hlc2, hcm2, hz, hb2⟩; have HF2 := Lib.hid (HF1.out.later hb2); have HZ := Lib.hid hz; clear hb2 hz; have j0 : u2.cell? ⟨W.heap.size, 0, none⟩ = some (.bool s) := HF2.out.cell 0 0 rfl rfl; have j1 : u2.cell? ⟨W.heap.size, 1, none⟩ = some (.slice ao la ca) := HF2.out.cell 0 1 rfl rfl; have j2 : u2.cell? ⟨W.heap.size + 1, 0, none⟩ = some (.bool (!s)) := HF2.out.cell 1 0 rfl rfl; have j3 : u2.cell? ⟨W.heap.size + 1, 1, none⟩ = some (.slice bo lb cb) := HF2.out.cell 1 1 rfl rfl; have g0 : u2.cell? ⟨W.heap.size + 2, 0, none⟩ = some (.bool false) := HF2.out.cell 2 0 rfl rfl; have g1 : u2.cell? ⟨W.heap.size + 2, 1, none⟩ = some (.slice none 0 0) := HF2.out.cell 2 1 rfl rfl; have g2 : u2.frozen? ⟨W.heap.size + 2, 0, none⟩ = false := HF2.out.frozen 2 0 rfl; have g3 : u2.frozen? ⟨W.heap.size + 2, 1, none⟩ = false := HF2.out.frozen 2 1 rfl))
  go_wp2
  obtain ⟨e0, e1, hz, hbel, _⟩ := HF2.out.finJ (cap := sc) 2 rfl HZ.out
  exact bodyPost_ret (v := .agg #[.bool neg, .slice so sl sc]) (by simp [results, Tryz.results115, go_sem, e0, e1]) rfl ⟨neg, so, sl, sc, rfl, hlc2, hcm2, hz, hbel⟩

theorem plus16_any (na nb : Bool) (ao bo : Option Addr) (la lb ca cb : Nat) (x y : Int) (W : World) (ha : Z16 W na ao la x) (hb : Z16 W nb bo lb y) (hla : la ≤ 1000000000) (hlb : lb ≤ 1000000000) :
    Calls Tryz.prog 115 #[.agg #[.bool na, .slice ao la ca], .agg #[.bool nb, .slice bo lb cb]] W (OutJ W (x + y)) := by
  obtain ⟨m, hm, rfl, hpm⟩ := ha
  obtain ⟨n, hn, rfl, hpn⟩ := hb
  by_cases h : na = nb
  · subst h
    rw [sgn_add]
    exact plus16_same na ao bo la lb ca cb m n W hm hn hla hlb
  · obtain rfl : nb = !na := by cases na <;> cases nb <;> simp_all
    rcases Nat.lt_or_ge m n with hlt | hlt
    · rw [sgn_lt na hlt]
      exact plus16_lt na ao bo la lb ca cb m n W hm hn hla hlb hlt
    · rw [sgn_ge na hlt]
      exact plus16_ge na ao bo la lb ca cb m n W hm hn hla hlb hlt
end Go.Proofs.YtcgnmihabkgecaaGreat

/- The specification: Opp, Sub, Cmp. -/
set_option linter.unusedVariables false
namespace Go.Proofs.YtcgnmihabkgecaaGreat
open Go.RowKit

theorem sgn_neg (s : Bool) (n : Nat) : -sgn s n = sgn (!s) n := by cases s <;> simp [sgn]

set_option maxHeartbeats 800000 in
theorem opp16_any (neg : Bool) (ao : Option Addr) (len cap : Nat) (z : Int) (W : World) (h : Z16 W neg ao len z) (hlc : len ≤ cap) (hcm : cap ≤ 9223372036854775807) :
    Calls Tryz.prog 116 #[.agg #[.bool neg, .slice ao len cap]] W (OutJ W (-z)) := by
  have hf : Fr W ((W.alloc (.cells #[.bool neg, .slice ao len cap] 33)).alloc (.cells #[.bool false, .slice none 0 0] 33))
      [(33, #[.bool neg, .slice ao len cap]), (33, #[.bool false, .slice none 0 0])] := ((Fr.nil W).alloc rfl _ _).alloc (by simp) _ _
  obtain ⟨n, hn, rfl, hp⟩ := h
  have HF := Lib.hid hf
  have HN := Lib.hid (hn.keep hf.below)
  clear hf hn hp
  rw [sgn_neg]
  go_enter Tryz.func116, Tryz.ntmps116
  go_wp2_with fail
  refine (made_any (!neg) _ _ _ n _ HN.out hlc hcm).mono ?_
  rintro e w1 ⟨s1, uo, ul, uc, rfl, huc, hum, hz1, hb1⟩
  have HF1 := Lib.hid (HF.out.later hb1)
  have HZ1 := Lib.hid hz1
  clear hz1 hb1
  have g0 : w1.cell? ⟨W.heap.size + 1, 0, none⟩ = some (.bool false) := HF1.out.cell 1 0 rfl rfl
  have g1 : w1.cell? ⟨W.heap.size + 1, 1, none⟩ = some (.slice none 0 0) := HF1.out.cell 1 1 rfl rfl
  have g2 : w1.frozen? ⟨W.heap.size + 1, 0, none⟩ = false := HF1.out.frozen 1 0 rfl
  have g3 : w1.frozen? ⟨W.heap.size + 1, 1, none⟩ = false := HF1.out.frozen 1 1 rfl
  go_wp2
  obtain ⟨e0, e1, hz, hbel, _⟩ := HF1.out.finJ (cap := uc) 1 rfl HZ1.out
  exact bodyPost_ret (v := .agg #[.bool s1, .slice uo ul uc]) (by simp [results, Tryz.results116, go_sem, e0, e1]) rfl ⟨s1, uo, ul, uc, rfl, huc, hum, hz, hbel⟩

set_option maxHeartbeats 2000000 in
theorem subZ16_any (na nb : Bool) (ao bo : Option Addr) (la lb ca cb : Nat) (x y : Int) (W : World) (ha : Z16 W na ao la x) (hb : Z16 W nb bo lb y) (hla : la ≤ 1000000000) (hlb : lb ≤ 1000000000) (hlc : lb ≤ cb) (hcm : cb ≤ 9223372036854775807) :
    Calls Tryz.prog 86 #[.agg #[.bool na, .slice ao la ca], .agg #[.bool nb, .slice bo lb cb]] W (OutJ W (x - y)) := by
  have hf : Fr W (((W.alloc (.cells #[.bool na, .slice ao la ca] 33)).alloc (.cells #[.bool nb, .slice bo lb cb] 33)).alloc (.cells #[.bool false, .slice none 0 0] 33))
      [(33, #[.bool na, .slice ao la ca]), (33, #[.bool nb, .slice bo lb cb]), (33, #[.bool false, .slice none 0 0])] :=
    (((Fr.nil W).alloc rfl _ _).alloc (by simp) _ _).alloc (by simp) _ _
  have HA := Lib.hid (ha.keep hf.below)
  have HB := Lib.hid (hb.keep hf.below)
  have HLT := Lib.hid hb.n16.lt
  clear ha hb
  rw [show x - y = x + -y from rfl]
  go_enter Tryz.func86, Tryz.ntmps86
  go_wp2_with fail
  obtain ⟨W3, hW3⟩ : ∃ W3, W3 = ((W.alloc (.cells #[.bool na, .slice ao la ca] 33)).alloc (.cells #[.bool nb, .slice bo lb cb] 33)).alloc (.cells #[.bool false, .slice none 0 0] 33) := ⟨_, rfl⟩
  rw [← hW3] at hf HA HB ⊢
  clear hW3
  have HF := Lib.hid hf
  clear hf
  have c0 : W3.cell? ⟨W.heap.size, 0, none⟩ = some (.bool na) := HF.out.cell 0 0 rfl rfl
  have c1 : W3.cell? ⟨W.heap.size, 1, none⟩ = some (.slice ao la ca) := HF.out.cell 0 1 rfl rfl
  have c2 : W3.cell? ⟨W.heap.size + 1, 0, none⟩ = some (.bool nb) := HF.out.cell 1 0 rfl rfl
  have c3 : W3.cell? ⟨W.heap.size + 1, 1, none⟩ = some (.slice bo lb cb) := HF.out.cell 1 1 rfl rfl
  go_region_held3 (fun w' => w'.cell? ⟨W.heap.size, 0, none⟩ = some (.bool na) ∧ w'.cell? ⟨W.heap.size, 1, none⟩ = some (.slice ao la ca) ∧ w'.cell? ⟨W.heap.size + 1, 0, none⟩ = some (.bool nb) ∧ w'.cell? ⟨W.heap.size + 1, 1, none⟩ = some (.slice bo lb cb)) (first | (go_keep; done) | ((try dsimp only); (repeat' apply And.intro) <;> (first | (go_keep; done) | (rw [cell_set2 _ _ _ _ _ _ (by omega)]; assumption))))
    (first | (go_at_call 116; refine (opp16_any _ _ _ _ y W3.drew (HB.out.keep ((Below.refl _ _).drew)) hlc hcm).mono ?_; rintro e u1 ⟨s1, po, pl, pc, rfl, hlc1, hcm1, hp, hb1⟩; have HB1 := Lib.hid (below_of_drew hb1); have HP := Lib.hid hp; have HF1 := Lib.hid (HF.out.later HB1.out); have HA1 := Lib.hid (HA.out.keep HB1.out); have hpl : pl ≤ 1000000000 := (by have h5 := HLT.out; have h6 := hp.n16; rw [Int.natAbs_neg] at h6; exact Nat.le_trans (h6.len_le h5) hlb); clear hb1 hp; have k0 : u1.cell? ⟨W.heap.size, 0, none⟩ = some (.bool na) := HF1.out.cell 0 0 rfl rfl; have k1 : u1.cell? ⟨W.heap.size, 1, none⟩ = some (.slice ao la ca) := HF1.out.cell 0 1 rfl rfl; have k2 : u1.cell? ⟨W.heap.size + 1, 0, none⟩ = some (.bool nb) := HF1.out.cell 1 0 rfl rfl; have k3 : u1.cell? ⟨W.heap.size + 1, 1, none⟩ = some (.slice bo lb cb) := HF1.out.cell 1 1 rfl rfl) | (go_at_call 115; refine (plus16_any _ _ _ _ _ _ _ _ x (-y) _ HA1.out HP.out hla hpl).mono ?_; rintro e u2 ⟨neg, so, sl, sc, rfl, hlc2, hcm2, hz, hb2⟩; have HF2 := Lib.hid (HF1.out.later hb2); have HZ := Lib.hid hz; clear hb2 hz; have j0 : u2.cell? ⟨W.heap.size, 0, none⟩ = some (.bool na) := HF2.out.cell 0 0 rfl rfl; have j1 : u2.cell? ⟨W.heap.size, 1, none⟩ = some (.slice ao la ca) := HF2.out.cell 0 1 rfl rfl; have j2 : u2.cell? ⟨W.heap.size + 1, 0, none⟩ = some (.bool nb) := HF2.out.cell 1 0 rfl rfl; have j3 : u2.cell? ⟨W.heap.size + 1, 1, none⟩ = some (.slice bo lb cb) := HF2.out.cell 1 1 rfl rfl; have g0 : u2.cell? ⟨W.heap.size + 2, 0, none⟩ = some (.bool false) := HF2.out.cell 2 0 rfl rfl; have g1 : u2.cell? ⟨W.heap.size + 2, 1, none⟩ = some (.slice none 0 0) := HF2.out.cell 2 1 rfl rfl; have g2 : u2.frozen? ⟨W.heap.size + 2, 0, none⟩ = false := HF2.out.frozen 2 0 rfl; have g3 : u2.frozen? ⟨W.heap.size + 2, 1, none⟩ = false := HF2.out.frozen 2 1 rfl))
  go_wp2
  obtain ⟨e0, e1, hz, hbel, _⟩ := HF2.out.finJ (cap := sc) 2 rfl HZ.out
  exact bodyPost_ret (v := .agg #[.bool neg, .slice so sl sc]) (by simp [results, Tryz.results86, go_sem, e0, e1]) rfl ⟨neg, so, sl, sc, rfl, hlc2, hcm2, hz, hbel⟩

set_option maxHeartbeats 800000 in
theorem cmpZ16_any (na nb : Bool) (ao bo : Option Addr) (la lb ca cb : Nat) (x y : Int) (W : World) (ha : Z16 W na ao la x) (hb : Z16 W nb bo lb y) (hla : la ≤ 1000000000) (hlb : lb ≤ 1000000000) (hlc : lb ≤ cb) (hcm : cb ≤ 9223372036854775807) :
    Calls Tryz.prog 39 #[.agg #[.bool na, .slice ao la ca], .agg #[.bool nb, .slice bo lb cb]] W (fun e w' => e = .returned (.int .i64 (x - y).sign) ∧ Below W.heap.size W w') := by
  have hf : Fr W ((W.alloc (.cells #[.bool na, .slice ao la ca] 33)).alloc (.cells #[.bool nb, .slice bo lb cb] 33))
      [(33, #[.bool na, .slice ao la ca]), (33, #[.bool nb, .slice bo lb cb])] := ((Fr.nil W).alloc rfl _ _).alloc (by simp) _ _
  have HA := Lib.hid (ha.keep hf.below)
  have HB := Lib.hid (hb.keep hf.below)
  have HF := Lib.hid hf
  clear ha hb hf
  go_enter Tryz.func39, Tryz.ntmps39
  go_wp2_with fail
  refine (subZ16_any _ _ _ _ _ _ _ _ x y _ HA.out HB.out hla hlb hlc hcm).mono ?_
  rintro e w1 ⟨s1, uo, ul, uc, rfl, huc, hum, hz1, hb1⟩
  have HF1 := Lib.hid (HF.out.later hb1)
  have HZ1 := Lib.hid hz1
  clear hz1 hb1
  go_wp2_with fail
  refine (sign16_any _ _ _ _ (x - y) _ HZ1.out).mono ?_
  rintro e w2 ⟨rfl, hb2⟩
  have HF2 := Lib.hid (HF1.out.later hb2)
  clear hb2
  go_wp2
  go_ret
  exact ⟨rfl, HF2.out.below⟩
end Go.Proofs.YtcgnmihabkgecaaGreat

/- Of, Num, Floor of fractions; the specification's Whole and Text of a fraction. -/
set_option linter.unusedVariables false
namespace Go.Proofs.YtcgnmihabkgecaaGreat
open Go.RowKit

set_option maxHeartbeats 800000 in
theorem ratOf_any (z : Int) (W : World) (h1 : -9223372036854775808 ≤ z) (h2 : z ≤ 9223372036854775807) :
    Calls Tryz.prog 23 #[.int .i64 z] W (OutQ W z 1) := by
  have hf : Fr W (W.alloc (.cells #[.bool false, .slice none 0 0, .slice none 0 0] 27)) [(27, #[.bool false, .slice none 0 0, .slice none 0 0])] := (Fr.nil W).alloc rfl _ _
  have HF := Lib.hid hf
  clear hf
  go_enter Tryz.func23, Tryz.ntmps23
  go_wp2_with fail
  refine (new_any z _ h1 h2).mono ?_
  rintro e w1 ⟨neg, uo, ul, uc, rfl, hz, hb1⟩
  have HF1 := Lib.hid (HF.out.later hb1)
  have hq : Q32 w1 neg uo ul none 0 z 1 := ⟨hz, .inl ⟨rfl, rfl⟩⟩
  have HQ := Lib.hid hq
  clear hz hb1 hq
  have g0 : w1.cell? ⟨W.heap.size, 0, none⟩ = some (.bool false) := HF1.out.cell 0 0 rfl rfl
  have g1 : w1.cell? ⟨W.heap.size, 1, none⟩ = some (.slice none 0 0) := HF1.out.cell 0 1 rfl rfl
  have g5 : w1.cell? ⟨W.heap.size, 2, none⟩ = some (.slice none 0 0) := HF1.out.cell 0 2 rfl rfl
  have g2 : w1.frozen? ⟨W.heap.size, 0, none⟩ = false := HF1.out.frozen 0 0 rfl
  have g3 : w1.frozen? ⟨W.heap.size, 1, none⟩ = false := HF1.out.frozen 0 1 rfl
  have g4 : w1.frozen? ⟨W.heap.size, 2, none⟩ = false := HF1.out.frozen 0 2 rfl
  go_wp2
  obtain ⟨e0, e1, e2, hz, hbel⟩ := HF1.out.finQ (cap := uc) (bc := 0) 0 rfl HQ.out
  exact bodyPost_ret (v := .agg #[.bool neg, .slice uo ul uc, .slice none 0 0]) (by simp only [Nat.add_zero] at e0 e1 e2; simp [results, Tryz.results23, go_sem, e0, e1, e2]) rfl ⟨neg, uo, ul, uc, none, 0, 0, rfl, hz, hbel⟩

/-- a fraction of the specification is returned -/
def OutK (W : World) (p : Int) (q : Int) (e : Ending) (w' : World) : Prop :=
  ∃ s1 o1 l1 c1 s2 o2 l2 c2, e = .returned (.agg #[.bool s1, .slice o1 l1 c1, .bool s2, .slice o2 l2 c2]) ∧ l1 ≤ c1 ∧ c1 ≤ 9223372036854775807 ∧ l2 ≤ c2 ∧ c2 ≤ 9223372036854775807 ∧ Z16 w' s1 o1 l1 p ∧ Z16 w' s2 o2 l2 q ∧ Below W.heap.size W w'

theorem Fr.finK {W w : World} {bs : List (Nat × Array Value)} {s1 s2 : Bool} {o1 o2 : Option Addr} {l1 l2 c1 c2 : Nat} {p q : Int} (hf : Fr W w bs) (i : Nat) {T : Nat} {e0 e1 : Bool} {a1 a2 : Option Addr} {m1 m2 d1 d2 : Nat}
    (hi : bs[i]? = some (T, #[.bool e0, .slice a1 m1 d1, .bool e1, .slice a2 m2 d2])) (h1 : Z16 w s1 o1 l1 p) (h2 : Z16 w s2 o2 l2 q) :
    let w' := (((w.setCell ⟨W.heap.size + i, 0, none⟩ (.bool s1)).setCell ⟨W.heap.size + i, 1, none⟩ (.slice o1 l1 c1)).setCell ⟨W.heap.size + i, 2, none⟩ (.bool s2)).setCell ⟨W.heap.size + i, 3, none⟩ (.slice o2 l2 c2)
    w'.cell? ⟨W.heap.size + i, 0, none⟩ = some (.bool s1) ∧ w'.cell? ⟨W.heap.size + i, 1, none⟩ = some (.slice o1 l1 c1) ∧ w'.cell? ⟨W.heap.size + i, 2, none⟩ = some (.bool s2) ∧ w'.cell? ⟨W.heap.size + i, 3, none⟩ = some (.slice o2 l2 c2) ∧
      Z16 w' s1 o1 l1 p ∧ Z16 w' s2 o2 l2 q ∧ Below W.heap.size W w' := by
  have hl := (List.getElem?_eq_some_iff.1 hi).1
  have k1 := hf.set i 0 hi (.bool s1)
  have i1 : (bs.set i (T, #[.bool s1, .slice a1 m1 d1, .bool e1, .slice a2 m2 d2]))[i]? = some (T, #[.bool s1, .slice a1 m1 d1, .bool e1, .slice a2 m2 d2]) := List.getElem?_set_self hl
  have p1 := h1.setFr hf i 0 hi rfl (.bool s1)
  have q1 := h2.setFr hf i 0 hi rfl (.bool s1)
  have k2 := k1.set i 1 i1 (.slice o1 l1 c1)
  have i2 : ((bs.set i (T, #[.bool s1, .slice a1 m1 d1, .bool e1, .slice a2 m2 d2])).set i (T, #[.bool s1, .slice o1 l1 c1, .bool e1, .slice a2 m2 d2]))[i]? = some (T, #[.bool s1, .slice o1 l1 c1, .bool e1, .slice a2 m2 d2]) := List.getElem?_set_self (by simpa using hl)
  have p2 := p1.setFr k1 i 1 i1 rfl (.slice o1 l1 c1)
  have q2 := q1.setFr k1 i 1 i1 rfl (.slice o1 l1 c1)
  have k3 := k2.set i 2 i2 (.bool s2)
  have i3 : (((bs.set i (T, #[.bool s1, .slice a1 m1 d1, .bool e1, .slice a2 m2 d2])).set i (T, #[.bool s1, .slice o1 l1 c1, .bool e1, .slice a2 m2 d2])).set i (T, #[.bool s1, .slice o1 l1 c1, .bool s2, .slice a2 m2 d2]))[i]? = some (T, #[.bool s1, .slice o1 l1 c1, .bool s2, .slice a2 m2 d2]) := List.getElem?_set_self (by simpa using hl)
  have p3 := p2.setFr k2 i 2 i2 rfl (.bool s2)
  have q3 := q2.setFr k2 i 2 i2 rfl (.bool s2)
  have k4 := k3.set i 3 i3 (.slice o2 l2 c2)
  have i4 : ((((bs.set i (T, #[.bool s1, .slice a1 m1 d1, .bool e1, .slice a2 m2 d2])).set i (T, #[.bool s1, .slice o1 l1 c1, .bool e1, .slice a2 m2 d2])).set i (T, #[.bool s1, .slice o1 l1 c1, .bool s2, .slice a2 m2 d2])).set i (T, #[.bool s1, .slice o1 l1 c1, .bool s2, .slice o2 l2 c2]))[i]? = some (T, #[.bool s1, .slice o1 l1 c1, .bool s2, .slice o2 l2 c2]) := List.getElem?_set_self (by simpa using hl)
  have p4 := p3.setFr k3 i 3 i3 rfl (.slice o2 l2 c2)
  have q4 := q3.setFr k3 i 3 i3 rfl (.slice o2 l2 c2)
  exact ⟨k4.cell i 0 i4 rfl, k4.cell i 1 i4 rfl, k4.cell i 2 i4 rfl, k4.cell i 3 i4 rfl, p4, q4, k4.below⟩

end Go.Proofs.YtcgnmihabkgecaaGreat

/- fitting, Neg, Add, Sub, Mul, Cmp. -/
set_option linter.unusedVariables false
namespace Go.Proofs.YtcgnmihabkgecaaGreat
open Go.RowKit

/-- the integer fits -/
def Fits (z : Int) : Prop := blen z.natAbs ≤ 16384

/-- returned: the integer and no error, or, if it does not fit, 0 and the error -/
def OutF (W : World) (z : Int) (e : Ending) (w' : World) : Prop :=
  (Fits z ∧ ∃ neg ao len cap, e = .returned (.tuple #[.agg #[.bool neg, .slice ao len cap], .int .i64 0]) ∧ Z32 w' neg ao len z ∧ Below W.heap.size W w') ∨
  (¬ Fits z ∧ e = .returned (.tuple #[.agg #[.bool false, .slice none 0 0], .int .i64 3]) ∧ Below W.heap.size W w')

theorem Z32.nil (w : World) : Z32 w false none 0 0 := ⟨0, N32.nil _ _, rfl, by simp⟩

set_option maxHeartbeats 800000 in
theorem fitting_any (neg : Bool) (ao : Option Addr) (len cap : Nat) (z : Int) (W : World) (h : Z32 W neg ao len z) (hl : len ≤ 1000000000) :
    Calls Tryz.prog 75 #[.agg #[.bool neg, .slice ao len cap]] W (OutF W z) := by
  have hf : Fr W ((W.alloc (.cells #[.bool neg, .slice ao len cap] 25)).alloc (.cells #[.bool false, .slice none 0 0] 25))
      [(25, #[.bool neg, .slice ao len cap]), (25, #[.bool false, .slice none 0 0])] := ((Fr.nil W).alloc rfl _ _).alloc (by simp) _ _
  have HZ := Lib.hid (h.keep hf.below)
  have HF := Lib.hid hf
  clear h hf
  go_enter Tryz.func75, Tryz.ntmps75
  go_wp2_with fail
  refine (bitLen_any _ _ _ _ z _ HZ.out hl).mono ?_
  rintro e w1 ⟨rfl, hb1⟩
  have HF1 := Lib.hid (HF.out.later hb1)
  have HZ1 := Lib.hid (HZ.out.keep hb1)
  clear hb1
  have b0 : w1.cell? ⟨W.heap.size, 0, none⟩ = some (.bool neg) := HF1.out.cell 0 0 rfl rfl
  have b1 : w1.cell? ⟨W.heap.size, 1, none⟩ = some (.slice ao len cap) := HF1.out.cell 0 1 rfl rfl
  have g0 : w1.cell? ⟨W.heap.size + 1, 0, none⟩ = some (.bool false) := HF1.out.cell 1 0 rfl rfl
  have g1 : w1.cell? ⟨W.heap.size + 1, 1, none⟩ = some (.slice none 0 0) := HF1.out.cell 1 1 rfl rfl
  have g2 : w1.frozen? ⟨W.heap.size + 1, 0, none⟩ = false := HF1.out.frozen 1 0 rfl
  have g3 : w1.frozen? ⟨W.heap.size + 1, 1, none⟩ = false := HF1.out.frozen 1 1 rfl
  obtain ⟨k, hk⟩ : ∃ k, k = blen z.natAbs := ⟨_, rfl⟩
  rw [← hk]
  by_cases hfit : k ≤ 16384
  · have t1 : ¬ (16384 : Int) < (k : Int) := by omega
    have HX : Hid (Fits z) := by unfold Fits; rw [← hk]; exact hfit
    clear hk hfit
    go_wp2
    obtain ⟨e0, e1, hz, hbel, _⟩ := HF1.out.finI (cap := cap) 1 rfl HZ1.out
    exact bodyPost_ret (v := .tuple #[.agg #[.bool neg, .slice ao len cap], .int .i64 0]) (by simp [results, Tryz.results75, go_sem, e0, e1]) rfl (.inl ⟨HX.out, neg, ao, len, cap, rfl, hz, hbel⟩)
  · have t1 : (16384 : Int) < (k : Int) := by omega
    have HX : Hid (¬ Fits z) := by unfold Fits; rw [← hk]; exact hfit
    clear hk hfit
    go_wp2
    obtain ⟨e0, e1, hz, hbel, _⟩ := HF1.out.finI (cap := 0) 1 rfl (Z32.nil _)
    exact bodyPost_ret (v := .tuple #[.agg #[.bool false, .slice none 0 0], .int .i64 3]) (by simp [results, Tryz.results75, go_sem, e0, e1]) rfl (.inr ⟨HX.out, rfl, hbel⟩)

set_option maxHeartbeats 1000000 in
theorem neg_any (na : Bool) (ao : Option Addr) (la ca : Nat) (z : Int) (W : World) (h : Z32 W na ao la z) (hla : la ≤ 1000000000) :
    Calls Tryz.prog 69 #[.agg #[.bool na, .slice ao la ca]] W (OutI W (-z)) := by
  have hf : Fr W ((W.alloc (.cells #[.bool na, .slice ao la ca] 25)).alloc (.cells #[.bool false, .slice none 0 0] 25))
      [(25, #[.bool na, .slice ao la ca]), (25, #[.bool false, .slice none 0 0])] := ((Fr.nil W).alloc rfl _ _).alloc (by simp) _ _
  obtain ⟨n, hn, rfl, hp⟩ := h.keep hf.below
  have HN := Lib.hid hn
  clear h hn hp
  rw [sgn_neg]
  go_enter Tryz.func69, Tryz.ntmps69
  go_wp2_with fail
  obtain ⟨W3, hW3⟩ : ∃ W3, W3 = (W.alloc (.cells #[.bool na, .slice ao la ca] 25)).alloc (.cells #[.bool false, .slice none 0 0] 25) := ⟨_, rfl⟩
  rw [← hW3] at hf HN ⊢
  clear hW3
  have HF := Lib.hid hf
  clear hf
  have c0 : W3.cell? ⟨W.heap.size, 0, none⟩ = some (.bool na) := HF.out.cell 0 0 rfl rfl
  have c1 : W3.cell? ⟨W.heap.size, 1, none⟩ = some (.slice ao la ca) := HF.out.cell 0 1 rfl rfl
  go_region_held3 (fun w' => w'.cell? ⟨W.heap.size, 0, none⟩ = some (.bool na) ∧ w'.cell? ⟨W.heap.size, 1, none⟩ = some (.slice ao la ca)) (first | (go_keep; done) | ((try dsimp only); (repeat' apply And.intro) <;> (first | (go_keep; done) | (rw [cell_set2 _ _ _ _ _ _ (by omega)]; assumption))))
    (first | (go_at_call 70; refine (duplicate_n _ _ _ n W3.drew HN.out hla).mono ?_; rintro e u1 ⟨po, pc, rfl, hp, hb1⟩; have HB1 := Lib.hid (below_of_drew hb1); have HP := Lib.hid hp; have HF1 := Lib.hid (HF.out.later HB1.out); clear hb1 hp; have k0 : u1.cell? ⟨W.heap.size, 0, none⟩ = some (.bool na) := HF1.out.cell 0 0 rfl rfl; have k1 : u1.cell? ⟨W.heap.size, 1, none⟩ = some (.slice ao la ca) := HF1.out.cell 0 1 rfl rfl) | (go_at_call 46; refine (signed_any (!na) _ _ _ n _ HP.out).mono ?_; rintro e u2 ⟨neg, so, sl, sc, rfl, hz, hb2⟩; have HF2 := Lib.hid (HF1.out.later hb2); have HZ := Lib.hid hz; clear hb2 hz; have j0 : u2.cell? ⟨W.heap.size, 0, none⟩ = some (.bool na) := HF2.out.cell 0 0 rfl rfl; have j1 : u2.cell? ⟨W.heap.size, 1, none⟩ = some (.slice ao la ca) := HF2.out.cell 0 1 rfl rfl; have g0 : u2.cell? ⟨W.heap.size + 1, 0, none⟩ = some (.bool false) := HF2.out.cell 1 0 rfl rfl; have g1 : u2.cell? ⟨W.heap.size + 1, 1, none⟩ = some (.slice none 0 0) := HF2.out.cell 1 1 rfl rfl; have g2 : u2.frozen? ⟨W.heap.size + 1, 0, none⟩ = false := HF2.out.frozen 1 0 rfl; have g3 : u2.frozen? ⟨W.heap.size + 1, 1, none⟩ = false := HF2.out.frozen 1 1 rfl))
  go_wp2
  obtain ⟨e0, e1, hz, hbel, _⟩ := HF2.out.finI (cap := sc) 1 rfl HZ.out
  exact bodyPost_ret (v := .agg #[.bool neg, .slice so sl sc]) (by simp [results, Tryz.results69, go_sem, e0, e1]) rfl ⟨neg, so, sl, sc, rfl, hz, hbel⟩

theorem addI_len {x y : Int} {a b : Nat} (hx : x.natAbs < B32 ^ a) (hy : y.natAbs < B32 ^ b) : (x + y).natAbs < B32 ^ (a + b + 1) := by
  have h1 : B32 ^ a ≤ B32 ^ (a + b) := Nat.pow_le_pow_right B32_pos (by omega)
  have h2 : B32 ^ b ≤ B32 ^ (a + b) := Nat.pow_le_pow_right B32_pos (by omega)
  have h3 : B32 ^ (a + b + 1) = B32 ^ (a + b) * B32 := Nat.pow_succ ..
  rw [h3, B32_eq]
  rw [B32_eq] at hx hy h1 h2
  omega

theorem mulI_len {x y : Int} {a b : Nat} (hx : x.natAbs < B32 ^ a) (hy : y.natAbs < B32 ^ b) : (x * y).natAbs < B32 ^ (a + b + 1) := by
  rw [Int.natAbs_mul]
  have h1 : x.natAbs * y.natAbs < B32 ^ a * B32 ^ b := Nat.mul_lt_mul'' hx hy
  rw [← Nat.pow_add] at h1
  exact Nat.lt_of_lt_of_le h1 (Nat.pow_le_pow_right B32_pos (by omega))

end Go.Proofs.YtcgnmihabkgecaaGreat

/- fittingRat, Rat.Sign. -/
set_option linter.unusedVariables false
namespace Go.Proofs.YtcgnmihabkgecaaGreat
open Go.RowKit

/-- the fraction p / q fits -/
def FitsQ (p : Int) (q : Nat) : Prop := Fits p ∧ blen q ≤ 16384

def OutFQ (W : World) (p : Int) (q : Nat) (e : Ending) (w' : World) : Prop :=
  (FitsQ p q ∧ OutQE W p q e w') ∨ (¬ FitsQ p q ∧ e = .returned (.tuple #[.agg #[.bool false, .slice none 0 0, .slice none 0 0], .int .i64 3]) ∧ Below W.heap.size W w')

theorem Q32.den {W : World} {na : Bool} {ao bo : Option Addr} {la lb : Nat} {p : Int} {q : Nat} (h : Q32 W na ao la bo lb p q) : ∃ d, N32 W bo lb d ∧ (blen d ≤ 16384 ↔ blen q ≤ 16384) := by
  rcases h.2 with ⟨h1, h2⟩ | ⟨h1, h2⟩
  · refine ⟨0, by rw [h1]; exact N32.nil _ _, ?_⟩
    have h3 : blen 0 ≤ 16384 := by rw [blen_zero]; omega
    have h4 : blen q ≤ 16384 := by
      rw [h2]
      have : blen 1 ≤ 1 := blen_le.2 (by decide)
      omega
    exact ⟨fun _ => h4, fun _ => h3⟩
  · exact ⟨q, h1, Iff.rfl⟩

set_option maxHeartbeats 1000000 in
theorem fittingRat_any (na : Bool) (ao bo : Option Addr) (la lb ca cb : Nat) (p : Int) (q : Nat) (W : World) (h : Q32 W na ao la bo lb p q) (hla : la ≤ 1000000000) (hlb : lb ≤ 1000000000) :
    Calls Tryz.prog 48 #[.agg #[.bool na, .slice ao la ca, .slice bo lb cb]] W (OutFQ W p q) := by
  have hf : Fr W ((W.alloc (.cells #[.bool na, .slice ao la ca, .slice bo lb cb] 27)).alloc (.cells #[.bool false, .slice none 0 0, .slice none 0 0] 27))
      [(27, #[.bool na, .slice ao la ca, .slice bo lb cb]), (27, #[.bool false, .slice none 0 0, .slice none 0 0])] := ((Fr.nil W).alloc rfl _ _).alloc (by simp) _ _
  obtain ⟨d, hd, hdq⟩ := h.den
  have HQ := Lib.hid h
  have HD := Lib.hid hd
  have HDQ := Lib.hid hdq
  clear h hd hdq
  go_enter Tryz.func48, Tryz.ntmps48
  go_wp2_with fail
  obtain ⟨W3, hW3⟩ : ∃ W3, W3 = (W.alloc (.cells #[.bool na, .slice ao la ca, .slice bo lb cb] 27)).alloc (.cells #[.bool false, .slice none 0 0, .slice none 0 0] 27) := ⟨_, rfl⟩
  rw [← hW3] at hf ⊢
  clear hW3
  have HF := Lib.hid hf
  clear hf
  refine (bitLen_any _ _ _ _ p _ (HQ.out.1.keep HF.out.below) hla).mono ?_
  rintro e w1 ⟨rfl, hb1⟩
  have HF1 := Lib.hid (HF.out.later hb1)
  clear hb1
  have c2 : w1.cell? ⟨W.heap.size, 2, none⟩ = some (.slice bo lb cb) := HF1.out.cell 0 2 rfl rfl
  have g0 : w1.cell? ⟨W.heap.size + 1, 0, none⟩ = some (.bool false) := HF1.out.cell 1 0 rfl rfl
  have g1 : w1.cell? ⟨W.heap.size + 1, 1, none⟩ = some (.slice none 0 0) := HF1.out.cell 1 1 rfl rfl
  have g2 : w1.cell? ⟨W.heap.size + 1, 2, none⟩ = some (.slice none 0 0) := HF1.out.cell 1 2 rfl rfl
  have g3 : w1.frozen? ⟨W.heap.size + 1, 0, none⟩ = false := HF1.out.frozen 1 0 rfl
  have g4 : w1.frozen? ⟨W.heap.size + 1, 1, none⟩ = false := HF1.out.frozen 1 1 rfl
  have g5 : w1.frozen? ⟨W.heap.size + 1, 2, none⟩ = false := HF1.out.frozen 1 2 rfl
  by_cases h1 : blen p.natAbs ≤ 16384
  · have t1 : ¬ (16384 : Int) < (blen p.natAbs : Int) := by omega
    have H1 := Lib.hid h1
    clear h1 g0 g1 g2 g3 g4 g5
    go_wp2_with fail
    refine (bitLength_any _ _ _ d _ (HD.out.keep HF1.out.below) hlb).mono ?_
    rintro e w2 ⟨rfl, hw⟩
    obtain rfl : w1 = w2 := hw
    have a0 : w1.cell? ⟨W.heap.size, 0, none⟩ = some (.bool na) := HF1.out.cell 0 0 rfl rfl
    have a1 : w1.cell? ⟨W.heap.size, 1, none⟩ = some (.slice ao la ca) := HF1.out.cell 0 1 rfl rfl
    have g0 : w1.cell? ⟨W.heap.size + 1, 0, none⟩ = some (.bool false) := HF1.out.cell 1 0 rfl rfl
    have g1 : w1.cell? ⟨W.heap.size + 1, 1, none⟩ = some (.slice none 0 0) := HF1.out.cell 1 1 rfl rfl
    have g2 : w1.cell? ⟨W.heap.size + 1, 2, none⟩ = some (.slice none 0 0) := HF1.out.cell 1 2 rfl rfl
    have g3 : w1.frozen? ⟨W.heap.size + 1, 0, none⟩ = false := HF1.out.frozen 1 0 rfl
    have g4 : w1.frozen? ⟨W.heap.size + 1, 1, none⟩ = false := HF1.out.frozen 1 1 rfl
    have g5 : w1.frozen? ⟨W.heap.size + 1, 2, none⟩ = false := HF1.out.frozen 1 2 rfl
    by_cases h2 : blen d ≤ 16384
    · have t2 : ¬ (16384 : Int) < (blen d : Int) := by omega
      have H2 := Lib.hid h2
      clear h2
      go_wp2
      obtain ⟨e0, e1, e2, hq, hbel⟩ := HF1.out.finQ (cap := ca) (bc := cb) 1 rfl (HQ.out.keep HF1.out.below)
      exact bodyPost_ret (v := .tuple #[.agg #[.bool na, .slice ao la ca, .slice bo lb cb], .int .i64 0]) (by simp [results, Tryz.results48, go_sem, e0, e1, e2]) rfl (.inl ⟨⟨H1.out, HDQ.out.1 H2.out⟩, na, ao, la, ca, bo, lb, cb, rfl, hq, hbel⟩)
    · have t2 : (16384 : Int) < (blen d : Int) := by omega
      have H2 := Lib.hid h2
      clear h2
      go_wp2
      obtain ⟨e0, e1, e2, hq, hbel⟩ := HF1.out.finQ (cap := 0) (bc := 0) (neg := false) (ao := none) (len := 0) (bo := none) (bl := 0) (p := 0) (q := 1) 1 rfl ⟨Z32.nil _, .inl ⟨rfl, rfl⟩⟩
      exact bodyPost_ret (v := .tuple #[.agg #[.bool false, .slice none 0 0, .slice none 0 0], .int .i64 3]) (by simp [results, Tryz.results48, go_sem, e0, e1, e2]) rfl (.inr ⟨fun h => H2.out (HDQ.out.2 h.2), rfl, hbel⟩)
  · have t1 : (16384 : Int) < (blen p.natAbs : Int) := by omega
    have H1 := Lib.hid h1
    clear h1
    go_wp2
    obtain ⟨e0, e1, e2, hq, hbel⟩ := HF1.out.finQ (cap := 0) (bc := 0) (neg := false) (ao := none) (len := 0) (bo := none) (bl := 0) (p := 0) (q := 1) 1 rfl ⟨Z32.nil _, .inl ⟨rfl, rfl⟩⟩
    exact bodyPost_ret (v := .tuple #[.agg #[.bool false, .slice none 0 0, .slice none 0 0], .int .i64 3]) (by simp [results, Tryz.results48, go_sem, e0, e1, e2]) rfl (.inr ⟨fun h => H1.out h.1, rfl, hbel⟩)

theorem ratSign_any (na : Bool) (ao bo : Option Addr) (la lb ca cb : Nat) (p : Int) (q : Nat) (W : World) (h : Q32 W na ao la bo lb p q) :
    Calls Tryz.prog 21 #[.agg #[.bool na, .slice ao la ca, .slice bo lb cb]] W (fun e w' => e = .returned (.int .i64 p.sign) ∧ Below W.heap.size W w') := by
  have hf : Fr W (W.alloc (.cells #[.bool na, .slice ao la ca, .slice bo lb cb] 27)) [(27, #[.bool na, .slice ao la ca, .slice bo lb cb])] := (Fr.nil W).alloc rfl _ _
  have HQ := Lib.hid h
  have HF := Lib.hid hf
  clear h hf
  go_enter Tryz.func21, Tryz.ntmps21
  go_wp2_with fail
  refine (sign_any _ _ _ _ p _ (HQ.out.1.keep HF.out.below)).mono ?_
  rintro e w1 ⟨rfl, hb1⟩
  have HB1 := Lib.hid (below_then HF.out.below hb1)
  clear hb1
  go_wp2
  go_ret
  exact ⟨rfl, HB1.out⟩
end Go.Proofs.YtcgnmihabkgecaaGreat

/- shiftLeft, shiftRight. -/
set_option linter.unusedVariables false
namespace Go.Proofs.YtcgnmihabkgecaaGreat
open Go.RowKit

theorem u64_wrap_nat (t : Nat) (h : t < 18446744073709551616) : IntKind.u64.wrap (t : Int) = (t : Int) := by
  simp [IntKind.wrap, IntKind.bits, IntKind.signed]
  omega

theorem pow_le32 {s : Nat} (hs : s < 32) : 2 ^ s ≤ 2147483648 := by
  have := Nat.pow_le_pow_right (n := 2) (by decide) (by omega : s ≤ 31)
  exact this

theorem shl_or (c x s : Nat) (hc : c < 2 ^ s) (hx : x < 4294967296) (hs : s < 32) :
    bits BinOp.or IntKind.u64 (c : Int) (IntKind.u64.wrap ((x : Int) * 2 ^ s)) = ((c + x * 2 ^ s : Nat) : Int) := by
  have h1 := pow_le32 hs
  have h2 : x * 2 ^ s ≤ 4294967295 * 2147483648 := Nat.mul_le_mul (by omega) h1
  have e : (x : Int) * 2 ^ s = ((x * 2 ^ s : Nat) : Int) := by push_cast; rfl
  rw [e, u64_wrap_nat _ (by omega)]
  have e2 : ((x * 2 ^ s : Nat) : Int) = (x : Int) * ((2 ^ s : Nat) : Int) := by push_cast; rfl
  rw [e2]
  exact or_shift c x s (2 ^ s) hc rfl (by omega) (by omega)

theorem shl_step {zs xs : List Nat} {c i x s : Nat} (hi : i < zs.length) (h0 : zs[i]?.getD 0 = 0) (hx : x = xs[i]?.getD 0) (hv : val B32 zs + c * B32 ^ i = val B32 (xs.take i) * 2 ^ s) :
    val B32 (zs.set i ((c + x * 2 ^ s) % B32)) + (c + x * 2 ^ s) / B32 * B32 ^ (i + 1) = val B32 (xs.take (i + 1)) * 2 ^ s := by
  have h1 := val_set B32 zs i ((c + x * 2 ^ s) % B32) hi
  have h2 := Nat.mod_add_div (c + x * 2 ^ s) B32
  rw [h0] at h1
  rw [val_take_succ, ← hx, Nat.pow_succ]
  generalize (c + x * 2 ^ s) % B32 = d at *
  generalize (c + x * 2 ^ s) / B32 = q at *
  generalize val B32 (zs.set i d) = v at *
  generalize B32 ^ i = p at *
  generalize 2 ^ s = m at *
  grind

def ShlRel (la s : Nat) (xs : List Nat) (W : World) (cv iv : Value) (wr : World) : Prop :=
  ∃ (c i : Nat) (zs : List Nat), cv = .int .u64 (c : Int) ∧ iv = .int .i64 (i : Int) ∧ Blk .u32 wr W.heap.size 91 zs ∧ zs.length = la + 1 ∧ Dig B32 zs ∧ i ≤ la ∧ c < 2 ^ s ∧
    val B32 zs + c * B32 ^ i = val B32 (xs.take i) * 2 ^ s ∧ (∀ j, i ≤ j → zs[j]?.getD 0 = 0) ∧ Below W.heap.size W wr

def ShlPost (la s n : Nat) (W : World) (e : Ending) (w' : World) : Prop :=
  e = .returned (.slice (some ⟨W.heap.size, 0, none⟩) (la + 1) (la + 1)) ∧ ∃ zs, Blk .u32 w' W.heap.size 91 zs ∧ zs.length = la + 1 ∧ Dig B32 zs ∧ val B32 zs = n * 2 ^ s ∧ Below W.heap.size W w'

set_option maxHeartbeats 1000000 in
theorem shiftLeft_any (ao : Option Addr) (la ca n s : Nat) (S : Int) (W : World) (h : N32 W ao la n) (hS : S = (s : Int)) (hs : s < 32) (hla : la ≤ 1000000000) :
    Calls Tryz.prog 124 #[.slice ao la ca, .int .i64 S] W (ShlPost la s n W) := by
  subst hS
  obtain ⟨xs, ⟨hx, b, off, hao, hc⟩, hd, ht, hv⟩ := h
  have HX := Lib.hid hx
  have HAO := Lib.hid hao
  have HC := Lib.hid hc
  have HD := Lib.hid hd
  have HV := Lib.hid hv
  have HG := Lib.hid (Nat.le_refl W.heap.size)
  clear hx hao hc hd ht hv
  go_enter Tryz.func124, Tryz.ntmps124
  go_wp2_with (at_make; refine wpList_mk rfl _ 23 rfl 91 .u32 4 Tryz.underlying23 (by kernel_rfl) _ (la + 1) rfl (by omega) (by omega) (by omega) ?_; intro w1 hB1 hb1 hz1)
  go_loopw [6, 15] (fun cv iv wr => ShlRel la s xs W cv iv wr) (fun cv iv _ => la - (intOf iv).toNat)
  case atStart =>
    refine ⟨0, 0, _, rfl, rfl, hB1, by simp, Dig.replicate B32_pos _, by omega, Nat.pow_pos (by decide), ?_, ?_, hb1⟩
    · rw [val_replicate]; simp [val]
    · intro j hj; rw [List.getElem?_replicate]; split <;> rfl
  case round =>
    obtain ⟨c, i, zs, rfl, rfl, hB, hzl, hdz, hi, hc, hv, h0, hbel⟩ := hrel
    have HZ := Lib.hid hB
    have HL := Lib.hid hzl
    have HDZ := Lib.hid hdz
    have HVV := Lib.hid hv
    have H0 := Lib.hid h0
    have HW := Lib.hid hbel
    have HCC := Lib.hid hc
    have hc32 : c < 4294967296 := Nat.lt_of_lt_of_le hc (Nat.pow_le_pow_right (by decide) (by omega : s ≤ 32))
    clear hB hzl hdz hv h0 hbel hc
    by_cases hil : i < la
    · obtain rfl := HAO.out (by omega)
      have ca1 := cell_later HW.out (HC.out i hil)
      have hx := HD.out.get B32_pos i
      obtain ⟨x, hxe⟩ : ∃ x, x = xs[i]?.getD 0 := ⟨_, rfl⟩
      rw [← hxe] at ca1 hx
      rw [B32_eq] at hx
      have HXE := Lib.hid hxe
      clear hxe
      have b1 : (i : Int) < (la : Int) := by omega
      have b0 : (0 : Int) ≤ (i : Int) := by omega
      have b2 : (i : Int) < (la : Int) + 1 := by omega
      have s0 : (0 : Int) ≤ (s : Int) := by omega
      have s1 : (s : Int) < 32 := by omega
      have cz1 := HZ.out.cell i (by rw [HL.out]; omega)
      have fz1 := HZ.out.frozen i
      go_wp2
      refine ⟨?_, by simp [intOf]; omega⟩
      rw [shl_or c x s HCC.out hx hs]
      have hm := pow_le32 hs
      have hcs := HCC.out
      have h00 := H0.out i (Nat.le_refl _)
      refine ⟨(c + x * 2 ^ s) / B32, i + 1, zs.set i ((c + x * 2 ^ s) % B32), ?_, by go_num, HZ.out.set _ _ _ ?_, by simpa using HL.out, HDZ.out.set _ (Nat.mod_lt _ B32_pos), by omega, ?_, shl_step (by rw [HL.out]; omega) h00 HXE.out HVV.out, ?_, HW.out.setCell (Nat.le_refl _) _⟩
      · exact congrArg (Value.int _) (Int.natCast_ediv _ _).symm
      · exact (Int.natCast_emod _ _).symm
      · rw [B32_eq, Nat.div_lt_iff_lt_mul (by decide)]
        have : x * 2 ^ s ≤ 4294967295 * 2 ^ s := Nat.mul_le_mul_right _ (by omega)
        omega
      · intro j hj
        rw [List.getElem?_set_ne (by omega)]
        exact H0.out j (by omega)
    · obtain rfl : i = la := by omega
      have cz1 := HZ.out.cell i (by rw [HL.out]; omega)
      have fz1 := HZ.out.frozen i
      go_wp2
      go_ret
      have hv := HVV.out
      have h00 := H0.out i (Nat.le_refl _)
      rw [List.take_of_length_le (by rw [HX.out]; exact Nat.le_refl _), HV.out] at hv
      refine ⟨rfl, zs.set i c, HZ.out.set _ _ _ rfl, by simpa using HL.out, HDZ.out.set _ (by rw [B32_eq]; exact hc32), ?_, HW.out.setCell (Nat.le_refl _) _⟩
      have h1 := val_set B32 zs i c (by rw [HL.out]; omega)
      rw [h00, Nat.mul_zero, Nat.add_zero, Nat.mul_comm (B32 ^ i) c] at h1
      rw [h1]
      exact hv

theorem shr_cast (t s : Nat) : ((t : Int) / 2 ^ s % 4294967296) = ((t / 2 ^ s % 4294967296 : Nat) : Int) := by
  rw [Int.natCast_emod, Int.natCast_ediv, Int.natCast_pow]
  rfl

theorem shr_digit {B m k x y r : Nat} (hm : 0 < m) (hB : m * k = B) : (x + B * (y + B * r)) / m % B = (x + B * y) / m % B := by
  have e : x + B * (y + B * r) = (x + B * y) + m * (B * (k * r)) := by
    rw [← hB]; grind
  rw [e, Nat.add_mul_div_left _ _ hm, Nat.add_mul_mod_self_left]

theorem val_drop_div (xs : List Nat) (hd : Dig B32 xs) (i : Nat) (hi : i ≤ xs.length) : val B32 xs / B32 ^ i = val B32 (xs.drop i) := by
  rw [val_split B32 xs i hi, Nat.add_mul_div_left _ _ (Nat.pow_pos B32_pos), Nat.div_eq_of_lt, Nat.zero_add]
  have := val_lt B32_pos (hd.take i)
  rwa [List.length_take, Nat.min_eq_left hi] at this

theorem shr_step {xs zs : List Nat} {i m k : Nat} (hd : Dig B32 xs) (hi : i < xs.length) (hm : 0 < m) (hB : m * k = B32) (hz : zs.length = xs.length) (hv : val B32 (zs.take i) = val B32 xs / m % B32 ^ i) :
    val B32 ((zs.set i ((xs[i]?.getD 0 + B32 * (xs[i + 1]?.getD 0)) / m % B32)).take (i + 1)) = val B32 xs / m % B32 ^ (i + 1) := by
  rw [val_take_succ, List.take_set_of_le (Nat.le_refl _), hv, Nat.mod_pow_succ]
  congr 2
  rw [List.getElem?_set_self (by omega)]
  simp only [Option.getD_some]
  rw [Nat.div_div_eq_div_mul, Nat.mul_comm m, ← Nat.div_div_eq_div_mul, val_drop_div xs hd i (by omega), drop_eq_cons xs i hi, val_cons]
  by_cases h1 : i + 1 < xs.length
  · rw [drop_eq_cons xs (i + 1) h1, val_cons]
    exact (shr_digit hm hB).symm
  · rw [List.drop_of_length_le (by omega), List.getElem?_eq_none (l := xs) (i := i + 1) (by omega)]; rfl

def ShrRel (g e la s : Nat) (xs post : List Nat) (W : World) (iv : Value) (wr : World) : Prop :=
  ∃ (i : Nat) (zs : List Nat), iv = .int .i64 (i : Int) ∧ Blk .u32 wr g e (zs ++ post) ∧ zs.length = la ∧ Dig B32 zs ∧ i ≤ la ∧ val B32 (zs.take i) = val B32 xs / 2 ^ s % B32 ^ i ∧ zs.drop i = xs.drop i ∧ W.grownBy wr (some g) ∧ wr.heap.size = W.heap.size

def ShrPost (g e la s v : Nat) (post : List Nat) (W : World) (en : Ending) (w' : World) : Prop :=
  ∃ ao n, en = .returned (.slice ao n n) ∧ N32 w' ao n (v / 2 ^ s) ∧ W.grownBy w' (some g) ∧ w'.heap.size = W.heap.size

set_option maxHeartbeats 1000000 in
theorem shiftRight_any (g e la ca s : Nat) (xs post : List Nat) (S : Int) (W : World) (hB : Blk .u32 W g e (xs ++ post)) (hl : xs.length = la) (hd : Dig B32 xs) (hS : S = (s : Int)) (hs : s < 32) (hla : la ≤ 2000000000) (hlc : la ≤ ca) (hcm : ca ≤ 9223372036854775807) :
    Calls Tryz.prog 126 #[.slice (some ⟨g, 0, none⟩) la ca, .int .i64 S] W (ShrPost g e la s (val B32 xs) post W) := by
  subst hS
  have HB := Lib.hid hB
  have HL0 := Lib.hid hl
  have HD := Lib.hid hd
  clear hB hl hd
  go_enter Tryz.func126, Tryz.ntmps126
  go_wp2
  go_loopw [9] (fun iv wr => ShrRel g e la s xs post W iv wr) (fun iv _ => la - (intOf iv).toNat)
  case atStart => exact ⟨0, xs, rfl, HB.out, HL0.out, HD.out, by omega, by simp [val]; omega, rfl, World.grownBy.refl _ _, rfl⟩
  case round =>
    obtain ⟨i, zs, rfl, hB, hzl, hdz, hi, hv, hdr, hbel, hz⟩ := hrel
    have HZ := Lib.hid hB
    have HL := Lib.hid hzl
    have HDZ := Lib.hid hdz
    have HV := Lib.hid hv
    have HDR := Lib.hid hdr
    have HW := Lib.hid hbel
    have HHZ := Lib.hid hz
    clear hB hzl hdz hv hdr hbel hz
    by_cases hil : i < la
    · have hzi : ∀ j, i ≤ j → zs[j]?.getD 0 = xs[j]?.getD 0 := by
        intro j hj
        have := congrArg (fun l => l[j - i]?.getD 0) HDR.out
        simp only [List.getElem?_drop] at this
        rwa [show i + (j - i) = j by omega] at this
      have cz1 := HZ.out.cell i (by have := HL.out; simp; omega)
      have fz1 := HZ.out.frozen i
      rw [List.getElem?_append_left (by rw [HL.out]; exact hil), hzi i (Nat.le_refl _)] at cz1
      have hx := HD.out.get B32_pos i
      have hy := HD.out.get B32_pos (i + 1)
      obtain ⟨x, hxe⟩ : ∃ x, x = xs[i]?.getD 0 := ⟨_, rfl⟩
      obtain ⟨y, hye⟩ : ∃ x, x = xs[i + 1]?.getD 0 := ⟨_, rfl⟩
      rw [← hxe] at cz1 hx
      rw [← hye] at hy
      rw [B32_eq] at hx hy
      have HXE := Lib.hid hxe
      have HYE := Lib.hid hye
      have HYZ : Hid (y = zs[i + 1]?.getD 0) := by show _ = _; rw [hzi (i + 1) (by omega)]; exact hye
      have hsl : Sl .u32 wr (some ⟨g, 0, none⟩) la zs := by
        have := HZ.out.sl0 la (by have := HL.out; simp; omega)
        rwa [List.take_left' HL.out] at this
      have HSL := Lib.hid hsl
      clear hzi hxe hye hsl
      have b0 : (0 : Int) ≤ (i : Int) := by omega
      have b1 : (i : Int) < (la : Int) := by omega
      have s0 : (0 : Int) ≤ (s : Int) := by omega
      have s1 : (s : Int) < 32 := by omega
      go_wp2_with fail
      go_quiet ((go_at_call 102; exact digit_quiet _ _ _ zs _ (i + 1) y _ _ HSL.out (by omega) HYZ.out))
      go_wp2
      refine ⟨?_, by simp [intOf]; omega⟩
      have ho : bits BinOp.or IntKind.u64 (x : Int) ((y : Int) * 4294967296) = ((x + y * 4294967296 : Nat) : Int) := or_shift x y 32 4294967296 (by omega) (by decide) (by omega) (by omega)
      rw [ho]
      have hm := pow_le32 hs
      have hxl : i < xs.length := by rw [HL0.out]; exact hil
      refine ⟨i + 1, zs.set i ((x + y * 4294967296) / 2 ^ s % 4294967296), by go_num, ?_, by simpa using HL.out, HDZ.out.set _ (Nat.mod_lt _ (by decide)), by omega, ?_, ?_, grownBy_set HW.out _ _ _, by simpa using HHZ.out⟩
      · have h := (HZ.out.drewN nq).set i ((x + y * 4294967296) / 2 ^ s % 4294967296) _ (shr_cast (x + y * 4294967296) s)
        rwa [List.set_append_left (h := by rw [HL.out]; exact hil)] at h
      · have hk : 2 ^ s * 2 ^ (32 - s) = B32 := by rw [← Nat.pow_add, show s + (32 - s) = 32 by omega]; rfl
        have h := shr_step (zs := zs) HD.out hxl (Nat.pow_pos (by decide)) hk (by rw [HL.out, HL0.out]) HV.out
        rw [← HXE.out, ← HYE.out, B32_eq, Nat.mul_comm 4294967296 y] at h
        rw [B32_eq]
        exact h
      · rw [List.drop_set_of_lt (by omega)]
        have := congrArg (List.drop 1) HDR.out
        rwa [List.drop_drop, List.drop_drop] at this
    · obtain rfl : i = la := by omega
      have HSL := Lib.hid (HZ.out.sl0 i (by have := HL.out; simp; omega))
      go_wp2_with fail
      refine (trim_raw _ _ _ _ _ HSL.out hlc hcm).mono ?_
      rintro e w3 ⟨⟨ao', m, rfl, hm, ha', hz', ht, hzz⟩, rfl⟩
      have HT := Lib.hid ht
      have HZZ := Lib.hid hzz
      have HAA := Lib.hid ha'
      clear ht hzz ha' hz'
      go_wp2
      go_ret
      have e1 : (zs ++ post).take i = zs := List.take_left' HL.out
      have hsl := HSL.out
      have ht := HT.out
      have hzz := HZZ.out
      rw [e1] at hsl ht hzz
      refine ⟨ao', m, rfl, ⟨_, trim_sl hsl hm HAA.out, HDZ.out.take _, ht, ?_⟩, HW.out, HHZ.out⟩
      have hv := HV.out
      rw [List.take_of_length_le (by rw [HL.out]; exact Nat.le_refl _)] at hv
      rw [val_take_of_zeros hzz, hv, Nat.mod_eq_of_lt]
      have := val_lt B32_pos HD.out
      rw [HL0.out] at this
      exact Nat.lt_of_le_of_lt (Nat.div_le_self _ _) this
end Go.Proofs.YtcgnmihabkgecaaGreat
