/- Part 6 of the contracts: Plus, RefE, RefF, Whole, IntA, RatA, Shift, DivM, Est. -/
import Derived.IntWalk
import Derived.Test.YtbihgllfllkkaaaPart5

/- plus. -/
set_option linter.unusedVariables false
namespace Go.Proofs.Ytbihgllfllkkaaa
open Go.RowKit

theorem sgn_add (s : Bool) (m n : Nat) : sgn s m + sgn s n = sgn s (m + n) := by cases s <;> simp [sgn]; omega
theorem sgn_lt (s : Bool) {m n : Nat} (h : m < n) : sgn s m + sgn (!s) n = sgn (!s) (n - m) := by cases s <;> simp [sgn] <;> omega
theorem sgn_ge (s : Bool) {m n : Nat} (h : n ≤ m) : sgn s m + sgn (!s) n = sgn s (m - n) := by cases s <;> simp [sgn] <;> omega

set_option maxHeartbeats 2000000 in
theorem plus_same (s : Bool) (ao bo : Option Addr) (la lb ca cb : Nat) (m n : Nat) (W : World) (hm : N32 W ao la m) (hn : N32 W bo lb n) (hla : la ≤ 1000000000) (hlb : lb ≤ 1000000000) :
    Calls Try.prog 58 #[.agg #[.bool s, .slice ao la ca], .agg #[.bool s, .slice bo lb cb]] W (OutI W (sgn s (m + n))) := by
  have hf : Fr W (((W.alloc (.cells #[.bool s, .slice ao la ca] 31)).alloc (.cells #[.bool s, .slice bo lb cb] 31)).alloc (.cells #[.bool false, .slice none 0 0] 31))
      [(31, #[.bool s, .slice ao la ca]), (31, #[.bool s, .slice bo lb cb]), (31, #[.bool false, .slice none 0 0])] :=
    (((Fr.nil W).alloc rfl _ _).alloc (by simp) _ _).alloc (by simp) _ _
  have HM := Lib.hid (hm.keep hf.below)
  have HN := Lib.hid (hn.keep hf.below)
  clear hm hn
  go_enter Try.func58, Try.ntmps58
  go_wp2_with fail
  obtain ⟨W3, hW3⟩ : ∃ W3, W3 = ((W.alloc (.cells #[.bool s, .slice ao la ca] 31)).alloc (.cells #[.bool s, .slice bo lb cb] 31)).alloc (.cells #[.bool false, .slice none 0 0] 31) := ⟨_, rfl⟩
  rw [← hW3] at hf HM HN ⊢
  clear hW3
  have HF := Lib.hid hf
  clear hf
  have c0 : W3.cell? ⟨W.heap.size, 0, none⟩ = some (.bool s) := HF.out.cell 0 0 rfl rfl
  have c1 : W3.cell? ⟨W.heap.size, 1, none⟩ = some (.slice ao la ca) := HF.out.cell 0 1 rfl rfl
  have c2 : W3.cell? ⟨W.heap.size + 1, 0, none⟩ = some (.bool s) := HF.out.cell 1 0 rfl rfl
  have c3 : W3.cell? ⟨W.heap.size + 1, 1, none⟩ = some (.slice bo lb cb) := HF.out.cell 1 1 rfl rfl
  go_region_held3 (fun w' => w'.cell? ⟨W.heap.size, 0, none⟩ = some (.bool s) ∧ w'.cell? ⟨W.heap.size, 1, none⟩ = some (.slice ao la ca) ∧ w'.cell? ⟨W.heap.size + 1, 0, none⟩ = some (.bool s) ∧ w'.cell? ⟨W.heap.size + 1, 1, none⟩ = some (.slice bo lb cb)) (first | (go_keep; done) | ((try dsimp only); (repeat' apply And.intro) <;> (first | (go_keep; done) | (rw [cell_set2 _ _ _ _ _ _ (by omega)]; assumption))))
    (first | (go_at_call 37; refine (sum_any _ _ _ _ _ _ m n W3.drew HM.out HN.out hla hlb).mono ?_; rintro e u1 ⟨po, pl, pc, rfl, hp, hb1⟩; have HB1 := Lib.hid (below_of_drew hb1); have HP := Lib.hid hp; have HF1 := Lib.hid (HF.out.later HB1.out); clear hb1 hp; have k0 : u1.cell? ⟨W.heap.size, 0, none⟩ = some (.bool s) := HF1.out.cell 0 0 rfl rfl; have k1 : u1.cell? ⟨W.heap.size, 1, none⟩ = some (.slice ao la ca) := HF1.out.cell 0 1 rfl rfl; have k2 : u1.cell? ⟨W.heap.size + 1, 0, none⟩ = some (.bool s) := HF1.out.cell 1 0 rfl rfl; have k3 : u1.cell? ⟨W.heap.size + 1, 1, none⟩ = some (.slice bo lb cb) := HF1.out.cell 1 1 rfl rfl) | (go_at_call 39; refine (signed_any s _ _ _ (m + n) _ HP.out).mono ?_; rintro e u2 ⟨neg, so, sl, sc, rfl, hz, hb2⟩; have HF2 := Lib.hid (HF1.out.later hb2); have HZ := Lib.hid hz; clear hb2 hz; have j0 : u2.cell? ⟨W.heap.size, 0, none⟩ = some (.bool s) := HF2.out.cell 0 0 rfl rfl; have j1 : u2.cell? ⟨W.heap.size, 1, none⟩ = some (.slice ao la ca) := HF2.out.cell 0 1 rfl rfl; have j2 : u2.cell? ⟨W.heap.size + 1, 0, none⟩ = some (.bool s) := HF2.out.cell 1 0 rfl rfl; have j3 : u2.cell? ⟨W.heap.size + 1, 1, none⟩ = some (.slice bo lb cb) := HF2.out.cell 1 1 rfl rfl; have g0 : u2.cell? ⟨W.heap.size + 2, 0, none⟩ = some (.bool false) := HF2.out.cell 2 0 rfl rfl; have g1 : u2.cell? ⟨W.heap.size + 2, 1, none⟩ = some (.slice none 0 0) := HF2.out.cell 2 1 rfl rfl; have g2 : u2.frozen? ⟨W.heap.size + 2, 0, none⟩ = false := HF2.out.frozen 2 0 rfl; have g3 : u2.frozen? ⟨W.heap.size + 2, 1, none⟩ = false := HF2.out.frozen 2 1 rfl))
  go_wp2
  obtain ⟨e0, e1, hz, hbel, _⟩ := HF2.out.finI (cap := sc) 2 rfl HZ.out
  exact bodyPost_ret (v := .agg #[.bool neg, .slice so sl sc]) (by simp [results, Try.results58, go_sem, e0, e1]) rfl ⟨neg, so, sl, sc, rfl, hz, hbel⟩

set_option maxHeartbeats 2000000 in
theorem plus_lt (s : Bool) (ao bo : Option Addr) (la lb ca cb : Nat) (m n : Nat) (W : World) (hm : N32 W ao la m) (hn : N32 W bo lb n) (hla : la ≤ 1000000000) (hlb : lb ≤ 1000000000) (hlt : m < n) :
    Calls Try.prog 58 #[.agg #[.bool s, .slice ao la ca], .agg #[.bool (!s), .slice bo lb cb]] W (OutI W (sgn (!s) (n - m))) := by
  have hf : Fr W (((W.alloc (.cells #[.bool s, .slice ao la ca] 31)).alloc (.cells #[.bool (!s), .slice bo lb cb] 31)).alloc (.cells #[.bool false, .slice none 0 0] 31))
      [(31, #[.bool s, .slice ao la ca]), (31, #[.bool (!s), .slice bo lb cb]), (31, #[.bool false, .slice none 0 0])] :=
    (((Fr.nil W).alloc rfl _ _).alloc (by simp) _ _).alloc (by simp) _ _
  have HM := Lib.hid (hm.keep hf.below)
  have HN := Lib.hid (hn.keep hf.below)
  clear hm hn
  have hbb : (s == !s) = false := by cases s <;> rfl
  go_enter Try.func58, Try.ntmps58
  go_wp2_with fail
  obtain ⟨W3, hW3⟩ : ∃ W3, W3 = ((W.alloc (.cells #[.bool s, .slice ao la ca] 31)).alloc (.cells #[.bool (!s), .slice bo lb cb] 31)).alloc (.cells #[.bool false, .slice none 0 0] 31) := ⟨_, rfl⟩
  rw [← hW3] at hf HM HN ⊢
  clear hW3
  have HF0 := Lib.hid hf
  clear hf
  have c0 : W3.cell? ⟨W.heap.size, 0, none⟩ = some (.bool s) := HF0.out.cell 0 0 rfl rfl
  have c1 : W3.cell? ⟨W.heap.size, 1, none⟩ = some (.slice ao la ca) := HF0.out.cell 0 1 rfl rfl
  have c2 : W3.cell? ⟨W.heap.size + 1, 0, none⟩ = some (.bool (!s)) := HF0.out.cell 1 0 rfl rfl
  have c3 : W3.cell? ⟨W.heap.size + 1, 1, none⟩ = some (.slice bo lb cb) := HF0.out.cell 1 1 rfl rfl
  go_wp2_with fail
  refine (compare_any _ _ _ _ _ _ m n W3 HM.out HN.out hla hlb).mono ?_
  rintro e w1 ⟨rfl, hdr⟩
  rw [cmpN_lt hlt]
  have HF := Lib.hid (HF0.out.later hdr.below)
  have HM1 := Lib.hid (HM.out.keep hdr.below)
  have HN1 := Lib.hid (HN.out.keep hdr.below)
  clear hdr c0 c1 c2 c3
  have d0 : w1.cell? ⟨W.heap.size, 0, none⟩ = some (.bool s) := HF.out.cell 0 0 rfl rfl
  have d1 : w1.cell? ⟨W.heap.size, 1, none⟩ = some (.slice ao la ca) := HF.out.cell 0 1 rfl rfl
  have d2 : w1.cell? ⟨W.heap.size + 1, 0, none⟩ = some (.bool (!s)) := HF.out.cell 1 0 rfl rfl
  have d3 : w1.cell? ⟨W.heap.size + 1, 1, none⟩ = some (.slice bo lb cb) := HF.out.cell 1 1 rfl rfl
  go_wp2_with fail
  go_region_held3 (fun w' => w'.cell? ⟨W.heap.size, 0, none⟩ = some (.bool s) ∧ w'.cell? ⟨W.heap.size, 1, none⟩ = some (.slice ao la ca) ∧ w'.cell? ⟨W.heap.size + 1, 0, none⟩ = some (.bool (!s)) ∧ w'.cell? ⟨W.heap.size + 1, 1, none⟩ = some (.slice bo lb cb)) (first | (go_keep; done) | ((try dsimp only); (repeat' apply And.intro) <;> (first | (go_keep; done) | (rw [cell_set2 _ _ _ _ _ _ (by omega)]; assumption))))
    (first | (go_at_call 38; refine (difference_any _ _ _ _ _ _ n m w1.drew HN1.out HM1.out hlb (Nat.le_of_lt hlt)).mono ?_; rintro e u1 ⟨po, pl, pc, rfl, hp, hb1⟩; have HB1 := Lib.hid (below_of_drew hb1); have HP := Lib.hid hp; have HF1 := Lib.hid (HF.out.later HB1.out); clear hb1 hp; have k0 : u1.cell? ⟨W.heap.size, 0, none⟩ = some (.bool s) := HF1.out.cell 0 0 rfl rfl; have k1 : u1.cell? ⟨W.heap.size, 1, none⟩ = some (.slice ao la ca) := HF1.out.cell 0 1 rfl rfl; have k2 : u1.cell? ⟨W.heap.size + 1, 0, none⟩ = some (.bool (!s)) := HF1.out.cell 1 0 rfl rfl; have k3 : u1.cell? ⟨W.heap.size + 1, 1, none⟩ = some (.slice bo lb cb) := HF1.out.cell 1 1 rfl rfl) | (go_at_call 39; refine (signed_any (!s) _ _ _ (n - m) _ HP.out).mono ?_; rintro e u2 ⟨neg, so, sl, sc, rfl, hz, hb2⟩; have HF2 := Lib.hid (HF1.out.later hb2); have HZ := Lib.hid hz; clear hb2 hz; have j0 : u2.cell? ⟨W.heap.size, 0, none⟩ = some (.bool s) := HF2.out.cell 0 0 rfl rfl; have j1 : u2.cell? ⟨W.heap.size, 1, none⟩ = some (.slice ao la ca) := HF2.out.cell 0 1 rfl rfl; have j2 : u2.cell? ⟨W.heap.size + 1, 0, none⟩ = some (.bool (!s)) := HF2.out.cell 1 0 rfl rfl; have j3 : u2.cell? ⟨W.heap.size + 1, 1, none⟩ = some (.slice bo lb cb) := HF2.out.cell 1 1 rfl rfl; have g0 : u2.cell? ⟨W.heap.size + 2, 0, none⟩ = some (.bool false) := HF2.out.cell 2 0 rfl rfl; have g1 : u2.cell? ⟨W.heap.size + 2, 1, none⟩ = some (.slice none 0 0) := HF2.out.cell 2 1 rfl rfl; have g2 : u2.frozen? ⟨W.heap.size + 2, 0, none⟩ = false := HF2.out.frozen 2 0 rfl; have g3 : u2.frozen? ⟨W.heap.size + 2, 1, none⟩ = false := HF2.out.frozen 2 1 rfl))
  go_wp2
  obtain ⟨e0, e1, hz, hbel, _⟩ := HF2.out.finI (cap := sc) 2 rfl HZ.out
  exact bodyPost_ret (v := .agg #[.bool neg, .slice so sl sc]) (by simp [results, Try.results58, go_sem, e0, e1]) rfl ⟨neg, so, sl, sc, rfl, hz, hbel⟩

set_option maxHeartbeats 2000000 in
theorem plus_ge (s : Bool) (ao bo : Option Addr) (la lb ca cb : Nat) (m n : Nat) (W : World) (hm : N32 W ao la m) (hn : N32 W bo lb n) (hla : la ≤ 1000000000) (hlb : lb ≤ 1000000000) (hlt : n ≤ m) :
    Calls Try.prog 58 #[.agg #[.bool s, .slice ao la ca], .agg #[.bool (!s), .slice bo lb cb]] W (OutI W (sgn s (m - n))) := by
  have hf : Fr W (((W.alloc (.cells #[.bool s, .slice ao la ca] 31)).alloc (.cells #[.bool (!s), .slice bo lb cb] 31)).alloc (.cells #[.bool false, .slice none 0 0] 31))
      [(31, #[.bool s, .slice ao la ca]), (31, #[.bool (!s), .slice bo lb cb]), (31, #[.bool false, .slice none 0 0])] :=
    (((Fr.nil W).alloc rfl _ _).alloc (by simp) _ _).alloc (by simp) _ _
  have HM := Lib.hid (hm.keep hf.below)
  have HN := Lib.hid (hn.keep hf.below)
  clear hm hn
  have hbb : (s == !s) = false := by cases s <;> rfl
  go_enter Try.func58, Try.ntmps58
  go_wp2_with fail
  obtain ⟨W3, hW3⟩ : ∃ W3, W3 = ((W.alloc (.cells #[.bool s, .slice ao la ca] 31)).alloc (.cells #[.bool (!s), .slice bo lb cb] 31)).alloc (.cells #[.bool false, .slice none 0 0] 31) := ⟨_, rfl⟩
  rw [← hW3] at hf HM HN ⊢
  clear hW3
  have HF0 := Lib.hid hf
  clear hf
  have c0 : W3.cell? ⟨W.heap.size, 0, none⟩ = some (.bool s) := HF0.out.cell 0 0 rfl rfl
  have c1 : W3.cell? ⟨W.heap.size, 1, none⟩ = some (.slice ao la ca) := HF0.out.cell 0 1 rfl rfl
  have c2 : W3.cell? ⟨W.heap.size + 1, 0, none⟩ = some (.bool (!s)) := HF0.out.cell 1 0 rfl rfl
  have c3 : W3.cell? ⟨W.heap.size + 1, 1, none⟩ = some (.slice bo lb cb) := HF0.out.cell 1 1 rfl rfl
  go_wp2_with fail
  refine (compare_any _ _ _ _ _ _ m n W3 HM.out HN.out hla hlb).mono ?_
  rintro e w1 ⟨rfl, hdr⟩
  obtain ⟨z, hz⟩ : ∃ z, z = cmpN m n := ⟨_, rfl⟩
  rw [← hz]
  have tz : 0 ≤ z := by rw [hz]; unfold cmpN; rw [if_neg (by omega)]; split <;> decide
  have tn : ¬ z < 0 := by omega
  clear hz
  have HF := Lib.hid (HF0.out.later hdr.below)
  have HM1 := Lib.hid (HM.out.keep hdr.below)
  have HN1 := Lib.hid (HN.out.keep hdr.below)
  clear hdr c0 c1 c2 c3
  have d0 : w1.cell? ⟨W.heap.size, 0, none⟩ = some (.bool s) := HF.out.cell 0 0 rfl rfl
  have d1 : w1.cell? ⟨W.heap.size, 1, none⟩ = some (.slice ao la ca) := HF.out.cell 0 1 rfl rfl
  have d2 : w1.cell? ⟨W.heap.size + 1, 0, none⟩ = some (.bool (!s)) := HF.out.cell 1 0 rfl rfl
  have d3 : w1.cell? ⟨W.heap.size + 1, 1, none⟩ = some (.slice bo lb cb) := HF.out.cell 1 1 rfl rfl
  go_wp2_with fail
  go_region_held3 (fun w' => w'.cell? ⟨W.heap.size, 0, none⟩ = some (.bool s) ∧ w'.cell? ⟨W.heap.size, 1, none⟩ = some (.slice ao la ca) ∧ w'.cell? ⟨W.heap.size + 1, 0, none⟩ = some (.bool (!s)) ∧ w'.cell? ⟨W.heap.size + 1, 1, none⟩ = some (.slice bo lb cb)) (first | (go_keep; done) | ((try dsimp only); (repeat' apply And.intro) <;> (first | (go_keep; done) | (rw [cell_set2 _ _ _ _ _ _ (by omega)]; assumption))))
    (first | (go_at_call 38; refine (difference_any _ _ _ _ _ _ m n w1.drew HM1.out HN1.out hla hlt).mono ?_; rintro e u1 ⟨po, pl, pc, rfl, hp, hb1⟩; have HB1 := Lib.hid (below_of_drew hb1); have HP := Lib.hid hp; have HF1 := Lib.hid (HF.out.later HB1.out); clear hb1 hp; have k0 : u1.cell? ⟨W.heap.size, 0, none⟩ = some (.bool s) := HF1.out.cell 0 0 rfl rfl; have k1 : u1.cell? ⟨W.heap.size, 1, none⟩ = some (.slice ao la ca) := HF1.out.cell 0 1 rfl rfl; have k2 : u1.cell? ⟨W.heap.size + 1, 0, none⟩ = some (.bool (!s)) := HF1.out.cell 1 0 rfl rfl; have k3 : u1.cell? ⟨W.heap.size + 1, 1, none⟩ = some (.slice bo lb cb) := HF1.out.cell 1 1 rfl rfl) | (go_at_call 39; refine (signed_any s _ _ _ (m - n) _ HP.out).mono ?_; rintro e u2 ⟨neg, so, sl, sc, rfl, hz, hb2⟩; have HF2 := Lib.hid (HF1.out.later hb2); have HZ := Lib.hid hz; clear hb2 hz; have j0 : u2.cell? ⟨W.heap.size, 0, none⟩ = some (.bool s) := HF2.out.cell 0 0 rfl rfl; have j1 : u2.cell? ⟨W.heap.size, 1, none⟩ = some (.slice ao la ca) := HF2.out.cell 0 1 rfl rfl; have j2 : u2.cell? ⟨W.heap.size + 1, 0, none⟩ = some (.bool (!s)) := HF2.out.cell 1 0 rfl rfl; have j3 : u2.cell? ⟨W.heap.size + 1, 1, none⟩ = some (.slice bo lb cb) := HF2.out.cell 1 1 rfl rfl; have g0 : u2.cell? ⟨W.heap.size + 2, 0, none⟩ = some (.bool false) := HF2.out.cell 2 0 rfl rfl; have g1 : u2.cell? ⟨W.heap.size + 2, 1, none⟩ = some (.slice none 0 0) := HF2.out.cell 2 1 rfl rfl; have g2 : u2.frozen? ⟨W.heap.size + 2, 0, none⟩ = false := HF2.out.frozen 2 0 rfl; have g3 : u2.frozen? ⟨W.heap.size + 2, 1, none⟩ = false := HF2.out.frozen 2 1 rfl))
  go_wp2
  obtain ⟨e0, e1, hz, hbel, _⟩ := HF2.out.finI (cap := sc) 2 rfl HZ.out
  exact bodyPost_ret (v := .agg #[.bool neg, .slice so sl sc]) (by simp [results, Try.results58, go_sem, e0, e1]) rfl ⟨neg, so, sl, sc, rfl, hz, hbel⟩

theorem plus_any (na nb : Bool) (ao bo : Option Addr) (la lb ca cb : Nat) (x y : Int) (W : World) (ha : Z32 W na ao la x) (hb : Z32 W nb bo lb y) (hla : la ≤ 1000000000) (hlb : lb ≤ 1000000000) :
    Calls Try.prog 58 #[.agg #[.bool na, .slice ao la ca], .agg #[.bool nb, .slice bo lb cb]] W (OutI W (x + y)) := by
  obtain ⟨m, hm, rfl, hpm⟩ := ha
  obtain ⟨n, hn, rfl, hpn⟩ := hb
  by_cases h : na = nb
  · subst h
    rw [sgn_add]
    exact plus_same na ao bo la lb ca cb m n W hm hn hla hlb
  · obtain rfl : nb = !na := by cases na <;> cases nb <;> simp_all
    rcases Nat.lt_or_ge m n with hlt | hlt
    · rw [sgn_lt na hlt]
      exact plus_lt na ao bo la lb ca cb m n W hm hn hla hlb hlt
    · rw [sgn_ge na hlt]
      exact plus_ge na ao bo la lb ca cb m n W hm hn hla hlb hlt
end Go.Proofs.Ytbihgllfllkkaaa

/- The specification: Add. -/
set_option linter.unusedVariables false
namespace Go.Proofs.Ytbihgllfllkkaaa
open Go.RowKit

end Go.Proofs.Ytbihgllfllkkaaa

/- The specification: Opp, Sub, Cmp. -/
set_option linter.unusedVariables false
namespace Go.Proofs.Ytbihgllfllkkaaa
open Go.RowKit

theorem sgn_neg (s : Bool) (n : Nat) : -sgn s n = sgn (!s) n := by cases s <;> simp [sgn]

end Go.Proofs.Ytbihgllfllkkaaa

/- Of, Num, Floor of fractions; the specification's Whole and Text of a fraction. -/
set_option linter.unusedVariables false
namespace Go.Proofs.Ytbihgllfllkkaaa
open Go.RowKit

set_option maxHeartbeats 1000000 in
theorem ratNum_any (na : Bool) (ao bo : Option Addr) (la lb ca cb : Nat) (p : Int) (q : Nat) (W : World) (h : Q32 W na ao la bo lb p q) (hla : la ≤ 1000000000) :
    Calls Try.prog 30 #[.agg #[.bool na, .slice ao la ca, .slice bo lb cb]] W (OutI W p) := by
  have hf : Fr W ((W.alloc (.cells #[.bool na, .slice ao la ca, .slice bo lb cb] 52)).alloc (.cells #[.bool false, .slice none 0 0] 31))
      [(52, #[.bool na, .slice ao la ca, .slice bo lb cb]), (31, #[.bool false, .slice none 0 0])] :=
    ((Fr.nil W).alloc rfl _ _).alloc (by simp) _ _
  obtain ⟨n, hn, rfl, hp⟩ := (h.keep hf.below).1
  have HN := Lib.hid hn
  clear h hn hp
  go_enter Try.func30, Try.ntmps30
  go_wp2_with fail
  obtain ⟨W3, hW3⟩ : ∃ W3, W3 = (W.alloc (.cells #[.bool na, .slice ao la ca, .slice bo lb cb] 52)).alloc (.cells #[.bool false, .slice none 0 0] 31) := ⟨_, rfl⟩
  rw [← hW3] at hf HN ⊢
  clear hW3
  have HF := Lib.hid hf
  clear hf
  have c0 : W3.cell? ⟨W.heap.size, 0, none⟩ = some (.bool na) := HF.out.cell 0 0 rfl rfl
  have c1 : W3.cell? ⟨W.heap.size, 1, none⟩ = some (.slice ao la ca) := HF.out.cell 0 1 rfl rfl
  go_region_held3 (fun w' => w'.cell? ⟨W.heap.size, 0, none⟩ = some (.bool na) ∧ w'.cell? ⟨W.heap.size, 1, none⟩ = some (.slice ao la ca)) (first | (go_keep; done) | ((try dsimp only); (repeat' apply And.intro) <;> (first | (go_keep; done) | (rw [cell_set2 _ _ _ _ _ _ (by omega)]; assumption))))
    (first | (go_at_call 51; refine (duplicate_n _ _ _ n W3.drew HN.out hla).mono ?_; rintro e u1 ⟨po, pc, rfl, hp, hb1⟩; have HB1 := Lib.hid (below_of_drew hb1); have HP := Lib.hid hp; have HF1 := Lib.hid (HF.out.later HB1.out); clear hb1 hp; have k0 : u1.cell? ⟨W.heap.size, 0, none⟩ = some (.bool na) := HF1.out.cell 0 0 rfl rfl; have k1 : u1.cell? ⟨W.heap.size, 1, none⟩ = some (.slice ao la ca) := HF1.out.cell 0 1 rfl rfl) | (go_at_call 39; refine (signed_any na _ _ _ n _ HP.out).mono ?_; rintro e u2 ⟨neg, so, sl, sc, rfl, hz, hb2⟩; have HF2 := Lib.hid (HF1.out.later hb2); have HZ := Lib.hid hz; clear hb2 hz; have j0 : u2.cell? ⟨W.heap.size, 0, none⟩ = some (.bool na) := HF2.out.cell 0 0 rfl rfl; have j1 : u2.cell? ⟨W.heap.size, 1, none⟩ = some (.slice ao la ca) := HF2.out.cell 0 1 rfl rfl; have g0 : u2.cell? ⟨W.heap.size + 1, 0, none⟩ = some (.bool false) := HF2.out.cell 1 0 rfl rfl; have g1 : u2.cell? ⟨W.heap.size + 1, 1, none⟩ = some (.slice none 0 0) := HF2.out.cell 1 1 rfl rfl; have g2 : u2.frozen? ⟨W.heap.size + 1, 0, none⟩ = false := HF2.out.frozen 1 0 rfl; have g3 : u2.frozen? ⟨W.heap.size + 1, 1, none⟩ = false := HF2.out.frozen 1 1 rfl))
  go_wp2
  obtain ⟨e0, e1, hz, hbel, _⟩ := HF2.out.finI (cap := sc) 1 rfl HZ.out
  exact bodyPost_ret (v := .agg #[.bool neg, .slice so sl sc]) (by simp [results, Try.results30, go_sem, e0, e1]) rfl ⟨neg, so, sl, sc, rfl, hz, hbel⟩

/-- a fraction of the specification is returned -/
def OutK (W : World) (p : Int) (q : Int) (e : Ending) (w' : World) : Prop :=
  ∃ s1 o1 l1 c1 s2 o2 l2 c2, e = .returned (.agg #[.bool s1, .slice o1 l1 c1, .bool s2, .slice o2 l2 c2]) ∧ l1 ≤ c1 ∧ c1 ≤ 9223372036854775807 ∧ l2 ≤ c2 ∧ c2 ≤ 9223372036854775807 ∧ Z16 w' s1 o1 l1 p ∧ Z16 w' s2 o2 l2 q ∧ Below W.heap.size W w'

theorem Fr.finK {W w : World} {bs : List (Nat × Array Value)} {s1 s2 : Bool} {o1 o2 : Option Addr} {l1 l2 c1 c2 : Nat} {p q : Int} (hf : Fr W w bs) (i : Nat) {T : Nat} {e0 e1 : Bool} {a1 a2 : Option Addr} {m1 m2 d1 d2 : Nat}
    (hi : bs[i]? = some (T, #[.bool e0, .slice a1 m1 d1, .bool e1, .slice a2 m2 d2])) (h1 : Z16 w s1 o1 l1 p) (h2 : Z16 w s2 o2 l2 q) :
    let w' := (((w.setCell ⟨W.heap.size + i, 0, none⟩ (.bool s1)).setCell ⟨W.heap.size + i, 1, none⟩ (.slice o1 l1 c1)).setCell ⟨W.heap.size + i, 2, none⟩ (.bool s2)).setCell ⟨W.heap.size + i, 3, none⟩ (.slice o2 l2 c2)
    w'.cell? ⟨W.heap.size + i, 0, none⟩ = some (.bool s1) ∧ w'.cell? ⟨W.heap.size + i, 1, none⟩ = some (.slice o1 l1 c1) ∧ w'.cell? ⟨W.heap.size + i, 2, none⟩ = some (.bool s2) ∧ w'.cell? ⟨W.heap.size + i, 3, none⟩ = some (.slice o2 l2 c2) ∧
      Z16 w' s1 o1 l1 p ∧ Z16 w' s2 o2 l2 q ∧ Below W.heap.size W w' := by
  have hl := (List.getElem?_eq_some_iff.1 hi).1
  have k1 := hf.set i 0 hi (.bool s1)
  have i1 : (bs.set i (T, #[.bool s1, .slice a1 m1 d1, .bool e1, .slice a2 m2 d2]))[i]? = some (T, #[.bool s1, .slice a1 m1 d1, .bool e1, .slice a2 m2 d2]) := List.getElem?_set_self hl
  have p1 := h1.setFr hf i 0 hi rfl (.bool s1)
  have q1 := h2.setFr hf i 0 hi rfl (.bool s1)
  have k2 := k1.set i 1 i1 (.slice o1 l1 c1)
  have i2 : ((bs.set i (T, #[.bool s1, .slice a1 m1 d1, .bool e1, .slice a2 m2 d2])).set i (T, #[.bool s1, .slice o1 l1 c1, .bool e1, .slice a2 m2 d2]))[i]? = some (T, #[.bool s1, .slice o1 l1 c1, .bool e1, .slice a2 m2 d2]) := List.getElem?_set_self (by simpa using hl)
  have p2 := p1.setFr k1 i 1 i1 rfl (.slice o1 l1 c1)
  have q2 := q1.setFr k1 i 1 i1 rfl (.slice o1 l1 c1)
  have k3 := k2.set i 2 i2 (.bool s2)
  have i3 : (((bs.set i (T, #[.bool s1, .slice a1 m1 d1, .bool e1, .slice a2 m2 d2])).set i (T, #[.bool s1, .slice o1 l1 c1, .bool e1, .slice a2 m2 d2])).set i (T, #[.bool s1, .slice o1 l1 c1, .bool s2, .slice a2 m2 d2]))[i]? = some (T, #[.bool s1, .slice o1 l1 c1, .bool s2, .slice a2 m2 d2]) := List.getElem?_set_self (by simpa using hl)
  have p3 := p2.setFr k2 i 2 i2 rfl (.bool s2)
  have q3 := q2.setFr k2 i 2 i2 rfl (.bool s2)
  have k4 := k3.set i 3 i3 (.slice o2 l2 c2)
  have i4 : ((((bs.set i (T, #[.bool s1, .slice a1 m1 d1, .bool e1, .slice a2 m2 d2])).set i (T, #[.bool s1, .slice o1 l1 c1, .bool e1, .slice a2 m2 d2])).set i (T, #[.bool s1, .slice o1 l1 c1, .bool s2, .slice a2 m2 d2])).set i (T, #[.bool s1, .slice o1 l1 c1, .bool s2, .slice o2 l2 c2]))[i]? = some (T, #[.bool s1, .slice o1 l1 c1, .bool s2, .slice o2 l2 c2]) := List.getElem?_set_self (by simpa using hl)
  have p4 := p3.setFr k3 i 3 i3 rfl (.slice o2 l2 c2)
  have q4 := q3.setFr k3 i 3 i3 rfl (.slice o2 l2 c2)
  exact ⟨k4.cell i 0 i4 rfl, k4.cell i 1 i4 rfl, k4.cell i 2 i4 rfl, k4.cell i 3 i4 rfl, p4, q4, k4.below⟩

end Go.Proofs.Ytbihgllfllkkaaa

/- fitting, Neg, Add, Sub, Mul, Cmp. -/
set_option linter.unusedVariables false
namespace Go.Proofs.Ytbihgllfllkkaaa
open Go.RowKit

/-- the integer fits -/
def Fits (z : Int) : Prop := blen z.natAbs ≤ 16384

/-- returned: the integer and no error, or, if it does not fit, 0 and the error -/
def OutF (W : World) (z : Int) (e : Ending) (w' : World) : Prop :=
  (Fits z ∧ ∃ neg ao len cap, e = .returned (.tuple #[.agg #[.bool neg, .slice ao len cap], .int .i64 0]) ∧ Z32 w' neg ao len z ∧ Below W.heap.size W w') ∨
  (¬ Fits z ∧ e = .returned (.tuple #[.agg #[.bool false, .slice none 0 0], .int .i64 3]) ∧ Below W.heap.size W w')

theorem Z32.nil (w : World) : Z32 w false none 0 0 := ⟨0, N32.nil _ _, rfl, by simp⟩

set_option maxHeartbeats 800000 in
theorem fitting_any (neg : Bool) (ao : Option Addr) (len cap : Nat) (z : Int) (W : World) (h : Z32 W neg ao len z) (hl : len ≤ 1000000000) :
    Calls Try.prog 52 #[.agg #[.bool neg, .slice ao len cap]] W (OutF W z) := by
  have hf : Fr W ((W.alloc (.cells #[.bool neg, .slice ao len cap] 31)).alloc (.cells #[.bool false, .slice none 0 0] 31))
      [(31, #[.bool neg, .slice ao len cap]), (31, #[.bool false, .slice none 0 0])] := ((Fr.nil W).alloc rfl _ _).alloc (by simp) _ _
  have HZ := Lib.hid (h.keep hf.below)
  have HF := Lib.hid hf
  clear h hf
  go_enter Try.func52, Try.ntmps52
  go_wp2_with fail
  refine (bitLen_any _ _ _ _ z _ HZ.out hl).mono ?_
  rintro e w1 ⟨rfl, hb1⟩
  have HF1 := Lib.hid (HF.out.later hb1)
  have HZ1 := Lib.hid (HZ.out.keep hb1)
  clear hb1
  have b0 : w1.cell? ⟨W.heap.size, 0, none⟩ = some (.bool neg) := HF1.out.cell 0 0 rfl rfl
  have b1 : w1.cell? ⟨W.heap.size, 1, none⟩ = some (.slice ao len cap) := HF1.out.cell 0 1 rfl rfl
  have g0 : w1.cell? ⟨W.heap.size + 1, 0, none⟩ = some (.bool false) := HF1.out.cell 1 0 rfl rfl
  have g1 : w1.cell? ⟨W.heap.size + 1, 1, none⟩ = some (.slice none 0 0) := HF1.out.cell 1 1 rfl rfl
  have g2 : w1.frozen? ⟨W.heap.size + 1, 0, none⟩ = false := HF1.out.frozen 1 0 rfl
  have g3 : w1.frozen? ⟨W.heap.size + 1, 1, none⟩ = false := HF1.out.frozen 1 1 rfl
  obtain ⟨k, hk⟩ : ∃ k, k = blen z.natAbs := ⟨_, rfl⟩
  rw [← hk]
  by_cases hfit : k ≤ 16384
  · have t1 : ¬ (16384 : Int) < (k : Int) := by omega
    have HX : Hid (Fits z) := by unfold Fits; rw [← hk]; exact hfit
    clear hk hfit
    go_wp2
    obtain ⟨e0, e1, hz, hbel, _⟩ := HF1.out.finI (cap := cap) 1 rfl HZ1.out
    exact bodyPost_ret (v := .tuple #[.agg #[.bool neg, .slice ao len cap], .int .i64 0]) (by simp [results, Try.results52, go_sem, e0, e1]) rfl (.inl ⟨HX.out, neg, ao, len, cap, rfl, hz, hbel⟩)
  · have t1 : (16384 : Int) < (k : Int) := by omega
    have HX : Hid (¬ Fits z) := by unfold Fits; rw [← hk]; exact hfit
    clear hk hfit
    go_wp2
    obtain ⟨e0, e1, hz, hbel, _⟩ := HF1.out.finI (cap := 0) 1 rfl (Z32.nil _)
    exact bodyPost_ret (v := .tuple #[.agg #[.bool false, .slice none 0 0], .int .i64 3]) (by simp [results, Try.results52, go_sem, e0, e1]) rfl (.inr ⟨HX.out, rfl, hbel⟩)

set_option maxHeartbeats 1000000 in
theorem neg_any (na : Bool) (ao : Option Addr) (la ca : Nat) (z : Int) (W : World) (h : Z32 W na ao la z) (hla : la ≤ 1000000000) :
    Calls Try.prog 19 #[.agg #[.bool na, .slice ao la ca]] W (OutI W (-z)) := by
  have hf : Fr W ((W.alloc (.cells #[.bool na, .slice ao la ca] 31)).alloc (.cells #[.bool false, .slice none 0 0] 31))
      [(31, #[.bool na, .slice ao la ca]), (31, #[.bool false, .slice none 0 0])] := ((Fr.nil W).alloc rfl _ _).alloc (by simp) _ _
  obtain ⟨n, hn, rfl, hp⟩ := h.keep hf.below
  have HN := Lib.hid hn
  clear h hn hp
  rw [sgn_neg]
  go_enter Try.func19, Try.ntmps19
  go_wp2_with fail
  obtain ⟨W3, hW3⟩ : ∃ W3, W3 = (W.alloc (.cells #[.bool na, .slice ao la ca] 31)).alloc (.cells #[.bool false, .slice none 0 0] 31) := ⟨_, rfl⟩
  rw [← hW3] at hf HN ⊢
  clear hW3
  have HF := Lib.hid hf
  clear hf
  have c0 : W3.cell? ⟨W.heap.size, 0, none⟩ = some (.bool na) := HF.out.cell 0 0 rfl rfl
  have c1 : W3.cell? ⟨W.heap.size, 1, none⟩ = some (.slice ao la ca) := HF.out.cell 0 1 rfl rfl
  go_region_held3 (fun w' => w'.cell? ⟨W.heap.size, 0, none⟩ = some (.bool na) ∧ w'.cell? ⟨W.heap.size, 1, none⟩ = some (.slice ao la ca)) (first | (go_keep; done) | ((try dsimp only); (repeat' apply And.intro) <;> (first | (go_keep; done) | (rw [cell_set2 _ _ _ _ _ _ (by omega)]; assumption))))
    (first | (go_at_call 51; refine (duplicate_n _ _ _ n W3.drew HN.out hla).mono ?_; rintro e u1 ⟨po, pc, rfl, hp, hb1⟩; have HB1 := Lib.hid (below_of_drew hb1); have HP := Lib.hid hp; have HF1 := Lib.hid (HF.out.later HB1.out); clear hb1 hp; have k0 : u1.cell? ⟨W.heap.size, 0, none⟩ = some (.bool na) := HF1.out.cell 0 0 rfl rfl; have k1 : u1.cell? ⟨W.heap.size, 1, none⟩ = some (.slice ao la ca) := HF1.out.cell 0 1 rfl rfl) | (go_at_call 39; refine (signed_any (!na) _ _ _ n _ HP.out).mono ?_; rintro e u2 ⟨neg, so, sl, sc, rfl, hz, hb2⟩; have HF2 := Lib.hid (HF1.out.later hb2); have HZ := Lib.hid hz; clear hb2 hz; have j0 : u2.cell? ⟨W.heap.size, 0, none⟩ = some (.bool na) := HF2.out.cell 0 0 rfl rfl; have j1 : u2.cell? ⟨W.heap.size, 1, none⟩ = some (.slice ao la ca) := HF2.out.cell 0 1 rfl rfl; have g0 : u2.cell? ⟨W.heap.size + 1, 0, none⟩ = some (.bool false) := HF2.out.cell 1 0 rfl rfl; have g1 : u2.cell? ⟨W.heap.size + 1, 1, none⟩ = some (.slice none 0 0) := HF2.out.cell 1 1 rfl rfl; have g2 : u2.frozen? ⟨W.heap.size + 1, 0, none⟩ = false := HF2.out.frozen 1 0 rfl; have g3 : u2.frozen? ⟨W.heap.size + 1, 1, none⟩ = false := HF2.out.frozen 1 1 rfl))
  go_wp2
  obtain ⟨e0, e1, hz, hbel, _⟩ := HF2.out.finI (cap := sc) 1 rfl HZ.out
  exact bodyPost_ret (v := .agg #[.bool neg, .slice so sl sc]) (by simp [results, Try.results19, go_sem, e0, e1]) rfl ⟨neg, so, sl, sc, rfl, hz, hbel⟩

theorem addI_len {x y : Int} {a b : Nat} (hx : x.natAbs < B32 ^ a) (hy : y.natAbs < B32 ^ b) : (x + y).natAbs < B32 ^ (a + b + 1) := by
  have h1 : B32 ^ a ≤ B32 ^ (a + b) := Nat.pow_le_pow_right B32_pos (by omega)
  have h2 : B32 ^ b ≤ B32 ^ (a + b) := Nat.pow_le_pow_right B32_pos (by omega)
  have h3 : B32 ^ (a + b + 1) = B32 ^ (a + b) * B32 := Nat.pow_succ ..
  rw [h3, B32_eq]
  rw [B32_eq] at hx hy h1 h2
  omega

set_option maxHeartbeats 1000000 in
theorem addI_any (na nb : Bool) (ao bo : Option Addr) (la lb ca cb : Nat) (x y : Int) (W : World) (ha : Z32 W na ao la x) (hb : Z32 W nb bo lb y) (hla : la ≤ 100000000) (hlb : lb ≤ 100000000) :
    Calls Try.prog 28 #[.agg #[.bool na, .slice ao la ca], .agg #[.bool nb, .slice bo lb cb]] W (OutF W (x + y)) := by
  have hf : Fr W (((W.alloc (.cells #[.bool na, .slice ao la ca] 31)).alloc (.cells #[.bool nb, .slice bo lb cb] 31)).alloc (.cells #[.bool false, .slice none 0 0] 31))
      [(31, #[.bool na, .slice ao la ca]), (31, #[.bool nb, .slice bo lb cb]), (31, #[.bool false, .slice none 0 0])] :=
    (((Fr.nil W).alloc rfl _ _).alloc (by simp) _ _).alloc (by simp) _ _
  have HLEN := Lib.hid (addI_len ha.natAbs_lt hb.natAbs_lt)
  have HA := Lib.hid (ha.keep hf.below)
  have HB := Lib.hid (hb.keep hf.below)
  have HF := Lib.hid hf
  clear ha hb hf
  go_enter Try.func28, Try.ntmps28
  go_wp2_with fail
  refine (plus_any _ _ _ _ _ _ _ _ x y _ HA.out HB.out (by omega) (by omega)).mono ?_
  rintro e w1 ⟨s1, o1, l1, c1, rfl, hz1, hb1⟩
  have HF1 := Lib.hid (HF.out.later hb1)
  have HZ1 := Lib.hid hz1
  have hl1 : l1 ≤ 1000000000 := Nat.le_trans (hz1.n32.len_le HLEN.out) (by omega)
  clear hz1 hb1
  go_wp2_with fail
  refine (fitting_any _ _ _ _ (x + y) _ HZ1.out hl1).mono ?_
  rintro e w2 (⟨hfit, neg, so, sl, sc, rfl, hz, hb2⟩ | ⟨hfit, rfl, hb2⟩)
  · have HF2 := Lib.hid (HF1.out.later hb2)
    have HX := Lib.hid hfit
    have HZ := Lib.hid hz
    clear hb2 hfit hz
    have g0 : w2.cell? ⟨W.heap.size + 2, 0, none⟩ = some (.bool false) := HF2.out.cell 2 0 rfl rfl
    have g1 : w2.cell? ⟨W.heap.size + 2, 1, none⟩ = some (.slice none 0 0) := HF2.out.cell 2 1 rfl rfl
    have g2 : w2.frozen? ⟨W.heap.size + 2, 0, none⟩ = false := HF2.out.frozen 2 0 rfl
    have g3 : w2.frozen? ⟨W.heap.size + 2, 1, none⟩ = false := HF2.out.frozen 2 1 rfl
    go_wp2
    obtain ⟨e0, e1, hz, hbel, _⟩ := HF2.out.finI (cap := sc) 2 rfl HZ.out
    exact bodyPost_ret (v := .tuple #[.agg #[.bool neg, .slice so sl sc], .int .i64 0]) (by simp [results, Try.results28, go_sem, e0, e1]) rfl (.inl ⟨HX.out, neg, so, sl, sc, rfl, hz, hbel⟩)
  · have HF2 := Lib.hid (HF1.out.later hb2)
    have HX := Lib.hid hfit
    clear hb2 hfit
    have g0 : w2.cell? ⟨W.heap.size + 2, 0, none⟩ = some (.bool false) := HF2.out.cell 2 0 rfl rfl
    have g1 : w2.cell? ⟨W.heap.size + 2, 1, none⟩ = some (.slice none 0 0) := HF2.out.cell 2 1 rfl rfl
    have g2 : w2.frozen? ⟨W.heap.size + 2, 0, none⟩ = false := HF2.out.frozen 2 0 rfl
    have g3 : w2.frozen? ⟨W.heap.size + 2, 1, none⟩ = false := HF2.out.frozen 2 1 rfl
    go_wp2
    obtain ⟨e0, e1, hz, hbel, _⟩ := HF2.out.finI (cap := 0) 2 rfl (Z32.nil _)
    exact bodyPost_ret (v := .tuple #[.agg #[.bool false, .slice none 0 0], .int .i64 3]) (by simp [results, Try.results28, go_sem, e0, e1]) rfl (.inr ⟨HX.out, rfl, hbel⟩)

theorem mulI_len {x y : Int} {a b : Nat} (hx : x.natAbs < B32 ^ a) (hy : y.natAbs < B32 ^ b) : (x * y).natAbs < B32 ^ (a + b + 1) := by
  rw [Int.natAbs_mul]
  have h1 : x.natAbs * y.natAbs < B32 ^ a * B32 ^ b := Nat.mul_lt_mul'' hx hy
  rw [← Nat.pow_add] at h1
  exact Nat.lt_of_lt_of_le h1 (Nat.pow_le_pow_right B32_pos (by omega))

set_option maxHeartbeats 1000000 in
theorem mulI_any (na nb : Bool) (ao bo : Option Addr) (la lb ca cb : Nat) (x y : Int) (W : World) (ha : Z32 W na ao la x) (hb : Z32 W nb bo lb y) (hla : la ≤ 100000000) (hlb : lb ≤ 100000000) :
    Calls Try.prog 20 #[.agg #[.bool na, .slice ao la ca], .agg #[.bool nb, .slice bo lb cb]] W (OutF W (x * y)) := by
  have hf : Fr W (((W.alloc (.cells #[.bool na, .slice ao la ca] 31)).alloc (.cells #[.bool nb, .slice bo lb cb] 31)).alloc (.cells #[.bool false, .slice none 0 0] 31))
      [(31, #[.bool na, .slice ao la ca]), (31, #[.bool nb, .slice bo lb cb]), (31, #[.bool false, .slice none 0 0])] :=
    (((Fr.nil W).alloc rfl _ _).alloc (by simp) _ _).alloc (by simp) _ _
  have HLEN := Lib.hid (mulI_len ha.natAbs_lt hb.natAbs_lt)
  have HA := Lib.hid (ha.keep hf.below)
  have HB := Lib.hid (hb.keep hf.below)
  have HF := Lib.hid hf
  clear ha hb hf
  go_enter Try.func20, Try.ntmps20
  go_wp2_with fail
  refine (times_any _ _ _ _ _ _ _ _ x y _ HA.out HB.out (by omega) (by omega)).mono ?_
  rintro e w1 ⟨s1, o1, l1, c1, rfl, hz1, hb1⟩
  have HF1 := Lib.hid (HF.out.later hb1)
  have HZ1 := Lib.hid hz1
  have hl1 : l1 ≤ 1000000000 := Nat.le_trans (hz1.n32.len_le HLEN.out) (by omega)
  clear hz1 hb1
  go_wp2_with fail
  refine (fitting_any _ _ _ _ (x * y) _ HZ1.out hl1).mono ?_
  rintro e w2 (⟨hfit, neg, so, sl, sc, rfl, hz, hb2⟩ | ⟨hfit, rfl, hb2⟩)
  · have HF2 := Lib.hid (HF1.out.later hb2)
    have HX := Lib.hid hfit
    have HZ := Lib.hid hz
    clear hb2 hfit hz
    have g0 : w2.cell? ⟨W.heap.size + 2, 0, none⟩ = some (.bool false) := HF2.out.cell 2 0 rfl rfl
    have g1 : w2.cell? ⟨W.heap.size + 2, 1, none⟩ = some (.slice none 0 0) := HF2.out.cell 2 1 rfl rfl
    have g2 : w2.frozen? ⟨W.heap.size + 2, 0, none⟩ = false := HF2.out.frozen 2 0 rfl
    have g3 : w2.frozen? ⟨W.heap.size + 2, 1, none⟩ = false := HF2.out.frozen 2 1 rfl
    go_wp2
    obtain ⟨e0, e1, hz, hbel, _⟩ := HF2.out.finI (cap := sc) 2 rfl HZ.out
    exact bodyPost_ret (v := .tuple #[.agg #[.bool neg, .slice so sl sc], .int .i64 0]) (by simp [results, Try.results20, go_sem, e0, e1]) rfl (.inl ⟨HX.out, neg, so, sl, sc, rfl, hz, hbel⟩)
  · have HF2 := Lib.hid (HF1.out.later hb2)
    have HX := Lib.hid hfit
    clear hb2 hfit
    have g0 : w2.cell? ⟨W.heap.size + 2, 0, none⟩ = some (.bool false) := HF2.out.cell 2 0 rfl rfl
    have g1 : w2.cell? ⟨W.heap.size + 2, 1, none⟩ = some (.slice none 0 0) := HF2.out.cell 2 1 rfl rfl
    have g2 : w2.frozen? ⟨W.heap.size + 2, 0, none⟩ = false := HF2.out.frozen 2 0 rfl
    have g3 : w2.frozen? ⟨W.heap.size + 2, 1, none⟩ = false := HF2.out.frozen 2 1 rfl
    go_wp2
    obtain ⟨e0, e1, hz, hbel, _⟩ := HF2.out.finI (cap := 0) 2 rfl (Z32.nil _)
    exact bodyPost_ret (v := .tuple #[.agg #[.bool false, .slice none 0 0], .int .i64 3]) (by simp [results, Try.results20, go_sem, e0, e1]) rfl (.inr ⟨HX.out, rfl, hbel⟩)

end Go.Proofs.Ytbihgllfllkkaaa

/- fittingRat, Rat.Sign. -/
set_option linter.unusedVariables false
namespace Go.Proofs.Ytbihgllfllkkaaa
open Go.RowKit

/-- the fraction p / q fits -/
def FitsQ (p : Int) (q : Nat) : Prop := Fits p ∧ blen q ≤ 16384

def OutFQ (W : World) (p : Int) (q : Nat) (e : Ending) (w' : World) : Prop :=
  (FitsQ p q ∧ OutQE W p q e w') ∨ (¬ FitsQ p q ∧ e = .returned (.tuple #[.agg #[.bool false, .slice none 0 0, .slice none 0 0], .int .i64 3]) ∧ Below W.heap.size W w')

theorem Q32.den {W : World} {na : Bool} {ao bo : Option Addr} {la lb : Nat} {p : Int} {q : Nat} (h : Q32 W na ao la bo lb p q) : ∃ d, N32 W bo lb d ∧ (blen d ≤ 16384 ↔ blen q ≤ 16384) := by
  rcases h.2 with ⟨h1, h2⟩ | ⟨h1, h2⟩
  · refine ⟨0, by rw [h1]; exact N32.nil _ _, ?_⟩
    have h3 : blen 0 ≤ 16384 := by rw [blen_zero]; omega
    have h4 : blen q ≤ 16384 := by
      rw [h2]
      have : blen 1 ≤ 1 := blen_le.2 (by decide)
      omega
    exact ⟨fun _ => h4, fun _ => h3⟩
  · exact ⟨q, h1, Iff.rfl⟩

set_option maxHeartbeats 1000000 in
theorem fittingRat_any (na : Bool) (ao bo : Option Addr) (la lb ca cb : Nat) (p : Int) (q : Nat) (W : World) (h : Q32 W na ao la bo lb p q) (hla : la ≤ 1000000000) (hlb : lb ≤ 1000000000) :
    Calls Try.prog 57 #[.agg #[.bool na, .slice ao la ca, .slice bo lb cb]] W (OutFQ W p q) := by
  have hf : Fr W ((W.alloc (.cells #[.bool na, .slice ao la ca, .slice bo lb cb] 52)).alloc (.cells #[.bool false, .slice none 0 0, .slice none 0 0] 52))
      [(52, #[.bool na, .slice ao la ca, .slice bo lb cb]), (52, #[.bool false, .slice none 0 0, .slice none 0 0])] := ((Fr.nil W).alloc rfl _ _).alloc (by simp) _ _
  obtain ⟨d, hd, hdq⟩ := h.den
  have HQ := Lib.hid h
  have HD := Lib.hid hd
  have HDQ := Lib.hid hdq
  clear h hd hdq
  go_enter Try.func57, Try.ntmps57
  go_wp2_with fail
  obtain ⟨W3, hW3⟩ : ∃ W3, W3 = (W.alloc (.cells #[.bool na, .slice ao la ca, .slice bo lb cb] 52)).alloc (.cells #[.bool false, .slice none 0 0, .slice none 0 0] 52) := ⟨_, rfl⟩
  rw [← hW3] at hf ⊢
  clear hW3
  have HF := Lib.hid hf
  clear hf
  refine (bitLen_any _ _ _ _ p _ (HQ.out.1.keep HF.out.below) hla).mono ?_
  rintro e w1 ⟨rfl, hb1⟩
  have HF1 := Lib.hid (HF.out.later hb1)
  clear hb1
  have c2 : w1.cell? ⟨W.heap.size, 2, none⟩ = some (.slice bo lb cb) := HF1.out.cell 0 2 rfl rfl
  have g0 : w1.cell? ⟨W.heap.size + 1, 0, none⟩ = some (.bool false) := HF1.out.cell 1 0 rfl rfl
  have g1 : w1.cell? ⟨W.heap.size + 1, 1, none⟩ = some (.slice none 0 0) := HF1.out.cell 1 1 rfl rfl
  have g2 : w1.cell? ⟨W.heap.size + 1, 2, none⟩ = some (.slice none 0 0) := HF1.out.cell 1 2 rfl rfl
  have g3 : w1.frozen? ⟨W.heap.size + 1, 0, none⟩ = false := HF1.out.frozen 1 0 rfl
  have g4 : w1.frozen? ⟨W.heap.size + 1, 1, none⟩ = false := HF1.out.frozen 1 1 rfl
  have g5 : w1.frozen? ⟨W.heap.size + 1, 2, none⟩ = false := HF1.out.frozen 1 2 rfl
  by_cases h1 : blen p.natAbs ≤ 16384
  · have t1 : ¬ (16384 : Int) < (blen p.natAbs : Int) := by omega
    have H1 := Lib.hid h1
    clear h1 g0 g1 g2 g3 g4 g5
    go_wp2_with fail
    refine (bitLength_any _ _ _ d _ (HD.out.keep HF1.out.below) hlb).mono ?_
    rintro e w2 ⟨rfl, hw⟩
    obtain rfl : w1 = w2 := hw
    have a0 : w1.cell? ⟨W.heap.size, 0, none⟩ = some (.bool na) := HF1.out.cell 0 0 rfl rfl
    have a1 : w1.cell? ⟨W.heap.size, 1, none⟩ = some (.slice ao la ca) := HF1.out.cell 0 1 rfl rfl
    have g0 : w1.cell? ⟨W.heap.size + 1, 0, none⟩ = some (.bool false) := HF1.out.cell 1 0 rfl rfl
    have g1 : w1.cell? ⟨W.heap.size + 1, 1, none⟩ = some (.slice none 0 0) := HF1.out.cell 1 1 rfl rfl
    have g2 : w1.cell? ⟨W.heap.size + 1, 2, none⟩ = some (.slice none 0 0) := HF1.out.cell 1 2 rfl rfl
    have g3 : w1.frozen? ⟨W.heap.size + 1, 0, none⟩ = false := HF1.out.frozen 1 0 rfl
    have g4 : w1.frozen? ⟨W.heap.size + 1, 1, none⟩ = false := HF1.out.frozen 1 1 rfl
    have g5 : w1.frozen? ⟨W.heap.size + 1, 2, none⟩ = false := HF1.out.frozen 1 2 rfl
    by_cases h2 : blen d ≤ 16384
    · have t2 : ¬ (16384 : Int) < (blen d : Int) := by omega
      have H2 := Lib.hid h2
      clear h2
      go_wp2
      obtain ⟨e0, e1, e2, hq, hbel⟩ := HF1.out.finQ (cap := ca) (bc := cb) 1 rfl (HQ.out.keep HF1.out.below)
      exact bodyPost_ret (v := .tuple #[.agg #[.bool na, .slice ao la ca, .slice bo lb cb], .int .i64 0]) (by simp [results, Try.results57, go_sem, e0, e1, e2]) rfl (.inl ⟨⟨H1.out, HDQ.out.1 H2.out⟩, na, ao, la, ca, bo, lb, cb, rfl, hq, hbel⟩)
    · have t2 : (16384 : Int) < (blen d : Int) := by omega
      have H2 := Lib.hid h2
      clear h2
      go_wp2
      obtain ⟨e0, e1, e2, hq, hbel⟩ := HF1.out.finQ (cap := 0) (bc := 0) (neg := false) (ao := none) (len := 0) (bo := none) (bl := 0) (p := 0) (q := 1) 1 rfl ⟨Z32.nil _, .inl ⟨rfl, rfl⟩⟩
      exact bodyPost_ret (v := .tuple #[.agg #[.bool false, .slice none 0 0, .slice none 0 0], .int .i64 3]) (by simp [results, Try.results57, go_sem, e0, e1, e2]) rfl (.inr ⟨fun h => H2.out (HDQ.out.2 h.2), rfl, hbel⟩)
  · have t1 : (16384 : Int) < (blen p.natAbs : Int) := by omega
    have H1 := Lib.hid h1
    clear h1
    go_wp2
    obtain ⟨e0, e1, e2, hq, hbel⟩ := HF1.out.finQ (cap := 0) (bc := 0) (neg := false) (ao := none) (len := 0) (bo := none) (bl := 0) (p := 0) (q := 1) 1 rfl ⟨Z32.nil _, .inl ⟨rfl, rfl⟩⟩
    exact bodyPost_ret (v := .tuple #[.agg #[.bool false, .slice none 0 0, .slice none 0 0], .int .i64 3]) (by simp [results, Try.results57, go_sem, e0, e1, e2]) rfl (.inr ⟨fun h => H1.out h.1, rfl, hbel⟩)

theorem ratSign_any (na : Bool) (ao bo : Option Addr) (la lb ca cb : Nat) (p : Int) (q : Nat) (W : World) (h : Q32 W na ao la bo lb p q) :
    Calls Try.prog 26 #[.agg #[.bool na, .slice ao la ca, .slice bo lb cb]] W (fun e w' => e = .returned (.int .i64 p.sign) ∧ Below W.heap.size W w') := by
  have hf : Fr W (W.alloc (.cells #[.bool na, .slice ao la ca, .slice bo lb cb] 52)) [(52, #[.bool na, .slice ao la ca, .slice bo lb cb])] := (Fr.nil W).alloc rfl _ _
  have HQ := Lib.hid h
  have HF := Lib.hid hf
  clear h hf
  go_enter Try.func26, Try.ntmps26
  go_wp2_with fail
  refine (sign_any _ _ _ _ p _ (HQ.out.1.keep HF.out.below)).mono ?_
  rintro e w1 ⟨rfl, hb1⟩
  have HB1 := Lib.hid (below_then HF.out.below hb1)
  clear hb1
  go_wp2
  go_ret
  exact ⟨rfl, HB1.out⟩
end Go.Proofs.Ytbihgllfllkkaaa

/- shiftLeft, shiftRight. -/
set_option linter.unusedVariables false
namespace Go.Proofs.Ytbihgllfllkkaaa
open Go.RowKit

theorem u64_wrap_nat (t : Nat) (h : t < 18446744073709551616) : IntKind.u64.wrap (t : Int) = (t : Int) := by
  simp [IntKind.wrap, IntKind.bits, IntKind.signed]
  omega

theorem pow_le32 {s : Nat} (hs : s < 32) : 2 ^ s ≤ 2147483648 := by
  have := Nat.pow_le_pow_right (n := 2) (by decide) (by omega : s ≤ 31)
  exact this

theorem shl_or (c x s : Nat) (hc : c < 2 ^ s) (hx : x < 4294967296) (hs : s < 32) :
    bits BinOp.or IntKind.u64 (c : Int) (IntKind.u64.wrap ((x : Int) * 2 ^ s)) = ((c + x * 2 ^ s : Nat) : Int) := by
  have h1 := pow_le32 hs
  have h2 : x * 2 ^ s ≤ 4294967295 * 2147483648 := Nat.mul_le_mul (by omega) h1
  have e : (x : Int) * 2 ^ s = ((x * 2 ^ s : Nat) : Int) := by push_cast; rfl
  rw [e, u64_wrap_nat _ (by omega)]
  have e2 : ((x * 2 ^ s : Nat) : Int) = (x : Int) * ((2 ^ s : Nat) : Int) := by push_cast; rfl
  rw [e2]
  exact or_shift c x s (2 ^ s) hc rfl (by omega) (by omega)

theorem shl_step {zs xs : List Nat} {c i x s : Nat} (hi : i < zs.length) (h0 : zs[i]?.getD 0 = 0) (hx : x = xs[i]?.getD 0) (hv : val B32 zs + c * B32 ^ i = val B32 (xs.take i) * 2 ^ s) :
    val B32 (zs.set i ((c + x * 2 ^ s) % B32)) + (c + x * 2 ^ s) / B32 * B32 ^ (i + 1) = val B32 (xs.take (i + 1)) * 2 ^ s := by
  have h1 := val_set B32 zs i ((c + x * 2 ^ s) % B32) hi
  have h2 := Nat.mod_add_div (c + x * 2 ^ s) B32
  rw [h0] at h1
  rw [val_take_succ, ← hx, Nat.pow_succ]
  generalize (c + x * 2 ^ s) % B32 = d at *
  generalize (c + x * 2 ^ s) / B32 = q at *
  generalize val B32 (zs.set i d) = v at *
  generalize B32 ^ i = p at *
  generalize 2 ^ s = m at *
  grind

def ShlRel (la s : Nat) (xs : List Nat) (W : World) (cv iv : Value) (wr : World) : Prop :=
  ∃ (c i : Nat) (zs : List Nat), cv = .int .u64 (c : Int) ∧ iv = .int .i64 (i : Int) ∧ Blk .u32 wr W.heap.size 68 zs ∧ zs.length = la + 1 ∧ Dig B32 zs ∧ i ≤ la ∧ c < 2 ^ s ∧
    val B32 zs + c * B32 ^ i = val B32 (xs.take i) * 2 ^ s ∧ (∀ j, i ≤ j → zs[j]?.getD 0 = 0) ∧ Below W.heap.size W wr

def ShlPost (la s n : Nat) (W : World) (e : Ending) (w' : World) : Prop :=
  e = .returned (.slice (some ⟨W.heap.size, 0, none⟩) (la + 1) (la + 1)) ∧ ∃ zs, Blk .u32 w' W.heap.size 68 zs ∧ zs.length = la + 1 ∧ Dig B32 zs ∧ val B32 zs = n * 2 ^ s ∧ Below W.heap.size W w'

set_option maxHeartbeats 1000000 in
theorem shiftLeft_any (ao : Option Addr) (la ca n s : Nat) (S : Int) (W : World) (h : N32 W ao la n) (hS : S = (s : Int)) (hs : s < 32) (hla : la ≤ 1000000000) :
    Calls Try.prog 93 #[.slice ao la ca, .int .i64 S] W (ShlPost la s n W) := by
  subst hS
  obtain ⟨xs, ⟨hx, b, off, hao, hc⟩, hd, ht, hv⟩ := h
  have HX := Lib.hid hx
  have HAO := Lib.hid hao
  have HC := Lib.hid hc
  have HD := Lib.hid hd
  have HV := Lib.hid hv
  have HG := Lib.hid (Nat.le_refl W.heap.size)
  clear hx hao hc hd ht hv
  go_enter Try.func93, Try.ntmps93
  go_wp2_with (at_make; refine wpList_mk rfl _ 29 rfl 68 .u32 4 Try.underlying29 (by kernel_rfl) _ (la + 1) rfl (by omega) (by omega) (by omega) ?_; intro w1 hB1 hb1 hz1)
  go_loopw [6, 15] (fun cv iv wr => ShlRel la s xs W cv iv wr) (fun cv iv _ => la - (intOf iv).toNat)
  case atStart =>
    refine ⟨0, 0, _, rfl, rfl, hB1, by simp, Dig.replicate B32_pos _, by omega, Nat.pow_pos (by decide), ?_, ?_, hb1⟩
    · rw [val_replicate]; simp [val]
    · intro j hj; rw [List.getElem?_replicate]; split <;> rfl
  case round =>
    obtain ⟨c, i, zs, rfl, rfl, hB, hzl, hdz, hi, hc, hv, h0, hbel⟩ := hrel
    have HZ := Lib.hid hB
    have HL := Lib.hid hzl
    have HDZ := Lib.hid hdz
    have HVV := Lib.hid hv
    have H0 := Lib.hid h0
    have HW := Lib.hid hbel
    have HCC := Lib.hid hc
    have hc32 : c < 4294967296 := Nat.lt_of_lt_of_le hc (Nat.pow_le_pow_right (by decide) (by omega : s ≤ 32))
    clear hB hzl hdz hv h0 hbel hc
    by_cases hil : i < la
    · obtain rfl := HAO.out (by omega)
      have ca1 := cell_later HW.out (HC.out i hil)
      have hx := HD.out.get B32_pos i
      obtain ⟨x, hxe⟩ : ∃ x, x = xs[i]?.getD 0 := ⟨_, rfl⟩
      rw [← hxe] at ca1 hx
      rw [B32_eq] at hx
      have HXE := Lib.hid hxe
      clear hxe
      have b1 : (i : Int) < (la : Int) := by omega
      have b0 : (0 : Int) ≤ (i : Int) := by omega
      have b2 : (i : Int) < (la : Int) + 1 := by omega
      have s0 : (0 : Int) ≤ (s : Int) := by omega
      have s1 : (s : Int) < 32 := by omega
      have cz1 := HZ.out.cell i (by rw [HL.out]; omega)
      have fz1 := HZ.out.frozen i
      go_wp2
      refine ⟨?_, by simp [intOf]; omega⟩
      rw [shl_or c x s HCC.out hx hs]
      have hm := pow_le32 hs
      have hcs := HCC.out
      have h00 := H0.out i (Nat.le_refl _)
      refine ⟨(c + x * 2 ^ s) / B32, i + 1, zs.set i ((c + x * 2 ^ s) % B32), ?_, by go_num, HZ.out.set _ _ _ ?_, by simpa using HL.out, HDZ.out.set _ (Nat.mod_lt _ B32_pos), by omega, ?_, shl_step (by rw [HL.out]; omega) h00 HXE.out HVV.out, ?_, HW.out.setCell (Nat.le_refl _) _⟩
      · exact congrArg (Value.int _) (Int.natCast_ediv _ _).symm
      · exact (Int.natCast_emod _ _).symm
      · rw [B32_eq, Nat.div_lt_iff_lt_mul (by decide)]
        have : x * 2 ^ s ≤ 4294967295 * 2 ^ s := Nat.mul_le_mul_right _ (by omega)
        omega
      · intro j hj
        rw [List.getElem?_set_ne (by omega)]
        exact H0.out j (by omega)
    · obtain rfl : i = la := by omega
      have cz1 := HZ.out.cell i (by rw [HL.out]; omega)
      have fz1 := HZ.out.frozen i
      go_wp2
      go_ret
      have hv := HVV.out
      have h00 := H0.out i (Nat.le_refl _)
      rw [List.take_of_length_le (by rw [HX.out]; exact Nat.le_refl _), HV.out] at hv
      refine ⟨rfl, zs.set i c, HZ.out.set _ _ _ rfl, by simpa using HL.out, HDZ.out.set _ (by rw [B32_eq]; exact hc32), ?_, HW.out.setCell (Nat.le_refl _) _⟩
      have h1 := val_set B32 zs i c (by rw [HL.out]; omega)
      rw [h00, Nat.mul_zero, Nat.add_zero, Nat.mul_comm (B32 ^ i) c] at h1
      rw [h1]
      exact hv

theorem shr_cast (t s : Nat) : ((t : Int) / 2 ^ s % 4294967296) = ((t / 2 ^ s % 4294967296 : Nat) : Int) := by
  rw [Int.natCast_emod, Int.natCast_ediv, Int.natCast_pow]
  rfl

theorem shr_digit {B m k x y r : Nat} (hm : 0 < m) (hB : m * k = B) : (x + B * (y + B * r)) / m % B = (x + B * y) / m % B := by
  have e : x + B * (y + B * r) = (x + B * y) + m * (B * (k * r)) := by
    rw [← hB]; grind
  rw [e, Nat.add_mul_div_left _ _ hm, Nat.add_mul_mod_self_left]

theorem val_drop_div (xs : List Nat) (hd : Dig B32 xs) (i : Nat) (hi : i ≤ xs.length) : val B32 xs / B32 ^ i = val B32 (xs.drop i) := by
  rw [val_split B32 xs i hi, Nat.add_mul_div_left _ _ (Nat.pow_pos B32_pos), Nat.div_eq_of_lt, Nat.zero_add]
  have := val_lt B32_pos (hd.take i)
  rwa [List.length_take, Nat.min_eq_left hi] at this

theorem shr_step {xs zs : List Nat} {i m k : Nat} (hd : Dig B32 xs) (hi : i < xs.length) (hm : 0 < m) (hB : m * k = B32) (hz : zs.length = xs.length) (hv : val B32 (zs.take i) = val B32 xs / m % B32 ^ i) :
    val B32 ((zs.set i ((xs[i]?.getD 0 + B32 * (xs[i + 1]?.getD 0)) / m % B32)).take (i + 1)) = val B32 xs / m % B32 ^ (i + 1) := by
  rw [val_take_succ, List.take_set_of_le (Nat.le_refl _), hv, Nat.mod_pow_succ]
  congr 2
  rw [List.getElem?_set_self (by omega)]
  simp only [Option.getD_some]
  rw [Nat.div_div_eq_div_mul, Nat.mul_comm m, ← Nat.div_div_eq_div_mul, val_drop_div xs hd i (by omega), drop_eq_cons xs i hi, val_cons]
  by_cases h1 : i + 1 < xs.length
  · rw [drop_eq_cons xs (i + 1) h1, val_cons]
    exact (shr_digit hm hB).symm
  · rw [List.drop_of_length_le (by omega), List.getElem?_eq_none (l := xs) (i := i + 1) (by omega)]; rfl

def ShrRel (g e la s : Nat) (xs post : List Nat) (W : World) (iv : Value) (wr : World) : Prop :=
  ∃ (i : Nat) (zs : List Nat), iv = .int .i64 (i : Int) ∧ Blk .u32 wr g e (zs ++ post) ∧ zs.length = la ∧ Dig B32 zs ∧ i ≤ la ∧ val B32 (zs.take i) = val B32 xs / 2 ^ s % B32 ^ i ∧ zs.drop i = xs.drop i ∧ W.grownBy wr (some g) ∧ wr.heap.size = W.heap.size

def ShrPost (g e la s v : Nat) (post : List Nat) (W : World) (en : Ending) (w' : World) : Prop :=
  ∃ ao n, en = .returned (.slice ao n n) ∧ N32 w' ao n (v / 2 ^ s) ∧ W.grownBy w' (some g) ∧ w'.heap.size = W.heap.size

set_option maxHeartbeats 1000000 in
theorem shiftRight_any (g e la ca s : Nat) (xs post : List Nat) (S : Int) (W : World) (hB : Blk .u32 W g e (xs ++ post)) (hl : xs.length = la) (hd : Dig B32 xs) (hS : S = (s : Int)) (hs : s < 32) (hla : la ≤ 2000000000) (hlc : la ≤ ca) (hcm : ca ≤ 9223372036854775807) :
    Calls Try.prog 95 #[.slice (some ⟨g, 0, none⟩) la ca, .int .i64 S] W (ShrPost g e la s (val B32 xs) post W) := by
  subst hS
  have HB := Lib.hid hB
  have HL0 := Lib.hid hl
  have HD := Lib.hid hd
  clear hB hl hd
  go_enter Try.func95, Try.ntmps95
  go_wp2
  go_loopw [9] (fun iv wr => ShrRel g e la s xs post W iv wr) (fun iv _ => la - (intOf iv).toNat)
  case atStart => exact ⟨0, xs, rfl, HB.out, HL0.out, HD.out, by omega, by simp [val]; omega, rfl, World.grownBy.refl _ _, rfl⟩
  case round =>
    obtain ⟨i, zs, rfl, hB, hzl, hdz, hi, hv, hdr, hbel, hz⟩ := hrel
    have HZ := Lib.hid hB
    have HL := Lib.hid hzl
    have HDZ := Lib.hid hdz
    have HV := Lib.hid hv
    have HDR := Lib.hid hdr
    have HW := Lib.hid hbel
    have HHZ := Lib.hid hz
    clear hB hzl hdz hv hdr hbel hz
    by_cases hil : i < la
    · have hzi : ∀ j, i ≤ j → zs[j]?.getD 0 = xs[j]?.getD 0 := by
        intro j hj
        have := congrArg (fun l => l[j - i]?.getD 0) HDR.out
        simp only [List.getElem?_drop] at this
        rwa [show i + (j - i) = j by omega] at this
      have cz1 := HZ.out.cell i (by have := HL.out; simp; omega)
      have fz1 := HZ.out.frozen i
      rw [List.getElem?_append_left (by rw [HL.out]; exact hil), hzi i (Nat.le_refl _)] at cz1
      have hx := HD.out.get B32_pos i
      have hy := HD.out.get B32_pos (i + 1)
      obtain ⟨x, hxe⟩ : ∃ x, x = xs[i]?.getD 0 := ⟨_, rfl⟩
      obtain ⟨y, hye⟩ : ∃ x, x = xs[i + 1]?.getD 0 := ⟨_, rfl⟩
      rw [← hxe] at cz1 hx
      rw [← hye] at hy
      rw [B32_eq] at hx hy
      have HXE := Lib.hid hxe
      have HYE := Lib.hid hye
      have HYZ : Hid (y = zs[i + 1]?.getD 0) := by show _ = _; rw [hzi (i + 1) (by omega)]; exact hye
      have hsl : Sl .u32 wr (some ⟨g, 0, none⟩) la zs := by
        have := HZ.out.sl0 la (by have := HL.out; simp; omega)
        rwa [List.take_left' HL.out] at this
      have HSL := Lib.hid hsl
      clear hzi hxe hye hsl
      have b0 : (0 : Int) ≤ (i : Int) := by omega
      have b1 : (i : Int) < (la : Int) := by omega
      have s0 : (0 : Int) ≤ (s : Int) := by omega
      have s1 : (s : Int) < 32 := by omega
      go_wp2_with fail
      go_quiet ((go_at_call 68; exact digit_quiet _ _ _ zs _ (i + 1) y _ _ HSL.out (by omega) HYZ.out))
      go_wp2
      refine ⟨?_, by simp [intOf]; omega⟩
      have ho : bits BinOp.or IntKind.u64 (x : Int) ((y : Int) * 4294967296) = ((x + y * 4294967296 : Nat) : Int) := or_shift x y 32 4294967296 (by omega) (by decide) (by omega) (by omega)
      rw [ho]
      have hm := pow_le32 hs
      have hxl : i < xs.length := by rw [HL0.out]; exact hil
      refine ⟨i + 1, zs.set i ((x + y * 4294967296) / 2 ^ s % 4294967296), by go_num, ?_, by simpa using HL.out, HDZ.out.set _ (Nat.mod_lt _ (by decide)), by omega, ?_, ?_, grownBy_set HW.out _ _ _, by simpa using HHZ.out⟩
      · have h := (HZ.out.drewN nq).set i ((x + y * 4294967296) / 2 ^ s % 4294967296) _ (shr_cast (x + y * 4294967296) s)
        rwa [List.set_append_left (h := by rw [HL.out]; exact hil)] at h
      · have hk : 2 ^ s * 2 ^ (32 - s) = B32 := by rw [← Nat.pow_add, show s + (32 - s) = 32 by omega]; rfl
        have h := shr_step (zs := zs) HD.out hxl (Nat.pow_pos (by decide)) hk (by rw [HL.out, HL0.out]) HV.out
        rw [← HXE.out, ← HYE.out, B32_eq, Nat.mul_comm 4294967296 y] at h
        rw [B32_eq]
        exact h
      · rw [List.drop_set_of_lt (by omega)]
        have := congrArg (List.drop 1) HDR.out
        rwa [List.drop_drop, List.drop_drop] at this
    · obtain rfl : i = la := by omega
      have HSL := Lib.hid (HZ.out.sl0 i (by have := HL.out; simp; omega))
      go_wp2_with fail
      refine (trim_raw _ _ _ _ _ HSL.out hlc hcm).mono ?_
      rintro e w3 ⟨⟨ao', m, rfl, hm, ha', hz', ht, hzz⟩, rfl⟩
      have HT := Lib.hid ht
      have HZZ := Lib.hid hzz
      have HAA := Lib.hid ha'
      clear ht hzz ha' hz'
      go_wp2
      go_ret
      have e1 : (zs ++ post).take i = zs := List.take_left' HL.out
      have hsl := HSL.out
      have ht := HT.out
      have hzz := HZZ.out
      rw [e1] at hsl ht hzz
      refine ⟨ao', m, rfl, ⟨_, trim_sl hsl hm HAA.out, HDZ.out.take _, ht, ?_⟩, HW.out, HHZ.out⟩
      have hv := HV.out
      rw [List.take_of_length_le (by rw [HL.out]; exact Nat.le_refl _)] at hv
      rw [val_take_of_zeros hzz, hv, Nat.mod_eq_of_lt]
      have := val_lt B32_pos HD.out
      rw [HL0.out] at this
      exact Nat.lt_of_le_of_lt (Nat.div_le_self _ _) this
end Go.Proofs.Ytbihgllfllkkaaa

/- Plain facts for the long division. No program. -/
set_option linter.unusedVariables false
namespace Go.Proofs.Ytbihgllfllkkaaa

/-- the estimate is not too great, and fits into a digit -/
theorem est_le {B n P D lp ld high dt : Nat} (hB : 0 < B) (hP : P = lp + B ^ n * high) (hlp : lp < B ^ n) (hD : D = ld + B ^ n * dt) (hld : ld < B ^ n) (hlt : P < D * B) :
    high / (dt + 1) * D ≤ P ∧ high / (dt + 1) < B := by
  have h1 : D ≤ B ^ n * (dt + 1) := by rw [Nat.mul_add]; omega
  have h2 : high / (dt + 1) * (dt + 1) ≤ high := Nat.div_mul_le_self _ _
  constructor
  · have h3 : high / (dt + 1) * D ≤ high / (dt + 1) * (B ^ n * (dt + 1)) := Nat.mul_le_mul_left _ h1
    have h4 : high / (dt + 1) * (B ^ n * (dt + 1)) = B ^ n * (high / (dt + 1) * (dt + 1)) := by
      rw [Nat.mul_left_comm]
    have h5 : B ^ n * (high / (dt + 1) * (dt + 1)) ≤ B ^ n * high := Nat.mul_le_mul_left _ h2
    omega
  · have h3 : B ^ n * high < B ^ n * ((dt + 1) * B) := by
      have : D * B ≤ B ^ n * (dt + 1) * B := Nat.mul_le_mul_right _ h1
      rw [Nat.mul_assoc] at this
      omega
    have h4 := Nat.lt_of_mul_lt_mul_left h3
    rw [Nat.div_lt_iff_lt_mul (by omega)]
    rw [Nat.mul_comm]
    exact h4

/-- the rest behind the digits that count -/
theorem post_zero {B a m : Nat} {pre seg post : List Nat} (hB : 0 < B) (ha : pre.length = a) (hm : seg.length = m) (h : val B (pre ++ seg ++ post) < B ^ (a + m)) : val B post = 0 := by
  rw [val_append, List.length_append, ha, hm] at h
  rcases Nat.eq_zero_or_pos (val B post) with h0 | h0
  · exact h0
  · have : B ^ (a + m) * 1 ≤ B ^ (a + m) * val B post := Nat.mul_le_mul_left _ h0
    omega

theorem three_val {B : Nat} (pre seg post : List Nat) (hp : val B post = 0) : val B (pre ++ seg ++ post) = val B pre + B ^ pre.length * val B seg := by
  rw [val_append, val_append, hp]; simp

/-- one subtraction of the long division -/
theorem div_sub {B N D a q t R R' S S' p Q Q' : Nat} (hR : R = p + B ^ a * S) (hR' : R' = p + B ^ a * S') (hS : S' + t * D = S) (hQ' : Q' = Q + B ^ a * t) (hN : Q * D + R = N) (hlt : q * D * B ^ a + R < D * B ^ (a + 1)) :
    Q' * D + R' = N ∧ (q + t) * D * B ^ a + R' < D * B ^ (a + 1) ∧ R' + B ^ a * (t * D) = R ∧ q + t < B := by
  have e1 : B ^ a * S = B ^ a * S' + B ^ a * (t * D) := by rw [← hS, Nat.mul_add]
  have e2 : R' + B ^ a * (t * D) = R := by omega
  have e3 : Q' * D = Q * D + B ^ a * (t * D) := by rw [hQ', Nat.add_mul, Nat.mul_assoc]
  have e4 : (q + t) * D * B ^ a = q * D * B ^ a + B ^ a * (t * D) := by
    rw [Nat.add_mul, Nat.add_mul, Nat.mul_comm (t * D)]
  refine ⟨by omega, by omega, e2, ?_⟩
  have h1 : (q + t) * D * B ^ a < D * B ^ (a + 1) := by omega
  have h2 : (q + t) * (D * B ^ a) < B * (D * B ^ a) := by
    rw [← Nat.mul_assoc]
    have : D * B ^ (a + 1) = B * (D * B ^ a) := by rw [Nat.pow_succ, ← Nat.mul_assoc, Nat.mul_comm]
    omega
  exact Nat.lt_of_mul_lt_mul_right h2

/-- one step down -/
theorem div_down {B D a R p S : Nat} (hR : R = p + B ^ (a + 1) * S) (hp : p < B ^ (a + 1)) (hS : S < D) : R < D * B ^ (a + 1) := by
  have : B ^ (a + 1) * (S + 1) ≤ B ^ (a + 1) * D := Nat.mul_le_mul_left _ hS
  rw [Nat.mul_comm D]
  rw [Nat.mul_add] at this
  omega

theorem div_start {B A b la lb s : Nat} (hs : 0 < s) (hA : A < B ^ la) (hb : B ^ (lb - 1) ≤ b) (hl : lb ≤ la) (h0 : 0 < lb) : A * s < b * s * B ^ (la - lb + 1) := by
  have h1 : B ^ la = B ^ (lb - 1) * B ^ (la - lb + 1) := by rw [← Nat.pow_add]; congr 1; omega
  have h2 : B ^ (lb - 1) * B ^ (la - lb + 1) ≤ b * B ^ (la - lb + 1) := Nat.mul_le_mul_right _ hb
  have h3 : A < b * B ^ (la - lb + 1) := by omega
  have h4 := Nat.mul_lt_mul_of_pos_right h3 hs
  have e : b * B ^ (la - lb + 1) * s = b * s * B ^ (la - lb + 1) := by rw [Nat.mul_right_comm]
  omega

theorem div_end {A b s Q R : Nat} (hs : 0 < s) (hb : 0 < b) (h : Q * (b * s) + R = A * s) (hR : R < b * s) : Q = A / b ∧ R / s = A % b := by
  have hA := Nat.div_add_mod A b
  have hm := Nat.mod_lt A hb
  have h1 : (A / b) * (b * s) + (A % b) * s = A * s := by
    rw [← Nat.mul_assoc, ← Nat.add_mul, Nat.mul_comm (A / b) b, hA]
  have h2 : (A % b) * s < b * s := Nat.mul_lt_mul_of_pos_right hm hs
  have hbs : 0 < b * s := Nat.mul_pos hb hs
  have hq : Q = A / b := by
    have e1 : (A * s) / (b * s) = Q := by
      rw [← h, Nat.mul_comm Q, Nat.mul_add_div hbs, Nat.div_eq_of_lt hR, Nat.add_zero]
    have e2 : (A * s) / (b * s) = A / b := Nat.mul_div_mul_right _ _ hs
    omega
  refine ⟨hq, ?_⟩
  subst hq
  have : R = (A % b) * s := by omega
  rw [this, Nat.mul_div_cancel _ hs]

end Go.Proofs.Ytbihgllfllkkaaa

/- estimate. -/
set_option linter.unusedVariables false
namespace Go.Proofs.Ytbihgllfllkkaaa
open Go.RowKit

def EstPost (t : Nat) (W : World) (e : Ending) (w' : World) : Prop := e = .returned (.int .u32 (t : Int)) ∧ ∃ m, w' = W.drewN m

set_option maxHeartbeats 1000000 in
theorem estimate_raw (po bo : Option Addr) (lp lb n pc bc : Nat) (seg ds : List Nat) (W : World) (hlp : lp = lb + 1) (hlb : lb = n + 1) (hp : Sl .u32 W po lp seg) (hdp : Dig B32 seg) (hb : Sl .u32 W bo lb ds) (hdb : Dig B32 ds) (hn : n ≤ 1000000000)
    (t : Nat) (ht : t = (seg[lb]?.getD 0 * B32 + seg[n]?.getD 0) / (ds[n]?.getD 0 + 1)) (htb : t < B32) :
    Calls Try.prog 94 #[.slice po lp pc, .slice bo lb bc] W (EstPost (max t 1) W) := by
  obtain ⟨hpl, pb, pf, hpo, hpc⟩ := hp
  obtain ⟨hbl, bb, bf, hbo, hbc⟩ := hb
  obtain rfl := hpo (by omega)
  obtain rfl := hbo (by omega)
  have c1 := hpc lb (by omega)
  have c2 := hpc n (by omega)
  have c3 := hbc n (by omega)
  have hx := hdp.get B32_pos lb
  have hy := hdp.get B32_pos n
  have hz := hdb.get B32_pos n
  obtain ⟨x, hxe⟩ : ∃ x, x = seg[lb]?.getD 0 := ⟨_, rfl⟩
  obtain ⟨y, hye⟩ : ∃ x, x = seg[n]?.getD 0 := ⟨_, rfl⟩
  obtain ⟨z, hze⟩ : ∃ x, x = ds[n]?.getD 0 := ⟨_, rfl⟩
  rw [← hxe] at c1 hx ht
  rw [← hye] at c2 hy ht
  rw [← hze] at c3 hz ht
  rw [B32_eq] at hx hy hz htb ht
  have HT := Lib.hid ht
  have HLB := Lib.hid hlb
  have b0 : (0 : Int) ≤ (lb : Int) := by omega
  have b1 : (1 : Int) ≤ (lb : Int) := by omega
  have b2 : (lb : Int) < (lp : Int) := by omega
  have b3 : (lb : Int) - 1 < (lp : Int) := by omega
  have b4 : (lb : Int) ≤ 2000000000 := by omega
  have b5 : (lb : Int) - 1 < (lb : Int) := by omega
  have b6 : (0 : Int) ≤ (lb : Int) - 1 := by omega
  have q1 : ((lb : Int) - 1).toNat = n := by omega
  have q3 : IntKind.i64.wrap ((lb : Int) - 1) = (lb : Int) - 1 := IntWalk.i64_in _ (by omega)
  clear hpl hbl hpo hpc hbo hbc hdp hdb hxe hye hze ht hlp hlb
  have ho : bits BinOp.or IntKind.u64 ((x : Int) * 4294967296) (y : Int) = ((x * 4294967296 + y : Nat) : Int) := or_shift' y x 32 4294967296 (by omega) (by decide) (by omega) (by omega)
  have HO := Lib.hid ho
  clear ho
  go_enter Try.func94, Try.ntmps94
  go_wp2
  go_quiet (fail)
  go_wp2
  go_ret
  refine ⟨ret_int ?_, nq, rfl⟩
  rw [HO.out, Int.tdiv_eq_ediv_of_nonneg (Int.natCast_nonneg _)]
  have e : (((x * 4294967296 + y : Nat) : Int) / ((z : Int) + 1)) = (t : Int) := by
    rw [HT.out, Int.natCast_ediv]; rfl
  rw [e, u64_wrap_nat t (by omega)]
  omega

/-- the estimate of the division of one part -/
theorem estimate_any (po bo : Option Addr) (lp lb pc bc : Nat) (seg ds : List Nat) (W : World) (hlp : lp = lb + 1) (hl0 : 0 < lb) (hp : Sl .u32 W po lp seg) (hdp : Dig B32 seg) (hb : Sl .u32 W bo lb ds) (hdb : Dig B32 ds) (hn : lb ≤ 1000000000)
    (hge : val B32 ds ≤ val B32 seg) (hlt : val B32 seg < val B32 ds * B32) :
    Calls Try.prog 94 #[.slice po lp pc, .slice bo lb bc] W fun e w' => ∃ t : Nat, e = .returned (.int .u32 (t : Int)) ∧ 0 < t ∧ t < B32 ∧ t * val B32 ds ≤ val B32 seg ∧ ∃ m, w' = W.drewN m := by
  obtain ⟨n, rfl⟩ : ∃ n, lb = n + 1 := ⟨lb - 1, by omega⟩
  have hsl := hp.len
  have hdl := hb.len
  have hP : val B32 seg = val B32 (seg.take n) + B32 ^ n * (seg[n + 1]?.getD 0 * B32 + seg[n]?.getD 0) := by
    have h1 : seg = seg.take (n + 1 + 1) := (List.take_of_length_le (by omega)).symm
    conv => lhs; rw [h1]
    rw [val_take_succ, val_take_succ, Nat.pow_succ]
    grind
  have hD : val B32 ds = val B32 (ds.take n) + B32 ^ n * ds[n]?.getD 0 := by
    have h1 : ds = ds.take (n + 1) := (List.take_of_length_le (by omega)).symm
    conv => lhs; rw [h1]
    rw [val_take_succ]
  have h1 := val_lt B32_pos (hdp.take n)
  rw [List.length_take, Nat.min_eq_left (by omega)] at h1
  have h2 := val_lt B32_pos (hdb.take n)
  rw [List.length_take, Nat.min_eq_left (by omega)] at h2
  obtain ⟨h3, h4⟩ := est_le B32_pos hP h1 hD h2 hlt
  obtain ⟨t, ht⟩ : ∃ t, t = (seg[n + 1]?.getD 0 * B32 + seg[n]?.getD 0) / (ds[n]?.getD 0 + 1) := ⟨_, rfl⟩
  rw [← ht] at h3 h4
  refine (estimate_raw po bo lp (n + 1) n pc bc seg ds W hlp rfl hp hdp hb hdb (by omega) t ht h4).mono ?_
  rintro e w' ⟨rfl, hw⟩
  refine ⟨max t 1, rfl, by omega, ?_, ?_, hw⟩
  · have : 1 < B32 := by decide
    omega
  · rcases Nat.lt_or_ge t 1 with h | h
    · rw [Nat.max_eq_right (by omega)]; omega
    · rw [Nat.max_eq_left h]; exact h3
end Go.Proofs.Ytbihgllfllkkaaa
