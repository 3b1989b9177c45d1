/- plus. -/
import Derived.Test.YtdnnjjclklcihaaRefC
set_option linter.unusedVariables false
namespace Go.Proofs.Ytdnnjjclklcihaa
open Go.RowKit

theorem sgn_add (s : Bool) (m n : Nat) : sgn s m + sgn s n = sgn s (m + n) := by cases s <;> simp [sgn]; omega
theorem sgn_lt (s : Bool) {m n : Nat} (h : m < n) : sgn s m + sgn (!s) n = sgn (!s) (n - m) := by cases s <;> simp [sgn] <;> omega
theorem sgn_ge (s : Bool) {m n : Nat} (h : n ≤ m) : sgn s m + sgn (!s) n = sgn s (m - n) := by cases s <;> simp [sgn] <;> omega

set_option maxHeartbeats 2000000 in
theorem plus_same (s : Bool) (ao bo : Option Addr) (la lb ca cb : Nat) (m n : Nat) (W : World) (hm : N32 W ao la m) (hn : N32 W bo lb n) (hla : la ≤ 1000000000) (hlb : lb ≤ 1000000000) :
    Calls Try.prog 81 #[.agg #[.bool s, .slice ao la ca], .agg #[.bool s, .slice bo lb cb]] W (OutI W (sgn s (m + n))) := by
  have hf : Fr W (((W.alloc (.cells #[.bool s, .slice ao la ca] 24)).alloc (.cells #[.bool s, .slice bo lb cb] 24)).alloc (.cells #[.bool false, .slice none 0 0] 24))
      [(24, #[.bool s, .slice ao la ca]), (24, #[.bool s, .slice bo lb cb]), (24, #[.bool false, .slice none 0 0])] :=
    (((Fr.nil W).alloc rfl _ _).alloc (by simp) _ _).alloc (by simp) _ _
  have HM := Lib.hid (hm.keep hf.below)
  have HN := Lib.hid (hn.keep hf.below)
  clear hm hn
  go_enter Try.func81, Try.ntmps81
  go_wp2_with fail
  obtain ⟨W3, hW3⟩ : ∃ W3, W3 = ((W.alloc (.cells #[.bool s, .slice ao la ca] 24)).alloc (.cells #[.bool s, .slice bo lb cb] 24)).alloc (.cells #[.bool false, .slice none 0 0] 24) := ⟨_, rfl⟩
  rw [← hW3] at hf HM HN ⊢
  clear hW3
  have HF := Lib.hid hf
  clear hf
  have c0 : W3.cell? ⟨W.heap.size, 0, none⟩ = some (.bool s) := HF.out.cell 0 0 rfl rfl
  have c1 : W3.cell? ⟨W.heap.size, 1, none⟩ = some (.slice ao la ca) := HF.out.cell 0 1 rfl rfl
  have c2 : W3.cell? ⟨W.heap.size + 1, 0, none⟩ = some (.bool s) := HF.out.cell 1 0 rfl rfl
  have c3 : W3.cell? ⟨W.heap.size + 1, 1, none⟩ = some (.slice bo lb cb) := HF.out.cell 1 1 rfl rfl
  go_region_held3 (fun w' => w'.cell? ⟨W.heap.size, 0, none⟩ = some (.bool s) ∧ w'.cell? ⟨W.heap.size, 1, none⟩ = some (.slice ao la ca) ∧ w'.cell? ⟨W.heap.size + 1, 0, none⟩ = some (.bool s) ∧ w'.cell? ⟨W.heap.size + 1, 1, none⟩ = some (.slice bo lb cb)) (first | (go_keep; done) | ((try dsimp only); (repeat' apply And.intro) <;> (first | (go_keep; done) | (rw [cell_set2 _ _ _ _ _ _ (by omega)]; assumption))))
    (first | (go_at_call 87; refine (sum_any _ _ _ _ _ _ m n W3.drew HM.out HN.out hla hlb).mono ?_; rintro e u1 ⟨po, pl, pc, rfl, hp, hb1⟩; have HB1 := Lib.hid (below_of_drew hb1); have HP := Lib.hid hp; have HF1 := Lib.hid (HF.out.later HB1.out); clear hb1 hp; have k0 : u1.cell? ⟨W.heap.size, 0, none⟩ = some (.bool s) := HF1.out.cell 0 0 rfl rfl; have k1 : u1.cell? ⟨W.heap.size, 1, none⟩ = some (.slice ao la ca) := HF1.out.cell 0 1 rfl rfl; have k2 : u1.cell? ⟨W.heap.size + 1, 0, none⟩ = some (.bool s) := HF1.out.cell 1 0 rfl rfl; have k3 : u1.cell? ⟨W.heap.size + 1, 1, none⟩ = some (.slice bo lb cb) := HF1.out.cell 1 1 rfl rfl) | (go_at_call 62; refine (signed_any s _ _ _ (m + n) _ HP.out).mono ?_; rintro e u2 ⟨neg, so, sl, sc, rfl, hz, hb2⟩; have HF2 := Lib.hid (HF1.out.later hb2); have HZ := Lib.hid hz; clear hb2 hz; have j0 : u2.cell? ⟨W.heap.size, 0, none⟩ = some (.bool s) := HF2.out.cell 0 0 rfl rfl; have j1 : u2.cell? ⟨W.heap.size, 1, none⟩ = some (.slice ao la ca) := HF2.out.cell 0 1 rfl rfl; have j2 : u2.cell? ⟨W.heap.size + 1, 0, none⟩ = some (.bool s) := HF2.out.cell 1 0 rfl rfl; have j3 : u2.cell? ⟨W.heap.size + 1, 1, none⟩ = some (.slice bo lb cb) := HF2.out.cell 1 1 rfl rfl; have g0 : u2.cell? ⟨W.heap.size + 2, 0, none⟩ = some (.bool false) := HF2.out.cell 2 0 rfl rfl; have g1 : u2.cell? ⟨W.heap.size + 2, 1, none⟩ = some (.slice none 0 0) := HF2.out.cell 2 1 rfl rfl; have g2 : u2.frozen? ⟨W.heap.size + 2, 0, none⟩ = false := HF2.out.frozen 2 0 rfl; have g3 : u2.frozen? ⟨W.heap.size + 2, 1, none⟩ = false := HF2.out.frozen 2 1 rfl))
  go_wp2
  obtain ⟨e0, e1, hz, hbel, _⟩ := HF2.out.finI (cap := sc) 2 rfl HZ.out
  exact bodyPost_ret (v := .agg #[.bool neg, .slice so sl sc]) (by simp [results, Try.results81, go_sem, e0, e1]) rfl ⟨neg, so, sl, sc, rfl, hz, hbel⟩

set_option maxHeartbeats 2000000 in
theorem plus_lt (s : Bool) (ao bo : Option Addr) (la lb ca cb : Nat) (m n : Nat) (W : World) (hm : N32 W ao la m) (hn : N32 W bo lb n) (hla : la ≤ 1000000000) (hlb : lb ≤ 1000000000) (hlt : m < n) :
    Calls Try.prog 81 #[.agg #[.bool s, .slice ao la ca], .agg #[.bool (!s), .slice bo lb cb]] W (OutI W (sgn (!s) (n - m))) := by
  have hf : Fr W (((W.alloc (.cells #[.bool s, .slice ao la ca] 24)).alloc (.cells #[.bool (!s), .slice bo lb cb] 24)).alloc (.cells #[.bool false, .slice none 0 0] 24))
      [(24, #[.bool s, .slice ao la ca]), (24, #[.bool (!s), .slice bo lb cb]), (24, #[.bool false, .slice none 0 0])] :=
    (((Fr.nil W).alloc rfl _ _).alloc (by simp) _ _).alloc (by simp) _ _
  have HM := Lib.hid (hm.keep hf.below)
  have HN := Lib.hid (hn.keep hf.below)
  clear hm hn
  have hbb : (s == !s) = false := by cases s <;> rfl
  go_enter Try.func81, Try.ntmps81
  go_wp2_with fail
  obtain ⟨W3, hW3⟩ : ∃ W3, W3 = ((W.alloc (.cells #[.bool s, .slice ao la ca] 24)).alloc (.cells #[.bool (!s), .slice bo lb cb] 24)).alloc (.cells #[.bool false, .slice none 0 0] 24) := ⟨_, rfl⟩
  rw [← hW3] at hf HM HN ⊢
  clear hW3
  have HF0 := Lib.hid hf
  clear hf
  have c0 : W3.cell? ⟨W.heap.size, 0, none⟩ = some (.bool s) := HF0.out.cell 0 0 rfl rfl
  have c1 : W3.cell? ⟨W.heap.size, 1, none⟩ = some (.slice ao la ca) := HF0.out.cell 0 1 rfl rfl
  have c2 : W3.cell? ⟨W.heap.size + 1, 0, none⟩ = some (.bool (!s)) := HF0.out.cell 1 0 rfl rfl
  have c3 : W3.cell? ⟨W.heap.size + 1, 1, none⟩ = some (.slice bo lb cb) := HF0.out.cell 1 1 rfl rfl
  go_wp2_with fail
  refine (compare_any _ _ _ _ _ _ m n W3 HM.out HN.out hla hlb).mono ?_
  rintro e w1 ⟨rfl, hdr⟩
  rw [cmpN_lt hlt]
  have HF := Lib.hid (HF0.out.later hdr.below)
  have HM1 := Lib.hid (HM.out.keep hdr.below)
  have HN1 := Lib.hid (HN.out.keep hdr.below)
  clear hdr c0 c1 c2 c3
  have d0 : w1.cell? ⟨W.heap.size, 0, none⟩ = some (.bool s) := HF.out.cell 0 0 rfl rfl
  have d1 : w1.cell? ⟨W.heap.size, 1, none⟩ = some (.slice ao la ca) := HF.out.cell 0 1 rfl rfl
  have d2 : w1.cell? ⟨W.heap.size + 1, 0, none⟩ = some (.bool (!s)) := HF.out.cell 1 0 rfl rfl
  have d3 : w1.cell? ⟨W.heap.size + 1, 1, none⟩ = some (.slice bo lb cb) := HF.out.cell 1 1 rfl rfl
  go_wp2_with fail
  go_region_held3 (fun w' => w'.cell? ⟨W.heap.size, 0, none⟩ = some (.bool s) ∧ w'.cell? ⟨W.heap.size, 1, none⟩ = some (.slice ao la ca) ∧ w'.cell? ⟨W.heap.size + 1, 0, none⟩ = some (.bool (!s)) ∧ w'.cell? ⟨W.heap.size + 1, 1, none⟩ = some (.slice bo lb cb)) (first | (go_keep; done) | ((try dsimp only); (repeat' apply And.intro) <;> (first | (go_keep; done) | (rw [cell_set2 _ _ _ _ _ _ (by omega)]; assumption))))
    (first | (go_at_call 88; refine (difference_any _ _ _ _ _ _ n m w1.drew HN1.out HM1.out hlb (Nat.le_of_lt hlt)).mono ?_; rintro e u1 ⟨po, pl, pc, rfl, hp, hb1⟩; have HB1 := Lib.hid (below_of_drew hb1); have HP := Lib.hid hp; have HF1 := Lib.hid (HF.out.later HB1.out); clear hb1 hp; have k0 : u1.cell? ⟨W.heap.size, 0, none⟩ = some (.bool s) := HF1.out.cell 0 0 rfl rfl; have k1 : u1.cell? ⟨W.heap.size, 1, none⟩ = some (.slice ao la ca) := HF1.out.cell 0 1 rfl rfl; have k2 : u1.cell? ⟨W.heap.size + 1, 0, none⟩ = some (.bool (!s)) := HF1.out.cell 1 0 rfl rfl; have k3 : u1.cell? ⟨W.heap.size + 1, 1, none⟩ = some (.slice bo lb cb) := HF1.out.cell 1 1 rfl rfl) | (go_at_call 62; refine (signed_any (!s) _ _ _ (n - m) _ HP.out).mono ?_; rintro e u2 ⟨neg, so, sl, sc, rfl, hz, hb2⟩; have HF2 := Lib.hid (HF1.out.later hb2); have HZ := Lib.hid hz; clear hb2 hz; have j0 : u2.cell? ⟨W.heap.size, 0, none⟩ = some (.bool s) := HF2.out.cell 0 0 rfl rfl; have j1 : u2.cell? ⟨W.heap.size, 1, none⟩ = some (.slice ao la ca) := HF2.out.cell 0 1 rfl rfl; have j2 : u2.cell? ⟨W.heap.size + 1, 0, none⟩ = some (.bool (!s)) := HF2.out.cell 1 0 rfl rfl; have j3 : u2.cell? ⟨W.heap.size + 1, 1, none⟩ = some (.slice bo lb cb) := HF2.out.cell 1 1 rfl rfl; have g0 : u2.cell? ⟨W.heap.size + 2, 0, none⟩ = some (.bool false) := HF2.out.cell 2 0 rfl rfl; have g1 : u2.cell? ⟨W.heap.size + 2, 1, none⟩ = some (.slice none 0 0) := HF2.out.cell 2 1 rfl rfl; have g2 : u2.frozen? ⟨W.heap.size + 2, 0, none⟩ = false := HF2.out.frozen 2 0 rfl; have g3 : u2.frozen? ⟨W.heap.size + 2, 1, none⟩ = false := HF2.out.frozen 2 1 rfl))
  go_wp2
  obtain ⟨e0, e1, hz, hbel, _⟩ := HF2.out.finI (cap := sc) 2 rfl HZ.out
  exact bodyPost_ret (v := .agg #[.bool neg, .slice so sl sc]) (by simp [results, Try.results81, go_sem, e0, e1]) rfl ⟨neg, so, sl, sc, rfl, hz, hbel⟩

set_option maxHeartbeats 2000000 in
theorem plus_ge (s : Bool) (ao bo : Option Addr) (la lb ca cb : Nat) (m n : Nat) (W : World) (hm : N32 W ao la m) (hn : N32 W bo lb n) (hla : la ≤ 1000000000) (hlb : lb ≤ 1000000000) (hlt : n ≤ m) :
    Calls Try.prog 81 #[.agg #[.bool s, .slice ao la ca], .agg #[.bool (!s), .slice bo lb cb]] W (OutI W (sgn s (m - n))) := by
  have hf : Fr W (((W.alloc (.cells #[.bool s, .slice ao la ca] 24)).alloc (.cells #[.bool (!s), .slice bo lb cb] 24)).alloc (.cells #[.bool false, .slice none 0 0] 24))
      [(24, #[.bool s, .slice ao la ca]), (24, #[.bool (!s), .slice bo lb cb]), (24, #[.bool false, .slice none 0 0])] :=
    (((Fr.nil W).alloc rfl _ _).alloc (by simp) _ _).alloc (by simp) _ _
  have HM := Lib.hid (hm.keep hf.below)
  have HN := Lib.hid (hn.keep hf.below)
  clear hm hn
  have hbb : (s == !s) = false := by cases s <;> rfl
  go_enter Try.func81, Try.ntmps81
  go_wp2_with fail
  obtain ⟨W3, hW3⟩ : ∃ W3, W3 = ((W.alloc (.cells #[.bool s, .slice ao la ca] 24)).alloc (.cells #[.bool (!s), .slice bo lb cb] 24)).alloc (.cells #[.bool false, .slice none 0 0] 24) := ⟨_, rfl⟩
  rw [← hW3] at hf HM HN ⊢
  clear hW3
  have HF0 := Lib.hid hf
  clear hf
  have c0 : W3.cell? ⟨W.heap.size, 0, none⟩ = some (.bool s) := HF0.out.cell 0 0 rfl rfl
  have c1 : W3.cell? ⟨W.heap.size, 1, none⟩ = some (.slice ao la ca) := HF0.out.cell 0 1 rfl rfl
  have c2 : W3.cell? ⟨W.heap.size + 1, 0, none⟩ = some (.bool (!s)) := HF0.out.cell 1 0 rfl rfl
  have c3 : W3.cell? ⟨W.heap.size + 1, 1, none⟩ = some (.slice bo lb cb) := HF0.out.cell 1 1 rfl rfl
  go_wp2_with fail
  refine (compare_any _ _ _ _ _ _ m n W3 HM.out HN.out hla hlb).mono ?_
  rintro e w1 ⟨rfl, hdr⟩
  obtain ⟨z, hz⟩ : ∃ z, z = cmpN m n := ⟨_, rfl⟩
  rw [← hz]
  have tz : 0 ≤ z := by rw [hz]; unfold cmpN; rw [if_neg (by omega)]; split <;> decide
  have tn : ¬ z < 0 := by omega
  clear hz
  have HF := Lib.hid (HF0.out.later hdr.below)
  have HM1 := Lib.hid (HM.out.keep hdr.below)
  have HN1 := Lib.hid (HN.out.keep hdr.below)
  clear hdr c0 c1 c2 c3
  have d0 : w1.cell? ⟨W.heap.size, 0, none⟩ = some (.bool s) := HF.out.cell 0 0 rfl rfl
  have d1 : w1.cell? ⟨W.heap.size, 1, none⟩ = some (.slice ao la ca) := HF.out.cell 0 1 rfl rfl
  have d2 : w1.cell? ⟨W.heap.size + 1, 0, none⟩ = some (.bool (!s)) := HF.out.cell 1 0 rfl rfl
  have d3 : w1.cell? ⟨W.heap.size + 1, 1, none⟩ = some (.slice bo lb cb) := HF.out.cell 1 1 rfl rfl
  go_wp2_with fail
  go_region_held3 (fun w' => w'.cell? ⟨W.heap.size, 0, none⟩ = some (.bool s) ∧ w'.cell? ⟨W.heap.size, 1, none⟩ = some (.slice ao la ca) ∧ w'.cell? ⟨W.heap.size + 1, 0, none⟩ = some (.bool (!s)) ∧ w'.cell? ⟨W.heap.size + 1, 1, none⟩ = some (.slice bo lb cb)) (first | (go_keep; done) | ((try dsimp only); (repeat' apply And.intro) <;> (first | (go_keep; done) | (rw [cell_set2 _ _ _ _ _ _ (by omega)]; assumption))))
    (first | (go_at_call 88; refine (difference_any _ _ _ _ _ _ m n w1.drew HM1.out HN1.out hla hlt).mono ?_; rintro e u1 ⟨po, pl, pc, rfl, hp, hb1⟩; have HB1 := Lib.hid (below_of_drew hb1); have HP := Lib.hid hp; have HF1 := Lib.hid (HF.out.later HB1.out); clear hb1 hp; have k0 : u1.cell? ⟨W.heap.size, 0, none⟩ = some (.bool s) := HF1.out.cell 0 0 rfl rfl; have k1 : u1.cell? ⟨W.heap.size, 1, none⟩ = some (.slice ao la ca) := HF1.out.cell 0 1 rfl rfl; have k2 : u1.cell? ⟨W.heap.size + 1, 0, none⟩ = some (.bool (!s)) := HF1.out.cell 1 0 rfl rfl; have k3 : u1.cell? ⟨W.heap.size + 1, 1, none⟩ = some (.slice bo lb cb) := HF1.out.cell 1 1 rfl rfl) | (go_at_call 62; refine (signed_any s _ _ _ (m - n) _ HP.out).mono ?_; rintro e u2 ⟨neg, so, sl, sc, rfl, hz, hb2⟩; have HF2 := Lib.hid (HF1.out.later hb2); have HZ := Lib.hid hz; clear hb2 hz; have j0 : u2.cell? ⟨W.heap.size, 0, none⟩ = some (.bool s) := HF2.out.cell 0 0 rfl rfl; have j1 : u2.cell? ⟨W.heap.size, 1, none⟩ = some (.slice ao la ca) := HF2.out.cell 0 1 rfl rfl; have j2 : u2.cell? ⟨W.heap.size + 1, 0, none⟩ = some (.bool (!s)) := HF2.out.cell 1 0 rfl rfl; have j3 : u2.cell? ⟨W.heap.size + 1, 1, none⟩ = some (.slice bo lb cb) := HF2.out.cell 1 1 rfl rfl; have g0 : u2.cell? ⟨W.heap.size + 2, 0, none⟩ = some (.bool false) := HF2.out.cell 2 0 rfl rfl; have g1 : u2.cell? ⟨W.heap.size + 2, 1, none⟩ = some (.slice none 0 0) := HF2.out.cell 2 1 rfl rfl; have g2 : u2.frozen? ⟨W.heap.size + 2, 0, none⟩ = false := HF2.out.frozen 2 0 rfl; have g3 : u2.frozen? ⟨W.heap.size + 2, 1, none⟩ = false := HF2.out.frozen 2 1 rfl))
  go_wp2
  obtain ⟨e0, e1, hz, hbel, _⟩ := HF2.out.finI (cap := sc) 2 rfl HZ.out
  exact bodyPost_ret (v := .agg #[.bool neg, .slice so sl sc]) (by simp [results, Try.results81, go_sem, e0, e1]) rfl ⟨neg, so, sl, sc, rfl, hz, hbel⟩

theorem plus_any (na nb : Bool) (ao bo : Option Addr) (la lb ca cb : Nat) (x y : Int) (W : World) (ha : Z32 W na ao la x) (hb : Z32 W nb bo lb y) (hla : la ≤ 1000000000) (hlb : lb ≤ 1000000000) :
    Calls Try.prog 81 #[.agg #[.bool na, .slice ao la ca], .agg #[.bool nb, .slice bo lb cb]] W (OutI W (x + y)) := by
  obtain ⟨m, hm, rfl, hpm⟩ := ha
  obtain ⟨n, hn, rfl, hpn⟩ := hb
  by_cases h : na = nb
  · subst h
    rw [sgn_add]
    exact plus_same na ao bo la lb ca cb m n W hm hn hla hlb
  · obtain rfl : nb = !na := by cases na <;> cases nb <;> simp_all
    rcases Nat.lt_or_ge m n with hlt | hlt
    · rw [sgn_lt na hlt]
      exact plus_lt na ao bo la lb ca cb m n W hm hn hla hlb hlt
    · rw [sgn_ge na hlt]
      exact plus_ge na ao bo la lb ca cb m n W hm hn hla hlb hlt
end Go.Proofs.Ytdnnjjclklcihaa
