/- Sub, Cmp. -/
import Derived.Test.YtdnnjjclklcihaaIntA
set_option linter.unusedVariables false
namespace Go.Proofs.Ytdnnjjclklcihaa
open Go.RowKit

/-- the same with one shape of the ending -/
def OutF1 (W : World) (z : Int) (e : Ending) (w' : World) : Prop :=
  ∃ neg ao len cap er z', e = .returned (.tuple #[.agg #[.bool neg, .slice ao len cap], .int .i64 er]) ∧ Z32 w' neg ao len z' ∧ Below W.heap.size W w' ∧
    ((Fits z ∧ er = 0 ∧ z' = z) ∨ (¬ Fits z ∧ er = 3 ∧ neg = false ∧ ao = none ∧ len = 0 ∧ cap = 0))

theorem OutF.one {W w' : World} {z : Int} {e : Ending} (h : OutF W z e w') : OutF1 W z e w' := by
  rcases h with ⟨h, neg, ao, len, cap, rfl, hz, hb⟩ | ⟨h, rfl, hb⟩
  · exact ⟨neg, ao, len, cap, 0, z, rfl, hz, hb, .inl ⟨h, rfl, rfl⟩⟩
  · exact ⟨false, none, 0, 0, 3, 0, rfl, Z32.nil _, hb, .inr ⟨h, rfl, rfl, rfl, rfl, rfl⟩⟩

theorem OutF1.two {W w' : World} {z : Int} {e : Ending} (h : OutF1 W z e w') : OutF W z e w' := by
  obtain ⟨neg, ao, len, cap, er, z', rfl, hz, hb, ⟨h, rfl, rfl⟩ | ⟨h, rfl, rfl, rfl, rfl, rfl⟩⟩ := h
  · exact .inl ⟨h, neg, ao, len, cap, rfl, hz, hb⟩
  · exact .inr ⟨h, rfl, hb⟩

set_option maxHeartbeats 2000000 in
theorem subI_any (na nb : Bool) (ao bo : Option Addr) (la lb ca cb : Nat) (x y : Int) (W : World) (ha : Z32 W na ao la x) (hb : Z32 W nb bo lb y) (hla : la ≤ 100000000) (hlb : lb ≤ 100000000) :
    Calls Try.prog 36 #[.agg #[.bool na, .slice ao la ca], .agg #[.bool nb, .slice bo lb cb]] W (OutF W (x - y)) := by
  have hf : Fr W (((W.alloc (.cells #[.bool na, .slice ao la ca] 24)).alloc (.cells #[.bool nb, .slice bo lb cb] 24)).alloc (.cells #[.bool false, .slice none 0 0] 24))
      [(24, #[.bool na, .slice ao la ca]), (24, #[.bool nb, .slice bo lb cb]), (24, #[.bool false, .slice none 0 0])] :=
    (((Fr.nil W).alloc rfl _ _).alloc (by simp) _ _).alloc (by simp) _ _
  have hy : (-y).natAbs < B32 ^ lb := by rw [Int.natAbs_neg]; exact hb.natAbs_lt
  have HY := Lib.hid hy
  have HLEN := Lib.hid (addI_len ha.natAbs_lt hy)
  have HA := Lib.hid (ha.keep hf.below)
  have HB := Lib.hid (hb.keep hf.below)
  clear ha hb hy
  rw [show x - y = x + -y from rfl]
  go_enter Try.func36, Try.ntmps36
  go_wp2_with fail
  obtain ⟨W3, hW3⟩ : ∃ W3, W3 = ((W.alloc (.cells #[.bool na, .slice ao la ca] 24)).alloc (.cells #[.bool nb, .slice bo lb cb] 24)).alloc (.cells #[.bool false, .slice none 0 0] 24) := ⟨_, rfl⟩
  rw [← hW3] at hf HA HB ⊢
  clear hW3
  have HF := Lib.hid hf
  clear hf
  have c0 : W3.cell? ⟨W.heap.size, 0, none⟩ = some (.bool na) := HF.out.cell 0 0 rfl rfl
  have c1 : W3.cell? ⟨W.heap.size, 1, none⟩ = some (.slice ao la ca) := HF.out.cell 0 1 rfl rfl
  have c2 : W3.cell? ⟨W.heap.size + 1, 0, none⟩ = some (.bool nb) := HF.out.cell 1 0 rfl rfl
  have c3 : W3.cell? ⟨W.heap.size + 1, 1, none⟩ = some (.slice bo lb cb) := HF.out.cell 1 1 rfl rfl
  go_region_held3 (fun w' => w'.cell? ⟨W.heap.size, 0, none⟩ = some (.bool na) ∧ w'.cell? ⟨W.heap.size, 1, none⟩ = some (.slice ao la ca) ∧ w'.cell? ⟨W.heap.size + 1, 0, none⟩ = some (.bool nb) ∧ w'.cell? ⟨W.heap.size + 1, 1, none⟩ = some (.slice bo lb cb)) (first | (go_keep; done) | ((try dsimp only); (repeat' apply And.intro) <;> (first | (go_keep; done) | (rw [cell_set2 _ _ _ _ _ _ (by omega)]; assumption))))
    (first | (go_at_call 32; refine (neg_any _ _ _ _ y W3.drew (HB.out.keep ((Below.refl _ _).drew)) (by omega)).mono ?_; rintro e u1 ⟨s1, po, pl, pc, rfl, hp, hb1⟩; have HB1 := Lib.hid (below_of_drew hb1); have HP := Lib.hid hp; have hpl : pl ≤ 100000000 := Nat.le_trans (hp.n32.len_le HY.out) hlb; have HF1 := Lib.hid (HF.out.later HB1.out); have HA1 := Lib.hid (HA.out.keep HB1.out); clear hb1 hp; have k0 : u1.cell? ⟨W.heap.size, 0, none⟩ = some (.bool na) := HF1.out.cell 0 0 rfl rfl; have k1 : u1.cell? ⟨W.heap.size, 1, none⟩ = some (.slice ao la ca) := HF1.out.cell 0 1 rfl rfl; have k2 : u1.cell? ⟨W.heap.size + 1, 0, none⟩ = some (.bool nb) := HF1.out.cell 1 0 rfl rfl; have k3 : u1.cell? ⟨W.heap.size + 1, 1, none⟩ = some (.slice bo lb cb) := HF1.out.cell 1 1 rfl rfl) | (go_at_call 81; refine (plus_any _ _ _ _ _ _ _ _ x (-y) _ HA1.out HP.out (by omega) (by omega)).mono ?_; rintro e u2 ⟨s2, qo, ql, qc, rfl, hp, hb2⟩; have HP2 := Lib.hid hp; have hql : ql ≤ 1000000000 := Nat.le_trans (hp.n32.len_le HLEN.out) (by omega); have HF2 := Lib.hid (HF1.out.later hb2); clear hb2 hp; have m0 : u2.cell? ⟨W.heap.size, 0, none⟩ = some (.bool na) := HF2.out.cell 0 0 rfl rfl; have m1 : u2.cell? ⟨W.heap.size, 1, none⟩ = some (.slice ao la ca) := HF2.out.cell 0 1 rfl rfl; have m2 : u2.cell? ⟨W.heap.size + 1, 0, none⟩ = some (.bool nb) := HF2.out.cell 1 0 rfl rfl; have m3 : u2.cell? ⟨W.heap.size + 1, 1, none⟩ = some (.slice bo lb cb) := HF2.out.cell 1 1 rfl rfl) | (go_at_call 80; refine ((fitting_any _ _ _ _ (x + -y) _ HP2.out hql).mono fun e w h => h.one).mono ?_; rintro e u3 ⟨neg, so, sl, sc, er, z', rfl, hz, hb3, hx⟩; have HF3 := Lib.hid (HF2.out.later hb3); have HZ := Lib.hid hz; have HX := Lib.hid hx; clear hb3 hz hx; have j0 : u3.cell? ⟨W.heap.size, 0, none⟩ = some (.bool na) := HF3.out.cell 0 0 rfl rfl; have j1 : u3.cell? ⟨W.heap.size, 1, none⟩ = some (.slice ao la ca) := HF3.out.cell 0 1 rfl rfl; have j2 : u3.cell? ⟨W.heap.size + 1, 0, none⟩ = some (.bool nb) := HF3.out.cell 1 0 rfl rfl; have j3 : u3.cell? ⟨W.heap.size + 1, 1, none⟩ = some (.slice bo lb cb) := HF3.out.cell 1 1 rfl rfl; have g0 : u3.cell? ⟨W.heap.size + 2, 0, none⟩ = some (.bool false) := HF3.out.cell 2 0 rfl rfl; have g1 : u3.cell? ⟨W.heap.size + 2, 1, none⟩ = some (.slice none 0 0) := HF3.out.cell 2 1 rfl rfl; have g2 : u3.frozen? ⟨W.heap.size + 2, 0, none⟩ = false := HF3.out.frozen 2 0 rfl; have g3 : u3.frozen? ⟨W.heap.size + 2, 1, none⟩ = false := HF3.out.frozen 2 1 rfl))
  go_wp2
  obtain ⟨e0, e1, hz, hbel, _⟩ := HF3.out.finI (cap := sc) 2 rfl HZ.out
  exact bodyPost_ret (v := .tuple #[.agg #[.bool neg, .slice so sl sc], .int .i64 er]) (by simp [results, Try.results36, go_sem, e0, e1]) rfl (OutF1.two ⟨neg, so, sl, sc, er, z', rfl, hz, hbel, HX.out⟩)

theorem cmpN_sub (m n : Nat) : cmpN m n = ((m : Int) - (n : Int)).sign := by
  rcases Nat.lt_trichotomy m n with h | h | h
  · rw [cmpN_lt h, Int.sign_eq_neg_one_of_neg (by omega)]
  · rw [cmpN_eq h, h]; simp
  · rw [cmpN_gt h, Int.sign_eq_one_of_pos (by omega)]

set_option maxHeartbeats 1000000 in
theorem cmpI_any (na nb : Bool) (ao bo : Option Addr) (la lb ca cb : Nat) (x y : Int) (W : World) (ha : Z32 W na ao la x) (hb : Z32 W nb bo lb y) (hla : la ≤ 1000000000) (hlb : lb ≤ 1000000000) :
    Calls Try.prog 37 #[.agg #[.bool na, .slice ao la ca], .agg #[.bool nb, .slice bo lb cb]] W (fun e w' => e = .returned (.int .i64 (x - y).sign) ∧ Below W.heap.size W w') := by
  have hf : Fr W ((W.alloc (.cells #[.bool na, .slice ao la ca] 24)).alloc (.cells #[.bool nb, .slice bo lb cb] 24))
      [(24, #[.bool na, .slice ao la ca]), (24, #[.bool nb, .slice bo lb cb])] := ((Fr.nil W).alloc rfl _ _).alloc (by simp) _ _
  obtain ⟨m, hm, rfl, hpm⟩ := ha
  obtain ⟨n, hn, rfl, hpn⟩ := hb
  have HM := Lib.hid (hm.keep hf.below)
  have HN := Lib.hid (hn.keep hf.below)
  have HF := Lib.hid hf
  have HPM := Lib.hid hpm
  have HPN := Lib.hid hpn
  clear hm hn hf hpm hpn
  cases na <;> cases nb
  · have HE : Hid ((sgn false m - sgn false n).sign = cmpN m n) := by show _ = _; rw [cmpN_sub]; congr 1 <;> (simp [sgn]; omega)
    rw [HE.out]
    go_enter Try.func37, Try.ntmps37
    go_wp2_with fail
    refine (compare_any _ _ _ _ _ _ m n _ HM.out HN.out hla hlb).mono ?_
    rintro e w1 ⟨rfl, hd⟩
    have HF1 := Lib.hid (HF.out.later hd.below)
    clear hd
    go_wp2
    go_ret
    exact ⟨rfl, HF1.out.below⟩
  · have HE : Hid ((sgn false m - sgn true n).sign = 1) := by show _ = _; have := HPN.out rfl; rw [Int.sign_eq_one_of_pos]; simp [sgn]; omega
    rw [HE.out]
    go_enter Try.func37, Try.ntmps37
    go_wp2
    go_ret
    exact ⟨rfl, HF.out.below⟩
  · have HE : Hid ((sgn true m - sgn false n).sign = -1) := by show _ = _; have := HPM.out rfl; rw [Int.sign_eq_neg_one_of_neg]; simp [sgn]; omega
    rw [HE.out]
    go_enter Try.func37, Try.ntmps37
    go_wp2
    go_ret
    exact ⟨rfl, HF.out.below⟩
  · have HE : Hid ((sgn true m - sgn true n).sign = cmpN n m) := by show _ = _; rw [cmpN_sub]; congr 1 <;> (simp [sgn]; omega)
    rw [HE.out]
    go_enter Try.func37, Try.ntmps37
    go_wp2_with fail
    refine (compare_any _ _ _ _ _ _ n m _ HN.out HM.out hlb hla).mono ?_
    rintro e w1 ⟨rfl, hd⟩
    have HF1 := Lib.hid (HF.out.later hd.below)
    clear hd
    go_wp2
    go_ret
    exact ⟨rfl, HF1.out.below⟩
end Go.Proofs.Ytdnnjjclklcihaa
