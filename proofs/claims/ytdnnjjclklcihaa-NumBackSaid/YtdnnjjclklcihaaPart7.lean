/- Part 7 of the contracts: IntA, IntB, Par, Read, Parse, RefP, RefQ. -/
import Derived.Test.YtdnnjjclklcihaaPart6

/- fitting, Neg, Add, Sub, Mul, Cmp. -/
set_option linter.unusedVariables false
namespace Go.Proofs.Ytdnnjjclklcihaa
open Go.RowKit

/-- the integer fits -/
def Fits (z : Int) : Prop := blen z.natAbs ≤ 16384

/-- returned: the integer and no error, or, if it does not fit, 0 and the error -/
def OutF (W : World) (z : Int) (e : Ending) (w' : World) : Prop :=
  (Fits z ∧ ∃ neg ao len cap, e = .returned (.tuple #[.agg #[.bool neg, .slice ao len cap], .int .i64 0]) ∧ Z32 w' neg ao len z ∧ Below W.heap.size W w') ∨
  (¬ Fits z ∧ e = .returned (.tuple #[.agg #[.bool false, .slice none 0 0], .int .i64 3]) ∧ Below W.heap.size W w')

theorem Z32.nil (w : World) : Z32 w false none 0 0 := ⟨0, N32.nil _ _, rfl, by simp⟩

set_option maxHeartbeats 800000 in
theorem fitting_any (neg : Bool) (ao : Option Addr) (len cap : Nat) (z : Int) (W : World) (h : Z32 W neg ao len z) (hl : len ≤ 1000000000) :
    Calls Try.prog 80 #[.agg #[.bool neg, .slice ao len cap]] W (OutF W z) := by
  have hf : Fr W ((W.alloc (.cells #[.bool neg, .slice ao len cap] 24)).alloc (.cells #[.bool false, .slice none 0 0] 24))
      [(24, #[.bool neg, .slice ao len cap]), (24, #[.bool false, .slice none 0 0])] := ((Fr.nil W).alloc rfl _ _).alloc (by simp) _ _
  have HZ := Lib.hid (h.keep hf.below)
  have HF := Lib.hid hf
  clear h hf
  go_enter Try.func80, Try.ntmps80
  go_wp2_with fail
  refine (bitLen_any _ _ _ _ z _ HZ.out hl).mono ?_
  rintro e w1 ⟨rfl, hb1⟩
  have HF1 := Lib.hid (HF.out.later hb1)
  have HZ1 := Lib.hid (HZ.out.keep hb1)
  clear hb1
  have b0 : w1.cell? ⟨W.heap.size, 0, none⟩ = some (.bool neg) := HF1.out.cell 0 0 rfl rfl
  have b1 : w1.cell? ⟨W.heap.size, 1, none⟩ = some (.slice ao len cap) := HF1.out.cell 0 1 rfl rfl
  have g0 : w1.cell? ⟨W.heap.size + 1, 0, none⟩ = some (.bool false) := HF1.out.cell 1 0 rfl rfl
  have g1 : w1.cell? ⟨W.heap.size + 1, 1, none⟩ = some (.slice none 0 0) := HF1.out.cell 1 1 rfl rfl
  have g2 : w1.frozen? ⟨W.heap.size + 1, 0, none⟩ = false := HF1.out.frozen 1 0 rfl
  have g3 : w1.frozen? ⟨W.heap.size + 1, 1, none⟩ = false := HF1.out.frozen 1 1 rfl
  obtain ⟨k, hk⟩ : ∃ k, k = blen z.natAbs := ⟨_, rfl⟩
  rw [← hk]
  by_cases hfit : k ≤ 16384
  · have t1 : ¬ (16384 : Int) < (k : Int) := by omega
    have HX : Hid (Fits z) := by unfold Fits; rw [← hk]; exact hfit
    clear hk hfit
    go_wp2
    obtain ⟨e0, e1, hz, hbel, _⟩ := HF1.out.finI (cap := cap) 1 rfl HZ1.out
    exact bodyPost_ret (v := .tuple #[.agg #[.bool neg, .slice ao len cap], .int .i64 0]) (by simp [results, Try.results80, go_sem, e0, e1]) rfl (.inl ⟨HX.out, neg, ao, len, cap, rfl, hz, hbel⟩)
  · have t1 : (16384 : Int) < (k : Int) := by omega
    have HX : Hid (¬ Fits z) := by unfold Fits; rw [← hk]; exact hfit
    clear hk hfit
    go_wp2
    obtain ⟨e0, e1, hz, hbel, _⟩ := HF1.out.finI (cap := 0) 1 rfl (Z32.nil _)
    exact bodyPost_ret (v := .tuple #[.agg #[.bool false, .slice none 0 0], .int .i64 3]) (by simp [results, Try.results80, go_sem, e0, e1]) rfl (.inr ⟨HX.out, rfl, hbel⟩)

set_option maxHeartbeats 1000000 in
theorem neg_any (na : Bool) (ao : Option Addr) (la ca : Nat) (z : Int) (W : World) (h : Z32 W na ao la z) (hla : la ≤ 1000000000) :
    Calls Try.prog 32 #[.agg #[.bool na, .slice ao la ca]] W (OutI W (-z)) := by
  have hf : Fr W ((W.alloc (.cells #[.bool na, .slice ao la ca] 24)).alloc (.cells #[.bool false, .slice none 0 0] 24))
      [(24, #[.bool na, .slice ao la ca]), (24, #[.bool false, .slice none 0 0])] := ((Fr.nil W).alloc rfl _ _).alloc (by simp) _ _
  obtain ⟨n, hn, rfl, hp⟩ := h.keep hf.below
  have HN := Lib.hid hn
  clear h hn hp
  rw [sgn_neg]
  go_enter Try.func32, Try.ntmps32
  go_wp2_with fail
  obtain ⟨W3, hW3⟩ : ∃ W3, W3 = (W.alloc (.cells #[.bool na, .slice ao la ca] 24)).alloc (.cells #[.bool false, .slice none 0 0] 24) := ⟨_, rfl⟩
  rw [← hW3] at hf HN ⊢
  clear hW3
  have HF := Lib.hid hf
  clear hf
  have c0 : W3.cell? ⟨W.heap.size, 0, none⟩ = some (.bool na) := HF.out.cell 0 0 rfl rfl
  have c1 : W3.cell? ⟨W.heap.size, 1, none⟩ = some (.slice ao la ca) := HF.out.cell 0 1 rfl rfl
  go_region_held3 (fun w' => w'.cell? ⟨W.heap.size, 0, none⟩ = some (.bool na) ∧ w'.cell? ⟨W.heap.size, 1, none⟩ = some (.slice ao la ca)) (first | (go_keep; done) | ((try dsimp only); (repeat' apply And.intro) <;> (first | (go_keep; done) | (rw [cell_set2 _ _ _ _ _ _ (by omega)]; assumption))))
    (first | (go_at_call 79; refine (duplicate_n _ _ _ n W3.drew HN.out hla).mono ?_; rintro e u1 ⟨po, pc, rfl, hp, hb1⟩; have HB1 := Lib.hid (below_of_drew hb1); have HP := Lib.hid hp; have HF1 := Lib.hid (HF.out.later HB1.out); clear hb1 hp; have k0 : u1.cell? ⟨W.heap.size, 0, none⟩ = some (.bool na) := HF1.out.cell 0 0 rfl rfl; have k1 : u1.cell? ⟨W.heap.size, 1, none⟩ = some (.slice ao la ca) := HF1.out.cell 0 1 rfl rfl) | (go_at_call 62; refine (signed_any (!na) _ _ _ n _ HP.out).mono ?_; rintro e u2 ⟨neg, so, sl, sc, rfl, hz, hb2⟩; have HF2 := Lib.hid (HF1.out.later hb2); have HZ := Lib.hid hz; clear hb2 hz; have j0 : u2.cell? ⟨W.heap.size, 0, none⟩ = some (.bool na) := HF2.out.cell 0 0 rfl rfl; have j1 : u2.cell? ⟨W.heap.size, 1, none⟩ = some (.slice ao la ca) := HF2.out.cell 0 1 rfl rfl; have g0 : u2.cell? ⟨W.heap.size + 1, 0, none⟩ = some (.bool false) := HF2.out.cell 1 0 rfl rfl; have g1 : u2.cell? ⟨W.heap.size + 1, 1, none⟩ = some (.slice none 0 0) := HF2.out.cell 1 1 rfl rfl; have g2 : u2.frozen? ⟨W.heap.size + 1, 0, none⟩ = false := HF2.out.frozen 1 0 rfl; have g3 : u2.frozen? ⟨W.heap.size + 1, 1, none⟩ = false := HF2.out.frozen 1 1 rfl))
  go_wp2
  obtain ⟨e0, e1, hz, hbel, _⟩ := HF2.out.finI (cap := sc) 1 rfl HZ.out
  exact bodyPost_ret (v := .agg #[.bool neg, .slice so sl sc]) (by simp [results, Try.results32, go_sem, e0, e1]) rfl ⟨neg, so, sl, sc, rfl, hz, hbel⟩

theorem addI_len {x y : Int} {a b : Nat} (hx : x.natAbs < B32 ^ a) (hy : y.natAbs < B32 ^ b) : (x + y).natAbs < B32 ^ (a + b + 1) := by
  have h1 : B32 ^ a ≤ B32 ^ (a + b) := Nat.pow_le_pow_right B32_pos (by omega)
  have h2 : B32 ^ b ≤ B32 ^ (a + b) := Nat.pow_le_pow_right B32_pos (by omega)
  have h3 : B32 ^ (a + b + 1) = B32 ^ (a + b) * B32 := Nat.pow_succ ..
  rw [h3, B32_eq]
  rw [B32_eq] at hx hy h1 h2
  omega

set_option maxHeartbeats 1000000 in
theorem addI_any (na nb : Bool) (ao bo : Option Addr) (la lb ca cb : Nat) (x y : Int) (W : World) (ha : Z32 W na ao la x) (hb : Z32 W nb bo lb y) (hla : la ≤ 100000000) (hlb : lb ≤ 100000000) :
    Calls Try.prog 35 #[.agg #[.bool na, .slice ao la ca], .agg #[.bool nb, .slice bo lb cb]] W (OutF W (x + y)) := by
  have hf : Fr W (((W.alloc (.cells #[.bool na, .slice ao la ca] 24)).alloc (.cells #[.bool nb, .slice bo lb cb] 24)).alloc (.cells #[.bool false, .slice none 0 0] 24))
      [(24, #[.bool na, .slice ao la ca]), (24, #[.bool nb, .slice bo lb cb]), (24, #[.bool false, .slice none 0 0])] :=
    (((Fr.nil W).alloc rfl _ _).alloc (by simp) _ _).alloc (by simp) _ _
  have HLEN := Lib.hid (addI_len ha.natAbs_lt hb.natAbs_lt)
  have HA := Lib.hid (ha.keep hf.below)
  have HB := Lib.hid (hb.keep hf.below)
  have HF := Lib.hid hf
  clear ha hb hf
  go_enter Try.func35, Try.ntmps35
  go_wp2_with fail
  refine (plus_any _ _ _ _ _ _ _ _ x y _ HA.out HB.out (by omega) (by omega)).mono ?_
  rintro e w1 ⟨s1, o1, l1, c1, rfl, hz1, hb1⟩
  have HF1 := Lib.hid (HF.out.later hb1)
  have HZ1 := Lib.hid hz1
  have hl1 : l1 ≤ 1000000000 := Nat.le_trans (hz1.n32.len_le HLEN.out) (by omega)
  clear hz1 hb1
  go_wp2_with fail
  refine (fitting_any _ _ _ _ (x + y) _ HZ1.out hl1).mono ?_
  rintro e w2 (⟨hfit, neg, so, sl, sc, rfl, hz, hb2⟩ | ⟨hfit, rfl, hb2⟩)
  · have HF2 := Lib.hid (HF1.out.later hb2)
    have HX := Lib.hid hfit
    have HZ := Lib.hid hz
    clear hb2 hfit hz
    have g0 : w2.cell? ⟨W.heap.size + 2, 0, none⟩ = some (.bool false) := HF2.out.cell 2 0 rfl rfl
    have g1 : w2.cell? ⟨W.heap.size + 2, 1, none⟩ = some (.slice none 0 0) := HF2.out.cell 2 1 rfl rfl
    have g2 : w2.frozen? ⟨W.heap.size + 2, 0, none⟩ = false := HF2.out.frozen 2 0 rfl
    have g3 : w2.frozen? ⟨W.heap.size + 2, 1, none⟩ = false := HF2.out.frozen 2 1 rfl
    go_wp2
    obtain ⟨e0, e1, hz, hbel, _⟩ := HF2.out.finI (cap := sc) 2 rfl HZ.out
    exact bodyPost_ret (v := .tuple #[.agg #[.bool neg, .slice so sl sc], .int .i64 0]) (by simp [results, Try.results35, go_sem, e0, e1]) rfl (.inl ⟨HX.out, neg, so, sl, sc, rfl, hz, hbel⟩)
  · have HF2 := Lib.hid (HF1.out.later hb2)
    have HX := Lib.hid hfit
    clear hb2 hfit
    have g0 : w2.cell? ⟨W.heap.size + 2, 0, none⟩ = some (.bool false) := HF2.out.cell 2 0 rfl rfl
    have g1 : w2.cell? ⟨W.heap.size + 2, 1, none⟩ = some (.slice none 0 0) := HF2.out.cell 2 1 rfl rfl
    have g2 : w2.frozen? ⟨W.heap.size + 2, 0, none⟩ = false := HF2.out.frozen 2 0 rfl
    have g3 : w2.frozen? ⟨W.heap.size + 2, 1, none⟩ = false := HF2.out.frozen 2 1 rfl
    go_wp2
    obtain ⟨e0, e1, hz, hbel, _⟩ := HF2.out.finI (cap := 0) 2 rfl (Z32.nil _)
    exact bodyPost_ret (v := .tuple #[.agg #[.bool false, .slice none 0 0], .int .i64 3]) (by simp [results, Try.results35, go_sem, e0, e1]) rfl (.inr ⟨HX.out, rfl, hbel⟩)

theorem mulI_len {x y : Int} {a b : Nat} (hx : x.natAbs < B32 ^ a) (hy : y.natAbs < B32 ^ b) : (x * y).natAbs < B32 ^ (a + b + 1) := by
  rw [Int.natAbs_mul]
  have h1 : x.natAbs * y.natAbs < B32 ^ a * B32 ^ b := Nat.mul_lt_mul'' hx hy
  rw [← Nat.pow_add] at h1
  exact Nat.lt_of_lt_of_le h1 (Nat.pow_le_pow_right B32_pos (by omega))

set_option maxHeartbeats 1000000 in
theorem mulI_any (na nb : Bool) (ao bo : Option Addr) (la lb ca cb : Nat) (x y : Int) (W : World) (ha : Z32 W na ao la x) (hb : Z32 W nb bo lb y) (hla : la ≤ 100000000) (hlb : lb ≤ 100000000) :
    Calls Try.prog 41 #[.agg #[.bool na, .slice ao la ca], .agg #[.bool nb, .slice bo lb cb]] W (OutF W (x * y)) := by
  have hf : Fr W (((W.alloc (.cells #[.bool na, .slice ao la ca] 24)).alloc (.cells #[.bool nb, .slice bo lb cb] 24)).alloc (.cells #[.bool false, .slice none 0 0] 24))
      [(24, #[.bool na, .slice ao la ca]), (24, #[.bool nb, .slice bo lb cb]), (24, #[.bool false, .slice none 0 0])] :=
    (((Fr.nil W).alloc rfl _ _).alloc (by simp) _ _).alloc (by simp) _ _
  have HLEN := Lib.hid (mulI_len ha.natAbs_lt hb.natAbs_lt)
  have HA := Lib.hid (ha.keep hf.below)
  have HB := Lib.hid (hb.keep hf.below)
  have HF := Lib.hid hf
  clear ha hb hf
  go_enter Try.func41, Try.ntmps41
  go_wp2_with fail
  refine (times_any _ _ _ _ _ _ _ _ x y _ HA.out HB.out (by omega) (by omega)).mono ?_
  rintro e w1 ⟨s1, o1, l1, c1, rfl, hz1, hb1⟩
  have HF1 := Lib.hid (HF.out.later hb1)
  have HZ1 := Lib.hid hz1
  have hl1 : l1 ≤ 1000000000 := Nat.le_trans (hz1.n32.len_le HLEN.out) (by omega)
  clear hz1 hb1
  go_wp2_with fail
  refine (fitting_any _ _ _ _ (x * y) _ HZ1.out hl1).mono ?_
  rintro e w2 (⟨hfit, neg, so, sl, sc, rfl, hz, hb2⟩ | ⟨hfit, rfl, hb2⟩)
  · have HF2 := Lib.hid (HF1.out.later hb2)
    have HX := Lib.hid hfit
    have HZ := Lib.hid hz
    clear hb2 hfit hz
    have g0 : w2.cell? ⟨W.heap.size + 2, 0, none⟩ = some (.bool false) := HF2.out.cell 2 0 rfl rfl
    have g1 : w2.cell? ⟨W.heap.size + 2, 1, none⟩ = some (.slice none 0 0) := HF2.out.cell 2 1 rfl rfl
    have g2 : w2.frozen? ⟨W.heap.size + 2, 0, none⟩ = false := HF2.out.frozen 2 0 rfl
    have g3 : w2.frozen? ⟨W.heap.size + 2, 1, none⟩ = false := HF2.out.frozen 2 1 rfl
    go_wp2
    obtain ⟨e0, e1, hz, hbel, _⟩ := HF2.out.finI (cap := sc) 2 rfl HZ.out
    exact bodyPost_ret (v := .tuple #[.agg #[.bool neg, .slice so sl sc], .int .i64 0]) (by simp [results, Try.results41, go_sem, e0, e1]) rfl (.inl ⟨HX.out, neg, so, sl, sc, rfl, hz, hbel⟩)
  · have HF2 := Lib.hid (HF1.out.later hb2)
    have HX := Lib.hid hfit
    clear hb2 hfit
    have g0 : w2.cell? ⟨W.heap.size + 2, 0, none⟩ = some (.bool false) := HF2.out.cell 2 0 rfl rfl
    have g1 : w2.cell? ⟨W.heap.size + 2, 1, none⟩ = some (.slice none 0 0) := HF2.out.cell 2 1 rfl rfl
    have g2 : w2.frozen? ⟨W.heap.size + 2, 0, none⟩ = false := HF2.out.frozen 2 0 rfl
    have g3 : w2.frozen? ⟨W.heap.size + 2, 1, none⟩ = false := HF2.out.frozen 2 1 rfl
    go_wp2
    obtain ⟨e0, e1, hz, hbel, _⟩ := HF2.out.finI (cap := 0) 2 rfl (Z32.nil _)
    exact bodyPost_ret (v := .tuple #[.agg #[.bool false, .slice none 0 0], .int .i64 3]) (by simp [results, Try.results41, go_sem, e0, e1]) rfl (.inr ⟨HX.out, rfl, hbel⟩)

end Go.Proofs.Ytdnnjjclklcihaa

/- Sub, Cmp. -/
set_option linter.unusedVariables false
namespace Go.Proofs.Ytdnnjjclklcihaa
open Go.RowKit

/-- the same with one shape of the ending -/
def OutF1 (W : World) (z : Int) (e : Ending) (w' : World) : Prop :=
  ∃ neg ao len cap er z', e = .returned (.tuple #[.agg #[.bool neg, .slice ao len cap], .int .i64 er]) ∧ Z32 w' neg ao len z' ∧ Below W.heap.size W w' ∧
    ((Fits z ∧ er = 0 ∧ z' = z) ∨ (¬ Fits z ∧ er = 3 ∧ neg = false ∧ ao = none ∧ len = 0 ∧ cap = 0))

theorem OutF.one {W w' : World} {z : Int} {e : Ending} (h : OutF W z e w') : OutF1 W z e w' := by
  rcases h with ⟨h, neg, ao, len, cap, rfl, hz, hb⟩ | ⟨h, rfl, hb⟩
  · exact ⟨neg, ao, len, cap, 0, z, rfl, hz, hb, .inl ⟨h, rfl, rfl⟩⟩
  · exact ⟨false, none, 0, 0, 3, 0, rfl, Z32.nil _, hb, .inr ⟨h, rfl, rfl, rfl, rfl, rfl⟩⟩

theorem OutF1.two {W w' : World} {z : Int} {e : Ending} (h : OutF1 W z e w') : OutF W z e w' := by
  obtain ⟨neg, ao, len, cap, er, z', rfl, hz, hb, ⟨h, rfl, rfl⟩ | ⟨h, rfl, rfl, rfl, rfl, rfl⟩⟩ := h
  · exact .inl ⟨h, neg, ao, len, cap, rfl, hz, hb⟩
  · exact .inr ⟨h, rfl, hb⟩

set_option maxHeartbeats 2000000 in
theorem subI_any (na nb : Bool) (ao bo : Option Addr) (la lb ca cb : Nat) (x y : Int) (W : World) (ha : Z32 W na ao la x) (hb : Z32 W nb bo lb y) (hla : la ≤ 100000000) (hlb : lb ≤ 100000000) :
    Calls Try.prog 36 #[.agg #[.bool na, .slice ao la ca], .agg #[.bool nb, .slice bo lb cb]] W (OutF W (x - y)) := by
  have hf : Fr W (((W.alloc (.cells #[.bool na, .slice ao la ca] 24)).alloc (.cells #[.bool nb, .slice bo lb cb] 24)).alloc (.cells #[.bool false, .slice none 0 0] 24))
      [(24, #[.bool na, .slice ao la ca]), (24, #[.bool nb, .slice bo lb cb]), (24, #[.bool false, .slice none 0 0])] :=
    (((Fr.nil W).alloc rfl _ _).alloc (by simp) _ _).alloc (by simp) _ _
  have hy : (-y).natAbs < B32 ^ lb := by rw [Int.natAbs_neg]; exact hb.natAbs_lt
  have HY := Lib.hid hy
  have HLEN := Lib.hid (addI_len ha.natAbs_lt hy)
  have HA := Lib.hid (ha.keep hf.below)
  have HB := Lib.hid (hb.keep hf.below)
  clear ha hb hy
  rw [show x - y = x + -y from rfl]
  go_enter Try.func36, Try.ntmps36
  go_wp2_with fail
  obtain ⟨W3, hW3⟩ : ∃ W3, W3 = ((W.alloc (.cells #[.bool na, .slice ao la ca] 24)).alloc (.cells #[.bool nb, .slice bo lb cb] 24)).alloc (.cells #[.bool false, .slice none 0 0] 24) := ⟨_, rfl⟩
  rw [← hW3] at hf HA HB ⊢
  clear hW3
  have HF := Lib.hid hf
  clear hf
  have c0 : W3.cell? ⟨W.heap.size, 0, none⟩ = some (.bool na) := HF.out.cell 0 0 rfl rfl
  have c1 : W3.cell? ⟨W.heap.size, 1, none⟩ = some (.slice ao la ca) := HF.out.cell 0 1 rfl rfl
  have c2 : W3.cell? ⟨W.heap.size + 1, 0, none⟩ = some (.bool nb) := HF.out.cell 1 0 rfl rfl
  have c3 : W3.cell? ⟨W.heap.size + 1, 1, none⟩ = some (.slice bo lb cb) := HF.out.cell 1 1 rfl rfl
  go_region_held3 (fun w' => w'.cell? ⟨W.heap.size, 0, none⟩ = some (.bool na) ∧ w'.cell? ⟨W.heap.size, 1, none⟩ = some (.slice ao la ca) ∧ w'.cell? ⟨W.heap.size + 1, 0, none⟩ = some (.bool nb) ∧ w'.cell? ⟨W.heap.size + 1, 1, none⟩ = some (.slice bo lb cb)) (first | (go_keep; done) | ((try dsimp only); (repeat' apply And.intro) <;> (first | (go_keep; done) | (rw [cell_set2 _ _ _ _ _ _ (by omega)]; assumption))))
    (first | (go_at_call 32; refine (neg_any _ _ _ _ y W3.drew (HB.out.keep ((Below.refl _ _).drew)) (by omega)).mono ?_; rintro e u1 ⟨s1, po, pl, pc, rfl, hp, hb1⟩; have HB1 := Lib.hid (below_of_drew hb1); have HP := Lib.hid hp; have hpl : pl ≤ 100000000 := Nat.le_trans (hp.n32.len_le HY.out) hlb; have HF1 := Lib.hid (HF.out.later HB1.out); have HA1 := Lib.hid (HA.out.keep HB1.out); clear hb1 hp; have k0 : u1.cell? ⟨W.heap.size, 0, none⟩ = some (.bool na) := HF1.out.cell 0 0 rfl rfl; have k1 : u1.cell? ⟨W.heap.size, 1, none⟩ = some (.slice ao la ca) := HF1.out.cell 0 1 rfl rfl; have k2 : u1.cell? ⟨W.heap.size + 1, 0, none⟩ = some (.bool nb) := HF1.out.cell 1 0 rfl rfl; have k3 : u1.cell? ⟨W.heap.size + 1, 1, none⟩ = some (.slice bo lb cb) := HF1.out.cell 1 1 rfl rfl) | (go_at_call 81; refine (plus_any _ _ _ _ _ _ _ _ x (-y) _ HA1.out HP.out (by omega) (by omega)).mono ?_; rintro e u2 ⟨s2, qo, ql, qc, rfl, hp, hb2⟩; have HP2 := Lib.hid hp; have hql : ql ≤ 1000000000 := Nat.le_trans (hp.n32.len_le HLEN.out) (by omega); have HF2 := Lib.hid (HF1.out.later hb2); clear hb2 hp; have m0 : u2.cell? ⟨W.heap.size, 0, none⟩ = some (.bool na) := HF2.out.cell 0 0 rfl rfl; have m1 : u2.cell? ⟨W.heap.size, 1, none⟩ = some (.slice ao la ca) := HF2.out.cell 0 1 rfl rfl; have m2 : u2.cell? ⟨W.heap.size + 1, 0, none⟩ = some (.bool nb) := HF2.out.cell 1 0 rfl rfl; have m3 : u2.cell? ⟨W.heap.size + 1, 1, none⟩ = some (.slice bo lb cb) := HF2.out.cell 1 1 rfl rfl) | (go_at_call 80; refine ((fitting_any _ _ _ _ (x + -y) _ HP2.out hql).mono fun e w h => h.one).mono ?_; rintro e u3 ⟨neg, so, sl, sc, er, z', rfl, hz, hb3, hx⟩; have HF3 := Lib.hid (HF2.out.later hb3); have HZ := Lib.hid hz; have HX := Lib.hid hx; clear hb3 hz hx; have j0 : u3.cell? ⟨W.heap.size, 0, none⟩ = some (.bool na) := HF3.out.cell 0 0 rfl rfl; have j1 : u3.cell? ⟨W.heap.size, 1, none⟩ = some (.slice ao la ca) := HF3.out.cell 0 1 rfl rfl; have j2 : u3.cell? ⟨W.heap.size + 1, 0, none⟩ = some (.bool nb) := HF3.out.cell 1 0 rfl rfl; have j3 : u3.cell? ⟨W.heap.size + 1, 1, none⟩ = some (.slice bo lb cb) := HF3.out.cell 1 1 rfl rfl; have g0 : u3.cell? ⟨W.heap.size + 2, 0, none⟩ = some (.bool false) := HF3.out.cell 2 0 rfl rfl; have g1 : u3.cell? ⟨W.heap.size + 2, 1, none⟩ = some (.slice none 0 0) := HF3.out.cell 2 1 rfl rfl; have g2 : u3.frozen? ⟨W.heap.size + 2, 0, none⟩ = false := HF3.out.frozen 2 0 rfl; have g3 : u3.frozen? ⟨W.heap.size + 2, 1, none⟩ = false := HF3.out.frozen 2 1 rfl))
  go_wp2
  obtain ⟨e0, e1, hz, hbel, _⟩ := HF3.out.finI (cap := sc) 2 rfl HZ.out
  exact bodyPost_ret (v := .tuple #[.agg #[.bool neg, .slice so sl sc], .int .i64 er]) (by simp [results, Try.results36, go_sem, e0, e1]) rfl (OutF1.two ⟨neg, so, sl, sc, er, z', rfl, hz, hbel, HX.out⟩)

theorem cmpN_sub (m n : Nat) : cmpN m n = ((m : Int) - (n : Int)).sign := by
  rcases Nat.lt_trichotomy m n with h | h | h
  · rw [cmpN_lt h, Int.sign_eq_neg_one_of_neg (by omega)]
  · rw [cmpN_eq h, h]; simp
  · rw [cmpN_gt h, Int.sign_eq_one_of_pos (by omega)]

set_option maxHeartbeats 1000000 in
theorem cmpI_any (na nb : Bool) (ao bo : Option Addr) (la lb ca cb : Nat) (x y : Int) (W : World) (ha : Z32 W na ao la x) (hb : Z32 W nb bo lb y) (hla : la ≤ 1000000000) (hlb : lb ≤ 1000000000) :
    Calls Try.prog 37 #[.agg #[.bool na, .slice ao la ca], .agg #[.bool nb, .slice bo lb cb]] W (fun e w' => e = .returned (.int .i64 (x - y).sign) ∧ Below W.heap.size W w') := by
  have hf : Fr W ((W.alloc (.cells #[.bool na, .slice ao la ca] 24)).alloc (.cells #[.bool nb, .slice bo lb cb] 24))
      [(24, #[.bool na, .slice ao la ca]), (24, #[.bool nb, .slice bo lb cb])] := ((Fr.nil W).alloc rfl _ _).alloc (by simp) _ _
  obtain ⟨m, hm, rfl, hpm⟩ := ha
  obtain ⟨n, hn, rfl, hpn⟩ := hb
  have HM := Lib.hid (hm.keep hf.below)
  have HN := Lib.hid (hn.keep hf.below)
  have HF := Lib.hid hf
  have HPM := Lib.hid hpm
  have HPN := Lib.hid hpn
  clear hm hn hf hpm hpn
  cases na <;> cases nb
  · have HE : Hid ((sgn false m - sgn false n).sign = cmpN m n) := by show _ = _; rw [cmpN_sub]; congr 1 <;> (simp [sgn]; omega)
    rw [HE.out]
    go_enter Try.func37, Try.ntmps37
    go_wp2_with fail
    refine (compare_any _ _ _ _ _ _ m n _ HM.out HN.out hla hlb).mono ?_
    rintro e w1 ⟨rfl, hd⟩
    have HF1 := Lib.hid (HF.out.later hd.below)
    clear hd
    go_wp2
    go_ret
    exact ⟨rfl, HF1.out.below⟩
  · have HE : Hid ((sgn false m - sgn true n).sign = 1) := by show _ = _; have := HPN.out rfl; rw [Int.sign_eq_one_of_pos]; simp [sgn]; omega
    rw [HE.out]
    go_enter Try.func37, Try.ntmps37
    go_wp2
    go_ret
    exact ⟨rfl, HF.out.below⟩
  · have HE : Hid ((sgn true m - sgn false n).sign = -1) := by show _ = _; have := HPM.out rfl; rw [Int.sign_eq_neg_one_of_neg]; simp [sgn]; omega
    rw [HE.out]
    go_enter Try.func37, Try.ntmps37
    go_wp2
    go_ret
    exact ⟨rfl, HF.out.below⟩
  · have HE : Hid ((sgn true m - sgn true n).sign = cmpN n m) := by show _ = _; rw [cmpN_sub]; congr 1 <;> (simp [sgn]; omega)
    rw [HE.out]
    go_enter Try.func37, Try.ntmps37
    go_wp2_with fail
    refine (compare_any _ _ _ _ _ _ n m _ HN.out HM.out hlb hla).mono ?_
    rintro e w1 ⟨rfl, hd⟩
    have HF1 := Lib.hid (HF.out.later hd.below)
    clear hd
    go_wp2
    go_ret
    exact ⟨rfl, HF1.out.below⟩
end Go.Proofs.Ytdnnjjclklcihaa

/- Texts: hasDigits, isPositive, isNumeral. -/
set_option linter.unusedVariables false
namespace Go.Proofs.Ytdnnjjclklcihaa
open Go.RowKit Go.Proofs

def isDig (c : UInt8) : Bool := decide (48 ≤ c.toNat) && decide (c.toNat ≤ 57)
def hasDigs (xs : List UInt8) : Bool := xs.all isDig && decide (xs ≠ [])

theorem all_take_succ {xs : List UInt8} {i : Nat} (hi : i < xs.length) (h : (xs.take i).all isDig = true) (hd : isDig xs[i] = true) : (xs.take (i + 1)).all isDig = true := by
  rw [List.take_succ_eq_append_getElem hi, List.all_append, h]
  simp [hd]

theorem hasDigs_false {xs : List UInt8} {i : Nat} (hi : i < xs.length) (hd : isDig xs[i] = false) : hasDigs xs = false := by
  unfold hasDigs
  rw [Bool.and_eq_false_iff]
  left
  rw [List.all_eq_false]
  exact ⟨xs[i], List.getElem_mem hi, by simp [hd]⟩

theorem str_size (xs : List UInt8) : (⟨xs.toArray⟩ : ByteArray).size = xs.length := by simp [ByteArray.size]
theorem str_get (xs : List UInt8) (i : Nat) (hi : i < xs.length) (h : i < (⟨xs.toArray⟩ : ByteArray).size) : (⟨xs.toArray⟩ : ByteArray)[i]'h = xs[i] := rfl

set_option maxHeartbeats 400000 in
theorem hasDigits_any (xs : List UInt8) (w : World) (hl : xs.length ≤ 1000000000) :
    Calls Try.prog 126 #[.string ⟨xs.toArray⟩] w fun e w' => e = .returned (.bool (hasDigs xs)) ∧ w = w' := by
  go_enter Try.func126, Try.ntmps126
  go_wp2
  go_loop [3] (fun t => ∃ i : Nat, i ≤ xs.length ∧ t = .int .i64 i ∧ (xs.take i).all isDig = true) (fun t => xs.length - (intOf t).toNat)
  case atStart => exact ⟨0, by omega, rfl, by simp⟩
  case round =>
    obtain ⟨i, hi, rfl, hall⟩ := hrel
    have HA := Lib.hid hall
    clear hall
    by_cases hil : i < xs.length
    · have t1 : (i : Int) < (xs.length : Int) := by omega
      have hs : i < (⟨xs.toArray⟩ : ByteArray).size := by rw [str_size]; exact hil
      obtain ⟨c, hc⟩ : ∃ c : Nat, c = xs[i].toNat := ⟨_, rfl⟩
      have hc2 : ((⟨xs.toArray⟩ : ByteArray)[i]'hs).toNat = c := hc.symm
      have HC := Lib.hid hc
      clear hc
      by_cases h1 : c < 48
      · have t2 : ¬ (48 : Int) ≤ ((((⟨xs.toArray⟩ : ByteArray)[i]'hs).toNat : Nat) : Int) := by rw [hc2]; omega
        have HX : Hid (hasDigs xs = false) := hasDigs_false hil (by unfold isDig; rw [← HC.out]; simp; omega)
        clear hc2
        go_wp2
        go_ret
        exact ⟨ret_bool HX.out.symm, rfl⟩
      · have t2 : (48 : Int) ≤ ((((⟨xs.toArray⟩ : ByteArray)[i]'hs).toNat : Nat) : Int) := by rw [hc2]; omega
        by_cases h2 : c ≤ 57
        · have t3 : ((((⟨xs.toArray⟩ : ByteArray)[i]'hs).toNat : Nat) : Int) ≤ 57 := by rw [hc2]; omega
          have HX : Hid (isDig xs[i] = true) := by show _ = _; unfold isDig; rw [← HC.out]; simp; omega
          clear hc2
          go_wp2
          go_round
          case rel => exact ⟨i + 1, by omega, by go_num, all_take_succ hil HA.out HX.out⟩
          case measure => simp [intOf]; omega
        · have t3 : ¬ ((((⟨xs.toArray⟩ : ByteArray)[i]'hs).toNat : Nat) : Int) ≤ 57 := by rw [hc2]; omega
          have HX : Hid (hasDigs xs = false) := hasDigs_false hil (by unfold isDig; rw [← HC.out]; simp; omega)
          clear hc2
          go_wp2
          go_ret
          exact ⟨ret_bool HX.out.symm, rfl⟩
    · have t1 : ¬ (i : Int) < (xs.length : Int) := by omega
      have HX : Hid (xs.all isDig = true) := by
        show _ = _
        have := HA.out
        rwa [List.take_of_length_le (by omega)] at this
      go_wp2
      go_ret
      refine ⟨ret_bool ?_, rfl⟩
      unfold hasDigs
      rw [HX.out]
      cases xs <;> simp

def isPos (xs : List UInt8) : Bool := hasDigs xs && decide (xs.head? ≠ some 48)

theorem hasDigs_ne {xs : List UInt8} (h : hasDigs xs = true) : xs ≠ [] := by
  unfold hasDigs at h
  simp at h
  exact h.2

set_option maxHeartbeats 400000 in
theorem isPositive_any (xs : List UInt8) (w : World) (hl : xs.length ≤ 1000000000) :
    Calls Try.prog 103 #[.string ⟨xs.toArray⟩] w fun e w' => e = .returned (.bool (isPos xs)) ∧ w = w' := by
  cases h : hasDigs xs with
  | false =>
    have HE : Hid (isPos xs = false) := by show _ = _; unfold isPos; rw [h]; rfl
    rw [HE.out]
    go_enter Try.func103, Try.ntmps103
    go_wp2_with fail
    refine (hasDigits_any xs _ hl).mono ?_
    rw [h]
    rintro e w1 ⟨rfl, rfl⟩
    clear h
    go_wp2
    go_ret
    exact ⟨rfl, rfl⟩
  | true =>
    obtain ⟨x, t, rfl⟩ : ∃ x t, xs = x :: t := by
      cases xs with
      | nil => exact absurd rfl (hasDigs_ne h)
      | cons x t => exact ⟨x, t, rfl⟩
    go_enter Try.func103, Try.ntmps103
    go_wp2_with fail
    refine (hasDigits_any _ _ hl).mono ?_
    rw [h]
    rintro e w1 ⟨rfl, rfl⟩
    have H := Lib.hid h
    clear h
    go_wp2
    go_ret
    refine ⟨ret_bool ?_, rfl⟩
    unfold isPos
    rw [H.out]
    show (((x.toNat : Nat) : Int) != 48) = _
    by_cases hx : x = 48
    · subst hx; rfl
    · have : x.toNat ≠ 48 := fun h => hx (UInt8.toNat_inj.1 h)
      simp [hx]
      omega

def isNum (xs : List UInt8) : Bool := decide (xs = [48]) || isPos (Lib.trimPrefix xs [45])

set_option maxHeartbeats 400000 in
theorem isNumeral_any (xs : List UInt8) (w : World) (hl : xs.length ≤ 1000000000) :
    Calls Try.prog 70 #[.string ⟨xs.toArray⟩] w fun e w' => e = .returned (.bool (isNum xs)) ∧ w = w' := by
  by_cases h0 : xs = [48]
  · subst h0
    go_enter Try.func70, Try.ntmps70
    go_wp2
    go_ret
    exact ⟨rfl, rfl⟩
  · have HE : Hid (isNum xs = isPos (Lib.trimPrefix xs [45])) := by show _ = _; unfold isNum; rw [decide_eq_false h0]; rfl
    rw [HE.out]
    have hle := Lib.trimPrefix_le xs [45]
    go_enter Try.func70, Try.ntmps70
    go_wp2_with fail
    refine (Try.strings_TrimPrefix _ _ _).mono ?_
    rintro e w1 ⟨rfl, rfl⟩
    go_wp2_with fail
    refine (isPositive_any (Lib.trimPrefix xs [45]) _ (by omega)).mono ?_
    rintro e w1 ⟨rfl, rfl⟩
    have H0 := Lib.hid h0
    clear h0
    go_wp2
    go_ret
    refine ⟨ret_bool ?_, rfl⟩
    have : (xs == [48]) = false := by simpa using H0.out
    rw [this, Bool.false_or]
end Go.Proofs.Ytdnnjjclklcihaa

/- readDigits. -/
set_option linter.unusedVariables false
namespace Go.Proofs.Ytdnnjjclklcihaa
open Go.RowKit Go.Proofs

/-- the number of a row of decimal digits, the highest one first -/
def dec (xs : List UInt8) : Nat := xs.foldl (fun a c => 10 * a + (c.toNat - 48)) 0

theorem foldl_dec (xs : List UInt8) (a : Nat) : xs.foldl (fun a c => 10 * a + (c.toNat - 48)) a = a * 10 ^ xs.length + dec xs := by
  induction xs generalizing a with
  | nil => simp [dec]
  | cons x xs ih =>
    unfold dec
    simp only [List.foldl_cons, List.length_cons]
    rw [ih, ih (10 * 0 + (x.toNat - 48)), Nat.pow_succ]
    grind

theorem dec_append (xs ys : List UInt8) : dec (xs ++ ys) = dec xs * 10 ^ ys.length + dec ys := by
  unfold dec
  rw [List.foldl_append, foldl_dec]
  rfl

theorem dec_snoc (xs : List UInt8) (c : UInt8) : dec (xs ++ [c]) = 10 * dec xs + (c.toNat - 48) := by
  rw [dec_append]; simp [dec, Nat.mul_comm]

theorem dec_lt {xs : List UInt8} (h : xs.all isDig = true) : dec xs < 10 ^ xs.length := by
  obtain ⟨zs, rfl⟩ : ∃ zs, xs = zs.reverse := ⟨xs.reverse, by simp⟩
  induction zs with
  | nil => simp [dec]
  | cons c zs ih =>
    rw [List.reverse_cons] at h ⊢
    rw [List.all_append, Bool.and_eq_true] at h
    have h2 := h.2
    simp [isDig] at h2
    rw [dec_snoc, List.length_append, List.length_singleton, Nat.pow_succ]
    have := ih h.1
    omega

theorem dec_take_succ {xs : List UInt8} {i : Nat} (hi : i < xs.length) : dec (xs.take (i + 1)) = 10 * dec (xs.take i) + (xs[i].toNat - 48) := by
  rw [List.take_succ_eq_append_getElem hi, dec_snoc]

theorem pow10_le {i : Nat} (h : i ≤ 8) : 10 ^ i ≤ 100000000 := Nat.pow_le_pow_right (by decide) h

theorem str_drop (ys : List UInt8) (i : Nat) : (⟨ys.toArray⟩ : ByteArray).extract i ys.length = ⟨(ys.drop i).toArray⟩ := by
  apply ByteArray.ext
  rw [ByteArray.data_extract]
  simp
  rw [List.take_of_length_le (by simp)]

def strLen : Value → Nat
  | .string s => s.size
  | _ => 0

def RdRel (xs : List UInt8) (W : World) (sv dv : Value) (wr : World) : Prop :=
  ∃ (p n : Nat) (zs : List Nat), sv = .string ⟨(xs.drop p).toArray⟩ ∧ p ≤ xs.length ∧ Own .u32 wr W.heap.size 104 dv n zs ∧ Dig B32 zs ∧ Top zs ∧ n ≤ p ∧ val B32 zs = dec (xs.take p) ∧ Below W.heap.size W wr

set_option maxHeartbeats 1000000 in
theorem readDigits_any (xs : List UInt8) (W : World) (hl : xs.length ≤ 100000000) (hd : xs.all isDig = true) :
    Calls Try.prog 106 #[.string ⟨xs.toArray⟩] W (Out32 W (dec xs)) := by
  have HD := Lib.hid hd
  clear hd
  go_enter Try.func106, Try.ntmps106
  go_wp2
  go_loopw [0, 3] (fun sv dv wr => RdRel xs W sv dv wr) (fun sv _ _ => strLen sv)
  case atStart => exact ⟨0, 0, [], by simp, by omega, Own.nil _ _ _ _, Dig.nil _, Top.nil, by omega, rfl, Below.refl _ _⟩
  case round =>
    obtain ⟨p, n, zs, rfl, hp, hown, hdz, ht, hn, hv, hbel⟩ := hrel
    have HO := Lib.hid hown
    have HZ := Lib.hid hdz
    have HT := Lib.hid ht
    have HV := Lib.hid hv
    have HB := Lib.hid hbel
    clear hown hdz ht hv hbel
    obtain ⟨ys, hys⟩ : ∃ ys, ys = xs.drop p := ⟨_, rfl⟩
    rw [← hys]
    have hyl : ys.length = xs.length - p := by rw [hys]; simp
    have HYL := Lib.hid hyl
    have HYS := Lib.hid hys
    clear hys hyl
    have hyb : ys.length ≤ 100000000 := by have := HYL.out; omega
    have HDY : Hid (ys.all isDig = true) := by
      show _ = _
      have h := HD.out
      rw [← List.take_append_drop p xs, List.all_append, Bool.and_eq_true] at h
      rw [HYS.out]; exact h.2
    by_cases h0 : ys.length = 0
    · have hpl : p = xs.length := by have := HYL.out; omega
      have HPL := Lib.hid hpl
      clear hpl
      have t1 : ¬ (0 : Int) < (ys.length : Int) := by omega
      obtain ⟨ao, cap, rfl, hlc, hcm, hsl⟩ := HO.out.sl
      have HS := Lib.hid hsl
      clear hsl
      go_wp2
      go_ret
      exact ⟨ao, n, cap, rfl, ⟨zs, HS.out, HZ.out, HT.out, by rw [HV.out, HPL.out, List.take_length]⟩, HB.out⟩
    · have t1 : (0 : Int) < (ys.length : Int) := by omega
      obtain ⟨s, hs⟩ : ∃ s : Nat, s = (ys.length - 1) % 9 + 1 := ⟨_, rfl⟩
      have e1 : ((ys.length : Int) - 1) % 9 + 1 = (s : Int) := by omega
      have hs9 : s ≤ 9 := by omega
      have hs1 : 1 ≤ s := by omega
      have hsy : s ≤ ys.length := by omega
      have HE1 := Lib.hid e1
      clear e1 hs
      go_wp2_with fail
      rw [HE1.out]
      go_loop [5, 6, 17] (fun gv bv iv => ∃ i : Nat, i ≤ s ∧ iv = .int .i64 (i : Int) ∧ gv = .int .u32 ((dec (ys.take i) : Nat) : Int) ∧ bv = .int .u32 ((10 ^ i : Nat) : Int)) (fun gv bv iv => s - (intOf iv).toNat)
      case atStart => exact ⟨0, by omega, rfl, rfl, rfl⟩
      case round =>
        obtain ⟨i, hi, rfl, rfl, rfl⟩ := hrel
        obtain ⟨b, hb⟩ : ∃ b, b = 10 ^ i := ⟨_, rfl⟩
        obtain ⟨g, hg⟩ : ∃ g, g = dec (ys.take i) := ⟨_, rfl⟩
        have hgb : g < b := by
          have h := HDY.out
          rw [← List.take_append_drop i ys, List.all_append, Bool.and_eq_true] at h
          have := dec_lt h.1
          rw [List.length_take, Nat.min_eq_left (by omega)] at this
          omega
        rw [← hb, ← hg]
        by_cases hil : i = s
        · subst hil
          have t2 : ¬ (i : Int) < (i : Int) := by omega
          have hb0 : 0 < b := by rw [hb]; exact Nat.pow_pos (by decide)
          have hb9 : b ≤ 1000000000 := by rw [hb]; exact (Nat.pow_le_pow_right (by decide) hs9 : 10 ^ i ≤ 10 ^ 9)
          have HBE := Lib.hid hb
          have HGE := Lib.hid hg
          have hnn : n ≤ 1000000000 := by omega
          clear hb hg
          have t6 : (0 : Int) ≤ (i : Int) := by omega
          have t7 : (i : Int) ≤ (ys.length : Int) := by omega
          go_wp2_with fail
          refine (scale_any W.heap.size n _ zs _ _ b g _ HO.out HZ.out HT.out rfl rfl hb0 (by omega) (by omega) hnn HB.out.size).mono ?_
          rintro e w1 ⟨v', m, zs', rfl, hown', hd', hm, hv', ht', hb'⟩
          have J1 := Lib.hid hown'
          have J2 := Lib.hid hd'
          have J3 := Lib.hid hv'
          have J4 := Lib.hid ht'
          have J5 := Lib.hid hb'
          clear hown' hd' hv' ht' hb'
          go_wp2
          rw [str_drop]
          have hi1 : 1 ≤ i := by omega
          refine ⟨⟨p + i, m, zs', ?_, by have := HYL.out; omega, J1.out, J2.out, J4.out, by omega, ?_, HB.out.trans J5.out⟩, ?_⟩
          · rw [HYS.out, List.drop_drop]
          · rw [J3.out, List.take_add, dec_append, HV.out, HGE.out, ← HYS.out, HBE.out, List.length_take, Nat.min_eq_left (by omega), Nat.mul_comm]
          · simp only [strLen, str_size, List.length_drop]
            omega
        · have t2 : (i : Int) < (s : Int) := by omega
          have hb8 : b ≤ 100000000 := by rw [hb]; exact pow10_le (by omega)
          have hiy : i < ys.length := by omega
          have hss : i < (⟨ys.toArray⟩ : ByteArray).size := by rw [str_size]; exact hiy
          have t3 : (i : Int) < (ys.length : Int) := by omega
          have hdg : isDig ys[i] = true := List.all_eq_true.1 HDY.out _ (List.getElem_mem hiy)
          have hdg2 : 48 ≤ ys[i].toNat ∧ ys[i].toNat ≤ 57 := by simpa [isDig] using hdg
          obtain ⟨c, hc⟩ : ∃ c : Nat, c = ys[i].toNat := ⟨_, rfl⟩
          have hc2 : ((⟨ys.toArray⟩ : ByteArray)[i]'hss).toNat = c := hc.symm
          rw [← hc] at hdg2
          have HN : Hid (dec (ys.take (i + 1)) = 10 * g + (c - 48)) := by show _ = _; rw [dec_take_succ hiy, ← hg, ← hc]
          have HBI : Hid (10 ^ (i + 1) = 10 * b) := by show _ = _; rw [Nat.pow_succ, ← hb]; omega
          have t4 : (48 : Int) ≤ ((((⟨ys.toArray⟩ : ByteArray)[i]'hss).toNat : Nat) : Int) := by rw [hc2]; omega
          have t5 : ((((⟨ys.toArray⟩ : ByteArray)[i]'hss).toNat : Nat) : Int) ≤ 57 := by rw [hc2]; omega
          have HC2 := Lib.hid hc2
          clear hb hg hdg hc hc2
          go_wp2
          go_round
          case rel =>
            rw [HC2.out]
            exact ⟨i + 1, by omega, by go_num, by rw [HN.out]; exact congrArg (Value.int _) (by omega), by rw [HBI.out]; exact congrArg (Value.int _) (by omega)⟩
          case measure => simp [intOf]; omega
end Go.Proofs.Ytdnnjjclklcihaa

/- readNumeral, Parse. -/
set_option linter.unusedVariables false
namespace Go.Proofs.Ytdnnjjclklcihaa
open Go.RowKit Go.Proofs

def bare (xs : List UInt8) : List UInt8 := Lib.trimPrefix xs [45]
/-- the integer of a numeral -/
def numZ (xs : List UInt8) : Int := sgn (Lib.hasPrefix xs [45]) (dec (bare xs))

theorem dec_cons (x : UInt8) (t : List UInt8) : dec (x :: t) = (x.toNat - 48) * 10 ^ t.length + dec t := by
  show (t.foldl (fun a c => 10 * a + (c.toNat - 48)) (10 * 0 + (x.toNat - 48))) = _
  rw [foldl_dec]; simp

theorem isNum_digits {xs : List UInt8} (h : isNum xs = true) : (bare xs).all isDig = true := by
  unfold isNum at h
  rw [Bool.or_eq_true] at h
  rcases h with h | h
  · have : xs = [48] := by simpa using h
    subst this; rfl
  · unfold isPos at h
    rw [Bool.and_eq_true] at h
    have h1 := h.1
    unfold hasDigs at h1
    rw [Bool.and_eq_true] at h1
    exact h1.1

theorem big_pow (n k : Nat) (hn : n = 4933) (h : n ≤ k) : 2 ^ 16384 ≤ 10 ^ k := by
  have h1 : 10 ^ n ≤ 10 ^ k := Nat.pow_le_pow_right (by decide) h
  have h2 : 2 ^ 16384 ≤ 10 ^ n := by subst hn; decide +kernel
  exact Nat.le_trans h2 h1

theorem isNum_long {xs : List UInt8} (h : isNum xs = true) (hl : 4933 < (bare xs).length) : ¬ Fits (numZ xs) := by
  unfold isNum at h
  rw [Bool.or_eq_true] at h
  rcases h with h | h
  · have : xs = [48] := by simpa using h
    subst this
    exact absurd hl (by decide)
  · unfold isPos at h
    rw [Bool.and_eq_true] at h
    have h1 := h.1
    unfold hasDigs at h1
    rw [Bool.and_eq_true] at h1
    have h2 := h.2
    unfold Fits numZ
    rw [sgn_natAbs]
    change (bare xs).all isDig = true ∧ _ at h1
    change decide ((bare xs).head? ≠ some 48) = true at h2
    cases hb : bare xs with
    | nil => rw [hb] at hl; simp at hl
    | cons x t =>
      rw [hb] at h1 h2 hl
      have h3 := h1.1
      rw [List.all_cons, Bool.and_eq_true] at h3
      have h4 : 48 ≤ x.toNat ∧ x.toNat ≤ 57 := by simpa [isDig] using h3.1
      have h5 : x ≠ 48 := by simpa using h2
      have h6 : x.toNat ≠ 48 := fun e => h5 (UInt8.toNat_inj.1 e)
      have h10 : 4933 ≤ t.length := by rw [List.length_cons] at hl; omega
      intro hbl
      have hlt := blen_le.1 hbl
      rw [dec_cons] at hlt
      have h7 : 1 * 10 ^ t.length ≤ (x.toNat - 48) * 10 ^ t.length := Nat.mul_le_mul_right _ (by omega)
      have h8 := big_pow 4933 t.length rfl h10
      have : (2 ^ 16384 : Nat) < 2 ^ 16384 := Nat.lt_of_le_of_lt (Nat.le_trans h8 (by omega)) hlt
      exact Nat.lt_irrefl _ this

theorem dec_len {xs : List UInt8} (h : xs.all isDig = true) : dec xs < B32 ^ xs.length := Nat.lt_of_lt_of_le (dec_lt h) (Nat.pow_le_pow_left (by decide) _)

theorem cut_any (xs : List UInt8) (W : World) :
    Calls Try.prog 105 #[.string ⟨xs.toArray⟩, .string ⟨#[45]⟩] W fun e w' => e = .returned (.tuple #[.string ⟨(bare xs).toArray⟩, .bool (Lib.hasPrefix xs [45])]) ∧ w' = W := Try.strings_CutPrefix _ _ _

set_option maxHeartbeats 1000000 in
theorem readNumeral_any (xs : List UInt8) (W : World) (hl : xs.length ≤ 100000000) (hn : isNum xs = true) :
    Calls Try.prog 71 #[.string ⟨xs.toArray⟩] W (OutF W (numZ xs)) := by
  have hf : Fr W (W.alloc (.cells #[.bool false, .slice none 0 0] 24)) [(24, #[.bool false, .slice none 0 0])] := (Fr.nil W).alloc rfl _ _
  have HF := Lib.hid hf
  have HDG := Lib.hid (isNum_digits hn)
  have HLG := Lib.hid (fun h => isNum_long hn h)
  have hble : (bare xs).length ≤ xs.length := Lib.trimPrefix_le xs [45]
  obtain ⟨ys, hys⟩ : ∃ ys, ys = bare xs := ⟨_, rfl⟩
  obtain ⟨s, hs⟩ : ∃ s, s = Lib.hasPrefix xs [45] := ⟨_, rfl⟩
  have hz : numZ xs = sgn s (dec ys) := by unfold numZ; rw [hs, hys]
  rw [← hys] at HDG HLG hble
  rw [hz] at HLG ⊢
  have HS := Lib.hid hs
  have HYS := Lib.hid hys
  clear hf hn hz hs hys
  go_enter Try.func71, Try.ntmps71
  go_wp2_with fail
  refine (cut_any xs _).mono ?_
  rintro e w1 ⟨rfl, rfl⟩
  rw [← HYS.out, ← HS.out]
  by_cases hlong : 4933 < ys.length
  · have t1 : (4933 : Int) < (ys.length : Int) := by omega
    have HX := Lib.hid (HLG.out hlong)
    clear hlong
    go_wp2
    exact bodyPost_ret (v := .tuple #[.agg #[.bool false, .slice none 0 0], .int .i64 3]) (by simp [results, Try.results71, go_sem]) rfl (.inr ⟨HX.out, rfl, HF.out.below⟩)
  · have t1 : ¬ (4933 : Int) < (ys.length : Int) := by omega
    go_wp2_with fail
    refine (readDigits_any ys _ (by omega) HDG.out).mono ?_
    rintro e w1 ⟨ro, rl, rc, rfl, hr, hb1⟩
    have HF1 := Lib.hid (HF.out.later hb1)
    have HR := Lib.hid hr
    have hrl : rl ≤ 1000000000 := Nat.le_trans (hr.len_le (dec_len HDG.out)) (by omega)
    clear hr hb1
    go_wp2_with fail
    refine (signed_any s _ _ _ (dec ys) _ HR.out).mono ?_
    rintro e w2 ⟨s2, so, sl, sc, rfl, hz2, hb2⟩
    have HF2 := Lib.hid (HF1.out.later hb2)
    have HZ2 := Lib.hid hz2
    have hsl : sl ≤ 1000000000 := by
      have h1 := hz2.n32
      rw [sgn_natAbs] at h1
      exact Nat.le_trans (h1.len_le (dec_len HDG.out)) (by omega)
    clear hz2 hb2
    go_wp2_with fail
    refine ((fitting_any _ _ _ _ (sgn s (dec ys)) _ HZ2.out hsl).mono fun e w h => h.one).mono ?_
    rintro e w3 ⟨neg, fo, fl, fc, er, z', rfl, hz, hb3, hx⟩
    have HF3 := Lib.hid (HF2.out.later hb3)
    have HZ := Lib.hid hz
    have HX := Lib.hid hx
    clear hb3 hz hx
    have g0 : w3.cell? ⟨W.heap.size, 0, none⟩ = some (.bool false) := HF3.out.cell 0 0 rfl rfl
    have g1 : w3.cell? ⟨W.heap.size, 1, none⟩ = some (.slice none 0 0) := HF3.out.cell 0 1 rfl rfl
    have g2 : w3.frozen? ⟨W.heap.size, 0, none⟩ = false := HF3.out.frozen 0 0 rfl
    have g3 : w3.frozen? ⟨W.heap.size, 1, none⟩ = false := HF3.out.frozen 0 1 rfl
    go_wp2
    obtain ⟨e0, e1, hz, hbel, _⟩ := HF3.out.finI (cap := fc) 0 rfl HZ.out
    exact bodyPost_ret (v := .tuple #[.agg #[.bool neg, .slice fo fl fc], .int .i64 er]) (by simp only [Nat.add_zero] at e0 e1; simp [results, Try.results71, go_sem, e0, e1]) rfl (OutF1.two ⟨neg, fo, fl, fc, er, z', rfl, hz, hbel, HX.out⟩)

/-- what Parse answers: the integer, or 0 and the error of a text that is no numeral -/
def ParsePost (xs : List UInt8) (W : World) (e : Ending) (w' : World) : Prop :=
  (isNum xs = true ∧ OutF W (numZ xs) e w') ∨ (isNum xs = false ∧ e = .returned (.tuple #[.agg #[.bool false, .slice none 0 0], .int .i64 4]) ∧ Below W.heap.size W w')

set_option maxHeartbeats 1000000 in
theorem parse_any (xs : List UInt8) (W : World) (hl : xs.length ≤ 100000000) :
    Calls Try.prog 24 #[.string ⟨xs.toArray⟩] W (ParsePost xs W) := by
  have hf : Fr W (W.alloc (.cells #[.bool false, .slice none 0 0] 24)) [(24, #[.bool false, .slice none 0 0])] := (Fr.nil W).alloc rfl _ _
  have HF := Lib.hid hf
  clear hf
  go_enter Try.func24, Try.ntmps24
  go_wp2_with fail
  refine (isNumeral_any xs _ (by omega)).mono ?_
  rintro e w1 ⟨rfl, rfl⟩
  cases hn : isNum xs with
  | false =>
    have HX := Lib.hid hn
    clear hn
    go_wp2
    exact bodyPost_ret (v := .tuple #[.agg #[.bool false, .slice none 0 0], .int .i64 4]) (by simp [results, Try.results24, go_sem]) rfl (.inr ⟨HX.out, rfl, HF.out.below⟩)
  | true =>
    have HX := Lib.hid hn
    clear hn
    go_wp2_with fail
    refine ((readNumeral_any xs _ hl HX.out).mono fun e w h => h.one).mono ?_
    rintro e w3 ⟨neg, fo, fl, fc, er, z', rfl, hz, hb3, hx⟩
    have HF3 := Lib.hid (HF.out.later hb3)
    have HZ := Lib.hid hz
    have HY := Lib.hid hx
    clear hb3 hz hx
    have g0 : w3.cell? ⟨W.heap.size, 0, none⟩ = some (.bool false) := HF3.out.cell 0 0 rfl rfl
    have g1 : w3.cell? ⟨W.heap.size, 1, none⟩ = some (.slice none 0 0) := HF3.out.cell 0 1 rfl rfl
    have g2 : w3.frozen? ⟨W.heap.size, 0, none⟩ = false := HF3.out.frozen 0 0 rfl
    have g3 : w3.frozen? ⟨W.heap.size, 1, none⟩ = false := HF3.out.frozen 0 1 rfl
    go_wp2
    obtain ⟨e0, e1, hz, hbel, _⟩ := HF3.out.finI (cap := fc) 0 rfl HZ.out
    exact bodyPost_ret (v := .tuple #[.agg #[.bool neg, .slice fo fl fc], .int .i64 er]) (by simp only [Nat.add_zero] at e0 e1; simp [results, Try.results24, go_sem, e0, e1]) rfl (.inl ⟨HX.out, OutF1.two ⟨neg, fo, fl, fc, er, z', rfl, hz, hbel, HY.out⟩⟩)
end Go.Proofs.Ytdnnjjclklcihaa

/- The specification: numeral, parse. -/
set_option linter.unusedVariables false
namespace Go.Proofs.Ytdnnjjclklcihaa
open Go.RowKit Go.Proofs

def numB (xs : List UInt8) : Bool := hasDigs xs && (decide (xs.length = 1) || decide (xs.head? ≠ some 48))

set_option maxHeartbeats 800000 in
theorem numeral16_any (xs : List UInt8) (w : World) (hl : xs.length ≤ 1000000000) :
    Calls Try.prog 107 #[.string ⟨xs.toArray⟩] w fun e w' => e = .returned (.bool (numB xs)) ∧ w = w' := by
  by_cases hz : xs.length = 0
  · have : xs = [] := List.eq_nil_of_length_eq_zero hz
    subst this
    go_enter Try.func107, Try.ntmps107
    go_wp2
    go_ret
    exact ⟨rfl, rfl⟩
  · obtain ⟨x, t, rfl⟩ : ∃ x t, xs = x :: t := by
      cases xs with
      | nil => simp at hz
      | cons x t => exact ⟨x, t, rfl⟩
    clear hz
    obtain ⟨xs, hxs⟩ : ∃ xs, xs = x :: t := ⟨_, rfl⟩
    rw [← hxs] at hl ⊢
    have hlen : xs.length = t.length + 1 := by rw [hxs]; rfl
    have h00 : 0 < xs.length := by omega
    have hx0 : xs[0]'h00 = x := by subst hxs; rfl
    have hhead : xs.head? = some x := by rw [hxs]; rfl
    have hs0 : 0 < (⟨xs.toArray⟩ : ByteArray).size := by rw [str_size]; exact h00
    have hc0 : ((⟨xs.toArray⟩ : ByteArray)[0]'hs0).toNat = x.toNat := congrArg UInt8.toNat hx0
    have HH := Lib.hid hhead
    clear hxs hhead hx0 hlen
    by_cases hbad : 1 < xs.length ∧ x.toNat = 48
    · have HE : Hid (numB xs = false) := by
        show _ = _
        unfold numB
        rw [HH.out, Bool.and_eq_false_iff]
        right
        have : x = 48 := UInt8.toNat_inj.1 hbad.2
        simp [this]
        omega
      have t1 : (1 : Int) < (xs.length : Int) := by omega
      have t0 : ¬ ((xs.length : Int) = 0) := by omega
      have t0b : ((xs.length : Int) == 0) = false := by simpa using t0
      have t0c : ¬ xs = [] := fun e => by rw [e] at h00; simp at h00
      have t2 : ((((⟨xs.toArray⟩ : ByteArray)[0]'hs0).toNat : Nat) : Int) = 48 := by rw [hc0]; omega
      have t3 : (((((⟨xs.toArray⟩ : ByteArray)[0]'hs0).toNat : Nat) : Int) == 48) = true := by rw [hc0, hbad.2]; rfl
      clear hbad hc0
      rw [HE.out]
      go_enter Try.func107, Try.ntmps107
      go_wp2
      go_ret
      exact ⟨rfl, rfl⟩
    · have HFA : Hid (hasDigs xs = false → numB xs = false) := fun h => by unfold numB; rw [h]; rfl
      have HTR : Hid (xs.all isDig = true → numB xs = true) := fun h => by
        unfold numB hasDigs
        rw [h, HH.out]
        have hne : xs ≠ [] := fun e => by rw [e] at h00; simp at h00
        by_cases h1 : xs.length = 1
        · simp [h1, hne]
        · have : x ≠ 48 := fun e => hbad ⟨by omega, by rw [e]; rfl⟩
          simp [hne, this]
      have t0 : ¬ ((xs.length : Int) = 0) := by omega
      have t0b : ((xs.length : Int) == 0) = false := by simpa using t0
      have t0c : ¬ xs = [] := fun e => by rw [e] at h00; simp at h00
      have hcase : xs.length = 1 ∨ (1 < xs.length ∧ x.toNat ≠ 48) := by omega
      clear hbad
      rcases hcase with h1 | ⟨h1, h2⟩
      · have t1 : ¬ (1 : Int) < (xs.length : Int) := by omega
        clear hc0
        go_enter Try.func107, Try.ntmps107
        go_wp2
        go_loop [3] (fun t => ∃ i : Nat, i ≤ xs.length ∧ t = .int .i64 i ∧ (xs.take i).all isDig = true) (fun t => xs.length - (intOf t).toNat)
        case atStart => exact ⟨0, by omega, rfl, by simp⟩
        case round =>
          obtain ⟨i, hi, rfl, hall⟩ := hrel
          have HA := Lib.hid hall
          clear hall
          by_cases hil : i < xs.length
          · have t1 : (i : Int) < (xs.length : Int) := by omega
            have hs : i < (⟨xs.toArray⟩ : ByteArray).size := by rw [str_size]; exact hil
            obtain ⟨c, hc⟩ : ∃ c : Nat, c = xs[i].toNat := ⟨_, rfl⟩
            have hc2 : ((⟨xs.toArray⟩ : ByteArray)[i]'hs).toNat = c := hc.symm
            have HC := Lib.hid hc
            clear hc
            by_cases h1 : c < 48
            · have t2 : ¬ (48 : Int) ≤ ((((⟨xs.toArray⟩ : ByteArray)[i]'hs).toNat : Nat) : Int) := by rw [hc2]; omega
              have HX : Hid (numB xs = false) := HFA.out (hasDigs_false hil (by unfold isDig; rw [← HC.out]; simp; omega))
              clear hc2
              go_wp2
              go_ret
              exact ⟨ret_bool HX.out.symm, rfl⟩
            · have t2 : (48 : Int) ≤ ((((⟨xs.toArray⟩ : ByteArray)[i]'hs).toNat : Nat) : Int) := by rw [hc2]; omega
              by_cases h2 : c ≤ 57
              · have t3 : ((((⟨xs.toArray⟩ : ByteArray)[i]'hs).toNat : Nat) : Int) ≤ 57 := by rw [hc2]; omega
                have HX : Hid (isDig xs[i] = true) := by show _ = _; unfold isDig; rw [← HC.out]; simp; omega
                clear hc2
                go_wp2
                go_round
                case rel => exact ⟨i + 1, by omega, by go_num, by first | exact all_take_succ hil HA.out HX.out | exact List.all_eq_true.1 (all_take_succ hil HA.out HX.out)⟩
                case measure => simp [intOf]; omega
              · have t3 : ¬ ((((⟨xs.toArray⟩ : ByteArray)[i]'hs).toNat : Nat) : Int) ≤ 57 := by rw [hc2]; omega
                have HX : Hid (numB xs = false) := HFA.out (hasDigs_false hil (by unfold isDig; rw [← HC.out]; simp; omega))
                clear hc2
                go_wp2
                go_ret
                exact ⟨ret_bool HX.out.symm, rfl⟩
          · have t1 : ¬ (i : Int) < (xs.length : Int) := by omega
            have HX : Hid (numB xs = true) := by
              show _ = _
              have := HA.out
              rw [List.take_of_length_le (by omega)] at this
              exact HTR.out this
            go_wp2
            go_ret
            exact ⟨ret_bool HX.out.symm, rfl⟩
      · have t1 : (1 : Int) < (xs.length : Int) := by omega
        have t2 : ¬ ((((⟨xs.toArray⟩ : ByteArray)[0]'hs0).toNat : Nat) : Int) = 48 := by rw [hc0]; omega
        clear hc0 h2
        go_enter Try.func107, Try.ntmps107
        go_wp2
        go_loop [3] (fun t => ∃ i : Nat, i ≤ xs.length ∧ t = .int .i64 i ∧ (xs.take i).all isDig = true) (fun t => xs.length - (intOf t).toNat)
        case atStart => exact ⟨0, by omega, rfl, by simp⟩
        case round =>
          obtain ⟨i, hi, rfl, hall⟩ := hrel
          have HA := Lib.hid hall
          clear hall
          by_cases hil : i < xs.length
          · have t1 : (i : Int) < (xs.length : Int) := by omega
            have hs : i < (⟨xs.toArray⟩ : ByteArray).size := by rw [str_size]; exact hil
            obtain ⟨c, hc⟩ : ∃ c : Nat, c = xs[i].toNat := ⟨_, rfl⟩
            have hc2 : ((⟨xs.toArray⟩ : ByteArray)[i]'hs).toNat = c := hc.symm
            have HC := Lib.hid hc
            clear hc
            by_cases h1 : c < 48
            · have t2 : ¬ (48 : Int) ≤ ((((⟨xs.toArray⟩ : ByteArray)[i]'hs).toNat : Nat) : Int) := by rw [hc2]; omega
              have HX : Hid (numB xs = false) := HFA.out (hasDigs_false hil (by unfold isDig; rw [← HC.out]; simp; omega))
              clear hc2
              go_wp2
              go_ret
              exact ⟨ret_bool HX.out.symm, rfl⟩
            · have t2 : (48 : Int) ≤ ((((⟨xs.toArray⟩ : ByteArray)[i]'hs).toNat : Nat) : Int) := by rw [hc2]; omega
              by_cases h2 : c ≤ 57
              · have t3 : ((((⟨xs.toArray⟩ : ByteArray)[i]'hs).toNat : Nat) : Int) ≤ 57 := by rw [hc2]; omega
                have HX : Hid (isDig xs[i] = true) := by show _ = _; unfold isDig; rw [← HC.out]; simp; omega
                clear hc2
                go_wp2
                go_round
                case rel => exact ⟨i + 1, by omega, by go_num, by first | exact all_take_succ hil HA.out HX.out | exact List.all_eq_true.1 (all_take_succ hil HA.out HX.out)⟩
                case measure => simp [intOf]; omega
              · have t3 : ¬ ((((⟨xs.toArray⟩ : ByteArray)[i]'hs).toNat : Nat) : Int) ≤ 57 := by rw [hc2]; omega
                have HX : Hid (numB xs = false) := HFA.out (hasDigs_false hil (by unfold isDig; rw [← HC.out]; simp; omega))
                clear hc2
                go_wp2
                go_ret
                exact ⟨ret_bool HX.out.symm, rfl⟩
          · have t1 : ¬ (i : Int) < (xs.length : Int) := by omega
            have HX : Hid (numB xs = true) := by
              show _ = _
              have := HA.out
              rw [List.take_of_length_le (by omega)] at this
              exact HTR.out this
            go_wp2
            go_ret
            exact ⟨ret_bool HX.out.symm, rfl⟩
end Go.Proofs.Ytdnnjjclklcihaa

/- The specification: parse. -/
set_option linter.unusedVariables false
namespace Go.Proofs.Ytdnnjjclklcihaa
open Go.RowKit Go.Proofs

def ParRel (xs : List UInt8) (W : World) (av iv : Value) (wr : World) : Prop :=
  ∃ (ao : Option Addr) (n cap i : Nat), av = .slice ao n cap ∧ iv = .int .i64 (i : Int) ∧ i ≤ xs.length ∧ n ≤ cap ∧ cap ≤ 9223372036854775807 ∧ N16 wr ao n (dec (xs.take i)) ∧ Below W.heap.size W wr

def ParIn (la d : Nat) (xa : List Nat) (W : World) (cv ov kv : Value) (wr : World) : Prop :=
  ∃ (c k : Nat) (zs : List Nat), cv = .int .i64 (c : Int) ∧ kv = .int .i64 (k : Int) ∧ Own .i64 wr W.heap.size 3 ov k zs ∧ Dig B16 zs ∧ c ≤ 10 ∧ k ≤ la + 1 ∧
    val B16 zs + c * B16 ^ k = d + 10 * val B16 (xa.take k) ∧ (la < k → c = 0 ∧ B16 ^ (k - 1) ≤ val B16 zs) ∧ Below W.heap.size W wr

theorem par_in {la d k c x : Nat} {xa zs : List Nat} {W wr w2 : World} {v' : Value} (hlz : zs.length = k) (hd : Dig B16 zs) (hc : c ≤ 10) (hk : k ≤ la) (hla : xa.length = la) (hx : x = xa[k]?.getD 0) (hxb : x < B16) (hgo : k < la ∨ 0 < c)
    (hv : val B16 zs + c * B16 ^ k = d + 10 * val B16 (xa.take k)) (hb : Below W.heap.size W wr) (ho : Own .i64 w2 W.heap.size 3 v' (k + 1) (zs ++ [(c + 10 * x) % B16])) (hb2 : Below W.heap.size wr w2)
    (C K : Int) (hC : C = (((c + 10 * x) / B16 : Nat) : Int)) (hK : K = (k : Int) + 1) : ParIn la d xa W (.int .i64 C) v' (.int .i64 K) w2 := by
  rw [B16_eq] at hxb
  have e := Nat.mod_add_div (c + 10 * x) B16
  refine ⟨(c + 10 * x) / B16, k + 1, zs ++ [(c + 10 * x) % B16], by rw [hC], by rw [hK]; rfl, ho, hd.append (Dig.cons (Nat.mod_lt _ B16_pos) (Dig.nil _)), by rw [B16_eq]; omega, by omega, ?_, ?_, hb.trans hb2⟩
  · rw [val_snoc, hlz, val_take_succ, ← hx, Nat.pow_succ]
    generalize (c + 10 * x) % B16 = r at *
    generalize (c + 10 * x) / B16 = q at *
    generalize B16 ^ k = p at *
    grind
  · intro h1
    have hx0 : x = 0 := by rw [hx, List.getElem?_eq_none (by omega)]; rfl
    subst hx0
    have hc0 : 0 < c := by omega
    refine ⟨by rw [B16_eq]; omega, ?_⟩
    rw [val_snoc, hlz]
    have : (c + 10 * 0) % B16 = c := by rw [B16_eq]; omega
    rw [this, Nat.add_sub_cancel]
    have : B16 ^ k * 1 ≤ B16 ^ k * c := Nat.mul_le_mul_left _ hc0
    omega

theorem par_top {la d k m : Nat} {xa zs : List Nat} (hlz : zs.length = k) (hd : Dig B16 zs) (hta : Top xa) (hla : xa.length = la) (hm : val B16 xa = m) (hk : la ≤ k) (hv : val B16 zs = d + 10 * m) (ht : la < k → B16 ^ (k - 1) ≤ val B16 zs) : Top zs := by
  refine top_of_ge B16_pos hd (fun hne => ?_)
  rw [hlz]
  by_cases h : la < k
  · exact ht h
  · have hk2 : k = la := by omega
    have hne2 : xa ≠ [] := fun e => by
      rw [e] at hla
      simp at hla
      exact hne (List.eq_nil_of_length_eq_zero (by omega))
    have := val_ge (B := B16) hta hne2
    rw [hla, hm] at this
    rw [hv, hk2]
    omega

/-- what parse answers -/
def Parse16Post (xs : List UInt8) (W : World) (e : Ending) (w' : World) : Prop :=
  ∃ ao len cap er, e = .returned (.tuple #[.slice ao len cap, .int .i64 er]) ∧ len ≤ cap ∧ cap ≤ 9223372036854775807 ∧ Below W.heap.size W w' ∧
    ((numB xs = false ∧ er = 4) ∨ (numB xs = true ∧ (5000 < xs.length ∨ 16384 < blen (dec xs)) ∧ er = 3) ∨
      (numB xs = true ∧ xs.length ≤ 5000 ∧ blen (dec xs) ≤ 16384 ∧ er = 0 ∧ N16 w' ao len (dec xs)))

theorem numB_digits {xs : List UInt8} (h : numB xs = true) : xs.all isDig = true := by
  unfold numB hasDigs at h
  simp only [Bool.and_eq_true] at h
  exact h.1.1

set_option maxHeartbeats 2000000 in
theorem parse16_any (xs : List UInt8) (W : World) (hl : xs.length ≤ 1000000000) :
    Calls Try.prog 72 #[.string ⟨xs.toArray⟩] W (Parse16Post xs W) := by
  cases hn : numB xs with
  | false =>
    have HX := Lib.hid hn
    go_enter Try.func72, Try.ntmps72
    go_wp2_with fail
    refine (numeral16_any xs _ hl).mono ?_
    rw [hn]
    rintro e w1 ⟨rfl, rfl⟩
    clear hn
    go_wp2
    go_ret2
    exact ⟨none, 0, 0, 4, rfl, by omega, by omega, Below.refl _ _, .inl ⟨HX.out, rfl⟩⟩
  | true =>
    have HX := Lib.hid hn
    have HDG := Lib.hid (numB_digits hn)
    by_cases hlong : 5000 < xs.length
    · have t1 : (5000 : Int) < (xs.length : Int) := by omega
      have HLG := Lib.hid hlong
      clear hlong
      go_enter Try.func72, Try.ntmps72
      go_wp2_with fail
      refine (numeral16_any xs _ hl).mono ?_
      rw [hn]
      rintro e w1 ⟨rfl, rfl⟩
      clear hn
      go_wp2
      go_ret2
      exact ⟨none, 0, 0, 3, rfl, by omega, by omega, Below.refl _ _, .inr (.inl ⟨HX.out, .inl HLG.out, rfl⟩)⟩
    · have t1 : ¬ (5000 : Int) < (xs.length : Int) := by omega
      have hl5 : xs.length ≤ 5000 := by omega
      clear hlong
      go_enter Try.func72, Try.ntmps72
      go_wp2_with fail
      refine (numeral16_any xs _ hl).mono ?_
      rw [hn]
      rintro e w1 ⟨rfl, rfl⟩
      clear hn
      go_wp2
      go_loopw [4, 5] (fun av iv wr => ParRel xs W av iv wr) (fun _ iv _ => xs.length - (intOf iv).toNat)
      case atStart => exact ⟨none, 0, 0, 0, rfl, rfl, by omega, by omega, by omega, N16.nil _ _, Below.refl _ _⟩
      case round =>
        obtain ⟨ao, la, ca, i, rfl, rfl, hi, hlc, hcm, hna, hbel⟩ := hrel
        obtain ⟨W1, rfl⟩ : ∃ w, w = wr := ⟨wr, rfl⟩
        have hall : (xs.take i).all isDig = true := by
          have h := HDG.out
          rw [← List.take_append_drop i xs, List.all_append, Bool.and_eq_true] at h
          exact h.1
        have hla5 : la ≤ 5000 := by
          have h1 := dec_lt hall
          rw [List.length_take, Nat.min_eq_left hi] at h1
          exact Nat.le_trans (hna.len_le (Nat.lt_of_lt_of_le h1 (Nat.pow_le_pow_left (by decide) _))) (by omega)
        obtain ⟨xa, hxa, hda, hta, hva⟩ := hna
        have HA := Lib.hid hxa
        have HDA := Lib.hid hda
        have HTA := Lib.hid hta
        have HVA := Lib.hid hva
        have HB := Lib.hid hbel
        clear hxa hda hta hva hbel hall
        by_cases hil : i = xs.length
        · have t2 : ¬ (i : Int) < (xs.length : Int) := by omega
          have hE : N16 W1 ao la (dec xs) := ⟨xa, HA.out, HDA.out, HTA.out, by rw [HVA.out, hil, List.take_length]⟩
          have HN := Lib.hid hE
          clear hE hil
          go_wp2_with fail
          refine (bitLen16_raw _ _ _ _ _ HN.out (by omega)).mono ?_
          rintro e w2 ⟨rfl, rfl⟩
          obtain ⟨k, hk⟩ : ∃ k, k = blen (dec xs) := ⟨_, rfl⟩
          rw [← hk]
          have HK := Lib.hid hk
          clear hk
          by_cases hfit : k ≤ 16384
          · have t3 : ¬ (16384 : Int) < (k : Int) := by omega
            go_wp2
            go_ret2
            exact ⟨ao, la, ca, 0, rfl, hlc, hcm, HB.out, .inr (.inr ⟨HX.out, hl5, by rw [← HK.out]; exact hfit, rfl, HN.out⟩)⟩
          · have t3 : (16384 : Int) < (k : Int) := by omega
            go_wp2
            go_ret2
            exact ⟨none, 0, 0, 3, rfl, by omega, by omega, HB.out, .inr (.inl ⟨HX.out, .inr (by rw [← HK.out]; omega), rfl⟩)⟩
        · have hiy : i < xs.length := by omega
          have t2 : (i : Int) < (xs.length : Int) := by omega
          have hss : i < (⟨xs.toArray⟩ : ByteArray).size := by rw [str_size]; exact hiy
          have hdg : isDig xs[i] = true := List.all_eq_true.1 HDG.out _ (List.getElem_mem hiy)
          have hdg2 : 48 ≤ xs[i].toNat ∧ xs[i].toNat ≤ 57 := by simpa [isDig] using hdg
          obtain ⟨c0, hc⟩ : ∃ c : Nat, c = xs[i].toNat := ⟨_, rfl⟩
          have hc2 : ((⟨xs.toArray⟩ : ByteArray)[i]'hss).toNat = c0 := hc.symm
          rw [← hc] at hdg2
          obtain ⟨m, hm⟩ : ∃ m, m = dec (xs.take i) := ⟨_, rfl⟩
          have HN : Hid (dec (xs.take (i + 1)) = 10 * m + (c0 - 48)) := by show _ = _; rw [dec_take_succ hiy, ← hm, ← hc]
          have HM : Hid (val B16 xa = m) := by show _ = _; rw [HVA.out, hm]
          have t4 : (48 : Int) ≤ ((((⟨xs.toArray⟩ : ByteArray)[i]'hss).toNat : Nat) : Int) := by rw [hc2]; omega
          have t5 : ((((⟨xs.toArray⟩ : ByteArray)[i]'hss).toNat : Nat) : Int) ≤ 57 := by rw [hc2]; omega
          have HC2 := Lib.hid hc2
          clear hm hdg hc hc2 hil
          obtain ⟨d, hd⟩ : ∃ d, d = c0 - 48 := ⟨_, rfl⟩
          have hd9 : d ≤ 9 := by omega
          have hcd : c0 = d + 48 := by omega
          subst hcd
          clear hd hdg2
          rw [Nat.add_sub_cancel] at HN
          go_wp2_with fail
          go_loopw [6, 7, 8] (fun cv ov kv w2 => ParIn la d xa W1 cv ov kv w2) (fun _ _ kv _ => la + 2 - (intOf kv).toNat)
          case atStart => exact ⟨d, 0, [], by rw [HC2.out]; exact congrArg (Value.int _) (by omega), rfl, Own.nil _ _ _ _, Dig.nil _, by omega, by omega, by simp [val], fun h => by omega, Below.refl _ _⟩
          case round =>
            obtain ⟨c, k, zs, rfl, rfl, hown, hdz, hc10, hk, hv, htop, hbel⟩ := hrel
            have GO := Lib.hid hown
            have GD := Lib.hid hdz
            have GV := Lib.hid hv
            have GT := Lib.hid htop
            have GW := Lib.hid hbel
            clear hown hdz hv htop hbel
            by_cases hgo : k < la ∨ 0 < c
            · have hkl : k ≤ la := by
                rcases Nat.lt_or_ge la k with h | h
                · have := (GT.out h).1
                  omega
                · exact h
              have hx := HDA.out.get B16_pos k
              obtain ⟨x, hxe⟩ : ∃ x, x = xa[k]?.getD 0 := ⟨_, rfl⟩
              rw [← hxe] at hx
              have HXB := Lib.hid hx
              rw [B16_eq] at hx
              have HXE := Lib.hid hxe
              have HAr := Lib.hid (HA.out.keep GW.out)
              clear hxe
              have hrest : k < la ∨ (¬ k < la ∧ 0 < c) := by omega
              rcases hrest with h1 | ⟨h1, h3⟩
              · have t6 : (k : Int) < (la : Int) := by omega
                go_wp2_with fail
                refine (at_any _ _ _ xa _ k _ HAr.out rfl).mono ?_
                rw [← HXE.out]
                rintro e w1 ⟨rfl, rfl⟩
                go_wp2_with (at_builtin; refine wpList_app rfl _ _ 26 rfl W1.heap.size 3 .i64 8 Try.underlying26 (by kernel_rfl) _ k zs rfl GO.out _ ((c + 10 * x) % B16) rfl (by rw [B16_eq]; omega) (by omega) (by omega) GW.out.size ?_; intro v' w2 hown' hbel')
                go_roundw
                case rel => exact par_in GO.out.len GD.out hc10 hkl HA.out.len HXE.out HXB.out hgo GV.out GW.out hown' hbel' _ _ (by rw [B16_eq]; omega) rfl
                case measure => simp only [intOf]; omega
              · have t6 : ¬ (k : Int) < (la : Int) := by omega
                have t7 : (0 : Int) < (c : Int) := by omega
                go_wp2_with fail
                refine (at_any _ _ _ xa _ k _ HAr.out rfl).mono ?_
                rw [← HXE.out]
                rintro e w1 ⟨rfl, rfl⟩
                go_wp2_with (at_builtin; refine wpList_app rfl _ _ 26 rfl W1.heap.size 3 .i64 8 Try.underlying26 (by kernel_rfl) _ k zs rfl GO.out _ ((c + 10 * x) % B16) rfl (by rw [B16_eq]; omega) (by omega) (by omega) GW.out.size ?_; intro v' w2 hown' hbel')
                go_roundw
                case rel => exact par_in GO.out.len GD.out hc10 hkl HA.out.len HXE.out HXB.out hgo GV.out GW.out hown' hbel' _ _ (by rw [B16_eq]; omega) rfl
                case measure => simp only [intOf]; omega
            · have t6 : ¬ (k : Int) < (la : Int) := by omega
              obtain rfl : c = 0 := by omega
              obtain ⟨oo, cap, rfl, hlc2, hcm2, hsl⟩ := GO.out.sl
              have HS := Lib.hid hsl
              have hval : val B16 zs = d + 10 * m := by
                have h := GV.out
                rw [List.take_of_length_le (l := xa) (by rw [HA.out.len]; omega), HM.out] at h
                omega
              have HVZ := Lib.hid hval
              have hla2 : la ≤ k := by omega
              clear hsl hval hgo
              go_wp2
              go_roundw
              case rel => exact ⟨oo, k, cap, i + 1, rfl, by go_num, by omega, hlc2, hcm2, ⟨zs, HS.out, GD.out, par_top GO.out.len GD.out HTA.out HA.out.len HM.out hla2 HVZ.out (fun h => (GT.out h).2), by rw [HVZ.out, HN.out]; omega⟩, HB.out.trans (GW.out.mono HB.out.size)⟩
              case measure => simp only [intOf]; omega
end Go.Proofs.Ytdnnjjclklcihaa
