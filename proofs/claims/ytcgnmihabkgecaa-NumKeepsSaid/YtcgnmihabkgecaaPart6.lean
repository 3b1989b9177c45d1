/- Part 6 of the contracts: IntA, IntB, Par, Read, Parse, RefP, RefQ, RefS, Law2, Numeral, Law3, Law4, RefT. -/
import Derived.Test.YtcgnmihabkgecaaPart5

/- fitting, Neg, Add, Sub, Mul, Cmp. -/
set_option linter.unusedVariables false
namespace Go.Proofs.Ytcgnmihabkgecaa
open Go.RowKit

/-- the integer fits -/
def Fits (z : Int) : Prop := blen z.natAbs ≤ 16384

/-- returned: the integer and no error, or, if it does not fit, 0 and the error -/
def OutF (W : World) (z : Int) (e : Ending) (w' : World) : Prop :=
  (Fits z ∧ ∃ neg ao len cap, e = .returned (.tuple #[.agg #[.bool neg, .slice ao len cap], .int .i64 0]) ∧ Z32 w' neg ao len z ∧ Below W.heap.size W w') ∨
  (¬ Fits z ∧ e = .returned (.tuple #[.agg #[.bool false, .slice none 0 0], .int .i64 3]) ∧ Below W.heap.size W w')

theorem Z32.nil (w : World) : Z32 w false none 0 0 := ⟨0, N32.nil _ _, rfl, by simp⟩

set_option maxHeartbeats 800000 in
theorem fitting_any (neg : Bool) (ao : Option Addr) (len cap : Nat) (z : Int) (W : World) (h : Z32 W neg ao len z) (hl : len ≤ 1000000000) :
    Calls Try.prog 22 #[.agg #[.bool neg, .slice ao len cap]] W (OutF W z) := by
  have hf : Fr W ((W.alloc (.cells #[.bool neg, .slice ao len cap] 27)).alloc (.cells #[.bool false, .slice none 0 0] 27))
      [(27, #[.bool neg, .slice ao len cap]), (27, #[.bool false, .slice none 0 0])] := ((Fr.nil W).alloc rfl _ _).alloc (by simp) _ _
  have HZ := Lib.hid (h.keep hf.below)
  have HF := Lib.hid hf
  clear h hf
  go_enter Try.func22, Try.ntmps22
  go_wp2_with fail
  refine (bitLen_any _ _ _ _ z _ HZ.out hl).mono ?_
  rintro e w1 ⟨rfl, hb1⟩
  have HF1 := Lib.hid (HF.out.later hb1)
  have HZ1 := Lib.hid (HZ.out.keep hb1)
  clear hb1
  have b0 : w1.cell? ⟨W.heap.size, 0, none⟩ = some (.bool neg) := HF1.out.cell 0 0 rfl rfl
  have b1 : w1.cell? ⟨W.heap.size, 1, none⟩ = some (.slice ao len cap) := HF1.out.cell 0 1 rfl rfl
  have g0 : w1.cell? ⟨W.heap.size + 1, 0, none⟩ = some (.bool false) := HF1.out.cell 1 0 rfl rfl
  have g1 : w1.cell? ⟨W.heap.size + 1, 1, none⟩ = some (.slice none 0 0) := HF1.out.cell 1 1 rfl rfl
  have g2 : w1.frozen? ⟨W.heap.size + 1, 0, none⟩ = false := HF1.out.frozen 1 0 rfl
  have g3 : w1.frozen? ⟨W.heap.size + 1, 1, none⟩ = false := HF1.out.frozen 1 1 rfl
  obtain ⟨k, hk⟩ : ∃ k, k = blen z.natAbs := ⟨_, rfl⟩
  rw [← hk]
  by_cases hfit : k ≤ 16384
  · have t1 : ¬ (16384 : Int) < (k : Int) := by omega
    have HX : Hid (Fits z) := by unfold Fits; rw [← hk]; exact hfit
    clear hk hfit
    go_wp2
    obtain ⟨e0, e1, hz, hbel, _⟩ := HF1.out.finI (cap := cap) 1 rfl HZ1.out
    exact bodyPost_ret (v := .tuple #[.agg #[.bool neg, .slice ao len cap], .int .i64 0]) (by simp [results, Try.results22, go_sem, e0, e1]) rfl (.inl ⟨HX.out, neg, ao, len, cap, rfl, hz, hbel⟩)
  · have t1 : (16384 : Int) < (k : Int) := by omega
    have HX : Hid (¬ Fits z) := by unfold Fits; rw [← hk]; exact hfit
    clear hk hfit
    go_wp2
    obtain ⟨e0, e1, hz, hbel, _⟩ := HF1.out.finI (cap := 0) 1 rfl (Z32.nil _)
    exact bodyPost_ret (v := .tuple #[.agg #[.bool false, .slice none 0 0], .int .i64 3]) (by simp [results, Try.results22, go_sem, e0, e1]) rfl (.inr ⟨HX.out, rfl, hbel⟩)

set_option maxHeartbeats 1000000 in
theorem neg_any (na : Bool) (ao : Option Addr) (la ca : Nat) (z : Int) (W : World) (h : Z32 W na ao la z) (hla : la ≤ 1000000000) :
    Calls Try.prog 11 #[.agg #[.bool na, .slice ao la ca]] W (OutI W (-z)) := by
  have hf : Fr W ((W.alloc (.cells #[.bool na, .slice ao la ca] 27)).alloc (.cells #[.bool false, .slice none 0 0] 27))
      [(27, #[.bool na, .slice ao la ca]), (27, #[.bool false, .slice none 0 0])] := ((Fr.nil W).alloc rfl _ _).alloc (by simp) _ _
  obtain ⟨n, hn, rfl, hp⟩ := h.keep hf.below
  have HN := Lib.hid hn
  clear h hn hp
  rw [sgn_neg]
  go_enter Try.func11, Try.ntmps11
  go_wp2_with fail
  obtain ⟨W3, hW3⟩ : ∃ W3, W3 = (W.alloc (.cells #[.bool na, .slice ao la ca] 27)).alloc (.cells #[.bool false, .slice none 0 0] 27) := ⟨_, rfl⟩
  rw [← hW3] at hf HN ⊢
  clear hW3
  have HF := Lib.hid hf
  clear hf
  have c0 : W3.cell? ⟨W.heap.size, 0, none⟩ = some (.bool na) := HF.out.cell 0 0 rfl rfl
  have c1 : W3.cell? ⟨W.heap.size, 1, none⟩ = some (.slice ao la ca) := HF.out.cell 0 1 rfl rfl
  go_region_held3 (fun w' => w'.cell? ⟨W.heap.size, 0, none⟩ = some (.bool na) ∧ w'.cell? ⟨W.heap.size, 1, none⟩ = some (.slice ao la ca)) (first | (go_keep; done) | ((try dsimp only); (repeat' apply And.intro) <;> (first | (go_keep; done) | (rw [cell_set2 _ _ _ _ _ _ (by omega)]; assumption))))
    (first | (go_at_call 29; refine (duplicate_n _ _ _ n W3.drew HN.out hla).mono ?_; rintro e u1 ⟨po, pc, rfl, hp, hb1⟩; have HB1 := Lib.hid (below_of_drew hb1); have HP := Lib.hid hp; have HF1 := Lib.hid (HF.out.later HB1.out); clear hb1 hp; have k0 : u1.cell? ⟨W.heap.size, 0, none⟩ = some (.bool na) := HF1.out.cell 0 0 rfl rfl; have k1 : u1.cell? ⟨W.heap.size, 1, none⟩ = some (.slice ao la ca) := HF1.out.cell 0 1 rfl rfl) | (go_at_call 28; refine (signed_any (!na) _ _ _ n _ HP.out).mono ?_; rintro e u2 ⟨neg, so, sl, sc, rfl, hz, hb2⟩; have HF2 := Lib.hid (HF1.out.later hb2); have HZ := Lib.hid hz; clear hb2 hz; have j0 : u2.cell? ⟨W.heap.size, 0, none⟩ = some (.bool na) := HF2.out.cell 0 0 rfl rfl; have j1 : u2.cell? ⟨W.heap.size, 1, none⟩ = some (.slice ao la ca) := HF2.out.cell 0 1 rfl rfl; have g0 : u2.cell? ⟨W.heap.size + 1, 0, none⟩ = some (.bool false) := HF2.out.cell 1 0 rfl rfl; have g1 : u2.cell? ⟨W.heap.size + 1, 1, none⟩ = some (.slice none 0 0) := HF2.out.cell 1 1 rfl rfl; have g2 : u2.frozen? ⟨W.heap.size + 1, 0, none⟩ = false := HF2.out.frozen 1 0 rfl; have g3 : u2.frozen? ⟨W.heap.size + 1, 1, none⟩ = false := HF2.out.frozen 1 1 rfl))
  go_wp2
  obtain ⟨e0, e1, hz, hbel, _⟩ := HF2.out.finI (cap := sc) 1 rfl HZ.out
  exact bodyPost_ret (v := .agg #[.bool neg, .slice so sl sc]) (by simp [results, Try.results11, go_sem, e0, e1]) rfl ⟨neg, so, sl, sc, rfl, hz, hbel⟩

theorem addI_len {x y : Int} {a b : Nat} (hx : x.natAbs < B32 ^ a) (hy : y.natAbs < B32 ^ b) : (x + y).natAbs < B32 ^ (a + b + 1) := by
  have h1 : B32 ^ a ≤ B32 ^ (a + b) := Nat.pow_le_pow_right B32_pos (by omega)
  have h2 : B32 ^ b ≤ B32 ^ (a + b) := Nat.pow_le_pow_right B32_pos (by omega)
  have h3 : B32 ^ (a + b + 1) = B32 ^ (a + b) * B32 := Nat.pow_succ ..
  rw [h3, B32_eq]
  rw [B32_eq] at hx hy h1 h2
  omega

set_option maxHeartbeats 1000000 in
theorem addI_any (na nb : Bool) (ao bo : Option Addr) (la lb ca cb : Nat) (x y : Int) (W : World) (ha : Z32 W na ao la x) (hb : Z32 W nb bo lb y) (hla : la ≤ 100000000) (hlb : lb ≤ 100000000) :
    Calls Try.prog 7 #[.agg #[.bool na, .slice ao la ca], .agg #[.bool nb, .slice bo lb cb]] W (OutF W (x + y)) := by
  have hf : Fr W (((W.alloc (.cells #[.bool na, .slice ao la ca] 27)).alloc (.cells #[.bool nb, .slice bo lb cb] 27)).alloc (.cells #[.bool false, .slice none 0 0] 27))
      [(27, #[.bool na, .slice ao la ca]), (27, #[.bool nb, .slice bo lb cb]), (27, #[.bool false, .slice none 0 0])] :=
    (((Fr.nil W).alloc rfl _ _).alloc (by simp) _ _).alloc (by simp) _ _
  have HLEN := Lib.hid (addI_len ha.natAbs_lt hb.natAbs_lt)
  have HA := Lib.hid (ha.keep hf.below)
  have HB := Lib.hid (hb.keep hf.below)
  have HF := Lib.hid hf
  clear ha hb hf
  go_enter Try.func7, Try.ntmps7
  go_wp2_with fail
  refine (plus_any _ _ _ _ _ _ _ _ x y _ HA.out HB.out (by omega) (by omega)).mono ?_
  rintro e w1 ⟨s1, o1, l1, c1, rfl, hz1, hb1⟩
  have HF1 := Lib.hid (HF.out.later hb1)
  have HZ1 := Lib.hid hz1
  have hl1 : l1 ≤ 1000000000 := Nat.le_trans (hz1.n32.len_le HLEN.out) (by omega)
  clear hz1 hb1
  go_wp2_with fail
  refine (fitting_any _ _ _ _ (x + y) _ HZ1.out hl1).mono ?_
  rintro e w2 (⟨hfit, neg, so, sl, sc, rfl, hz, hb2⟩ | ⟨hfit, rfl, hb2⟩)
  · have HF2 := Lib.hid (HF1.out.later hb2)
    have HX := Lib.hid hfit
    have HZ := Lib.hid hz
    clear hb2 hfit hz
    have g0 : w2.cell? ⟨W.heap.size + 2, 0, none⟩ = some (.bool false) := HF2.out.cell 2 0 rfl rfl
    have g1 : w2.cell? ⟨W.heap.size + 2, 1, none⟩ = some (.slice none 0 0) := HF2.out.cell 2 1 rfl rfl
    have g2 : w2.frozen? ⟨W.heap.size + 2, 0, none⟩ = false := HF2.out.frozen 2 0 rfl
    have g3 : w2.frozen? ⟨W.heap.size + 2, 1, none⟩ = false := HF2.out.frozen 2 1 rfl
    go_wp2
    obtain ⟨e0, e1, hz, hbel, _⟩ := HF2.out.finI (cap := sc) 2 rfl HZ.out
    exact bodyPost_ret (v := .tuple #[.agg #[.bool neg, .slice so sl sc], .int .i64 0]) (by simp [results, Try.results7, go_sem, e0, e1]) rfl (.inl ⟨HX.out, neg, so, sl, sc, rfl, hz, hbel⟩)
  · have HF2 := Lib.hid (HF1.out.later hb2)
    have HX := Lib.hid hfit
    clear hb2 hfit
    have g0 : w2.cell? ⟨W.heap.size + 2, 0, none⟩ = some (.bool false) := HF2.out.cell 2 0 rfl rfl
    have g1 : w2.cell? ⟨W.heap.size + 2, 1, none⟩ = some (.slice none 0 0) := HF2.out.cell 2 1 rfl rfl
    have g2 : w2.frozen? ⟨W.heap.size + 2, 0, none⟩ = false := HF2.out.frozen 2 0 rfl
    have g3 : w2.frozen? ⟨W.heap.size + 2, 1, none⟩ = false := HF2.out.frozen 2 1 rfl
    go_wp2
    obtain ⟨e0, e1, hz, hbel, _⟩ := HF2.out.finI (cap := 0) 2 rfl (Z32.nil _)
    exact bodyPost_ret (v := .tuple #[.agg #[.bool false, .slice none 0 0], .int .i64 3]) (by simp [results, Try.results7, go_sem, e0, e1]) rfl (.inr ⟨HX.out, rfl, hbel⟩)

theorem mulI_len {x y : Int} {a b : Nat} (hx : x.natAbs < B32 ^ a) (hy : y.natAbs < B32 ^ b) : (x * y).natAbs < B32 ^ (a + b + 1) := by
  rw [Int.natAbs_mul]
  have h1 : x.natAbs * y.natAbs < B32 ^ a * B32 ^ b := Nat.mul_lt_mul'' hx hy
  rw [← Nat.pow_add] at h1
  exact Nat.lt_of_lt_of_le h1 (Nat.pow_le_pow_right B32_pos (by omega))

set_option maxHeartbeats 1000000 in
theorem mulI_any (na nb : Bool) (ao bo : Option Addr) (la lb ca cb : Nat) (x y : Int) (W : World) (ha : Z32 W na ao la x) (hb : Z32 W nb bo lb y) (hla : la ≤ 100000000) (hlb : lb ≤ 100000000) :
    Calls Try.prog 8 #[.agg #[.bool na, .slice ao la ca], .agg #[.bool nb, .slice bo lb cb]] W (OutF W (x * y)) := by
  have hf : Fr W (((W.alloc (.cells #[.bool na, .slice ao la ca] 27)).alloc (.cells #[.bool nb, .slice bo lb cb] 27)).alloc (.cells #[.bool false, .slice none 0 0] 27))
      [(27, #[.bool na, .slice ao la ca]), (27, #[.bool nb, .slice bo lb cb]), (27, #[.bool false, .slice none 0 0])] :=
    (((Fr.nil W).alloc rfl _ _).alloc (by simp) _ _).alloc (by simp) _ _
  have HLEN := Lib.hid (mulI_len ha.natAbs_lt hb.natAbs_lt)
  have HA := Lib.hid (ha.keep hf.below)
  have HB := Lib.hid (hb.keep hf.below)
  have HF := Lib.hid hf
  clear ha hb hf
  go_enter Try.func8, Try.ntmps8
  go_wp2_with fail
  refine (times_any _ _ _ _ _ _ _ _ x y _ HA.out HB.out (by omega) (by omega)).mono ?_
  rintro e w1 ⟨s1, o1, l1, c1, rfl, hz1, hb1⟩
  have HF1 := Lib.hid (HF.out.later hb1)
  have HZ1 := Lib.hid hz1
  have hl1 : l1 ≤ 1000000000 := Nat.le_trans (hz1.n32.len_le HLEN.out) (by omega)
  clear hz1 hb1
  go_wp2_with fail
  refine (fitting_any _ _ _ _ (x * y) _ HZ1.out hl1).mono ?_
  rintro e w2 (⟨hfit, neg, so, sl, sc, rfl, hz, hb2⟩ | ⟨hfit, rfl, hb2⟩)
  · have HF2 := Lib.hid (HF1.out.later hb2)
    have HX := Lib.hid hfit
    have HZ := Lib.hid hz
    clear hb2 hfit hz
    have g0 : w2.cell? ⟨W.heap.size + 2, 0, none⟩ = some (.bool false) := HF2.out.cell 2 0 rfl rfl
    have g1 : w2.cell? ⟨W.heap.size + 2, 1, none⟩ = some (.slice none 0 0) := HF2.out.cell 2 1 rfl rfl
    have g2 : w2.frozen? ⟨W.heap.size + 2, 0, none⟩ = false := HF2.out.frozen 2 0 rfl
    have g3 : w2.frozen? ⟨W.heap.size + 2, 1, none⟩ = false := HF2.out.frozen 2 1 rfl
    go_wp2
    obtain ⟨e0, e1, hz, hbel, _⟩ := HF2.out.finI (cap := sc) 2 rfl HZ.out
    exact bodyPost_ret (v := .tuple #[.agg #[.bool neg, .slice so sl sc], .int .i64 0]) (by simp [results, Try.results8, go_sem, e0, e1]) rfl (.inl ⟨HX.out, neg, so, sl, sc, rfl, hz, hbel⟩)
  · have HF2 := Lib.hid (HF1.out.later hb2)
    have HX := Lib.hid hfit
    clear hb2 hfit
    have g0 : w2.cell? ⟨W.heap.size + 2, 0, none⟩ = some (.bool false) := HF2.out.cell 2 0 rfl rfl
    have g1 : w2.cell? ⟨W.heap.size + 2, 1, none⟩ = some (.slice none 0 0) := HF2.out.cell 2 1 rfl rfl
    have g2 : w2.frozen? ⟨W.heap.size + 2, 0, none⟩ = false := HF2.out.frozen 2 0 rfl
    have g3 : w2.frozen? ⟨W.heap.size + 2, 1, none⟩ = false := HF2.out.frozen 2 1 rfl
    go_wp2
    obtain ⟨e0, e1, hz, hbel, _⟩ := HF2.out.finI (cap := 0) 2 rfl (Z32.nil _)
    exact bodyPost_ret (v := .tuple #[.agg #[.bool false, .slice none 0 0], .int .i64 3]) (by simp [results, Try.results8, go_sem, e0, e1]) rfl (.inr ⟨HX.out, rfl, hbel⟩)

end Go.Proofs.Ytcgnmihabkgecaa

/- Sub, Cmp. -/
set_option linter.unusedVariables false
namespace Go.Proofs.Ytcgnmihabkgecaa
open Go.RowKit

/-- the same with one shape of the ending -/
def OutF1 (W : World) (z : Int) (e : Ending) (w' : World) : Prop :=
  ∃ neg ao len cap er z', e = .returned (.tuple #[.agg #[.bool neg, .slice ao len cap], .int .i64 er]) ∧ Z32 w' neg ao len z' ∧ Below W.heap.size W w' ∧
    ((Fits z ∧ er = 0 ∧ z' = z) ∨ (¬ Fits z ∧ er = 3 ∧ neg = false ∧ ao = none ∧ len = 0 ∧ cap = 0))

theorem OutF.one {W w' : World} {z : Int} {e : Ending} (h : OutF W z e w') : OutF1 W z e w' := by
  rcases h with ⟨h, neg, ao, len, cap, rfl, hz, hb⟩ | ⟨h, rfl, hb⟩
  · exact ⟨neg, ao, len, cap, 0, z, rfl, hz, hb, .inl ⟨h, rfl, rfl⟩⟩
  · exact ⟨false, none, 0, 0, 3, 0, rfl, Z32.nil _, hb, .inr ⟨h, rfl, rfl, rfl, rfl, rfl⟩⟩

theorem OutF1.two {W w' : World} {z : Int} {e : Ending} (h : OutF1 W z e w') : OutF W z e w' := by
  obtain ⟨neg, ao, len, cap, er, z', rfl, hz, hb, ⟨h, rfl, rfl⟩ | ⟨h, rfl, rfl, rfl, rfl, rfl⟩⟩ := h
  · exact .inl ⟨h, neg, ao, len, cap, rfl, hz, hb⟩
  · exact .inr ⟨h, rfl, hb⟩

set_option maxHeartbeats 2000000 in
theorem subI_any (na nb : Bool) (ao bo : Option Addr) (la lb ca cb : Nat) (x y : Int) (W : World) (ha : Z32 W na ao la x) (hb : Z32 W nb bo lb y) (hla : la ≤ 100000000) (hlb : lb ≤ 100000000) :
    Calls Try.prog 9 #[.agg #[.bool na, .slice ao la ca], .agg #[.bool nb, .slice bo lb cb]] W (OutF W (x - y)) := by
  have hf : Fr W (((W.alloc (.cells #[.bool na, .slice ao la ca] 27)).alloc (.cells #[.bool nb, .slice bo lb cb] 27)).alloc (.cells #[.bool false, .slice none 0 0] 27))
      [(27, #[.bool na, .slice ao la ca]), (27, #[.bool nb, .slice bo lb cb]), (27, #[.bool false, .slice none 0 0])] :=
    (((Fr.nil W).alloc rfl _ _).alloc (by simp) _ _).alloc (by simp) _ _
  have hy : (-y).natAbs < B32 ^ lb := by rw [Int.natAbs_neg]; exact hb.natAbs_lt
  have HY := Lib.hid hy
  have HLEN := Lib.hid (addI_len ha.natAbs_lt hy)
  have HA := Lib.hid (ha.keep hf.below)
  have HB := Lib.hid (hb.keep hf.below)
  clear ha hb hy
  rw [show x - y = x + -y from rfl]
  go_enter Try.func9, Try.ntmps9
  go_wp2_with fail
  obtain ⟨W3, hW3⟩ : ∃ W3, W3 = ((W.alloc (.cells #[.bool na, .slice ao la ca] 27)).alloc (.cells #[.bool nb, .slice bo lb cb] 27)).alloc (.cells #[.bool false, .slice none 0 0] 27) := ⟨_, rfl⟩
  rw [← hW3] at hf HA HB ⊢
  clear hW3
  have HF := Lib.hid hf
  clear hf
  have c0 : W3.cell? ⟨W.heap.size, 0, none⟩ = some (.bool na) := HF.out.cell 0 0 rfl rfl
  have c1 : W3.cell? ⟨W.heap.size, 1, none⟩ = some (.slice ao la ca) := HF.out.cell 0 1 rfl rfl
  have c2 : W3.cell? ⟨W.heap.size + 1, 0, none⟩ = some (.bool nb) := HF.out.cell 1 0 rfl rfl
  have c3 : W3.cell? ⟨W.heap.size + 1, 1, none⟩ = some (.slice bo lb cb) := HF.out.cell 1 1 rfl rfl
  go_region_held3 (fun w' => w'.cell? ⟨W.heap.size, 0, none⟩ = some (.bool na) ∧ w'.cell? ⟨W.heap.size, 1, none⟩ = some (.slice ao la ca) ∧ w'.cell? ⟨W.heap.size + 1, 0, none⟩ = some (.bool nb) ∧ w'.cell? ⟨W.heap.size + 1, 1, none⟩ = some (.slice bo lb cb)) (first | (go_keep; done) | ((try dsimp only); (repeat' apply And.intro) <;> (first | (go_keep; done) | (rw [cell_set2 _ _ _ _ _ _ (by omega)]; assumption))))
    (first | (go_at_call 11; refine (neg_any _ _ _ _ y W3.drew (HB.out.keep ((Below.refl _ _).drew)) (by omega)).mono ?_; rintro e u1 ⟨s1, po, pl, pc, rfl, hp, hb1⟩; have HB1 := Lib.hid (below_of_drew hb1); have HP := Lib.hid hp; have hpl : pl ≤ 100000000 := Nat.le_trans (hp.n32.len_le HY.out) hlb; have HF1 := Lib.hid (HF.out.later HB1.out); have HA1 := Lib.hid (HA.out.keep HB1.out); clear hb1 hp; have k0 : u1.cell? ⟨W.heap.size, 0, none⟩ = some (.bool na) := HF1.out.cell 0 0 rfl rfl; have k1 : u1.cell? ⟨W.heap.size, 1, none⟩ = some (.slice ao la ca) := HF1.out.cell 0 1 rfl rfl; have k2 : u1.cell? ⟨W.heap.size + 1, 0, none⟩ = some (.bool nb) := HF1.out.cell 1 0 rfl rfl; have k3 : u1.cell? ⟨W.heap.size + 1, 1, none⟩ = some (.slice bo lb cb) := HF1.out.cell 1 1 rfl rfl) | (go_at_call 23; refine (plus_any _ _ _ _ _ _ _ _ x (-y) _ HA1.out HP.out (by omega) (by omega)).mono ?_; rintro e u2 ⟨s2, qo, ql, qc, rfl, hp, hb2⟩; have HP2 := Lib.hid hp; have hql : ql ≤ 1000000000 := Nat.le_trans (hp.n32.len_le HLEN.out) (by omega); have HF2 := Lib.hid (HF1.out.later hb2); clear hb2 hp; have m0 : u2.cell? ⟨W.heap.size, 0, none⟩ = some (.bool na) := HF2.out.cell 0 0 rfl rfl; have m1 : u2.cell? ⟨W.heap.size, 1, none⟩ = some (.slice ao la ca) := HF2.out.cell 0 1 rfl rfl; have m2 : u2.cell? ⟨W.heap.size + 1, 0, none⟩ = some (.bool nb) := HF2.out.cell 1 0 rfl rfl; have m3 : u2.cell? ⟨W.heap.size + 1, 1, none⟩ = some (.slice bo lb cb) := HF2.out.cell 1 1 rfl rfl) | (go_at_call 22; refine ((fitting_any _ _ _ _ (x + -y) _ HP2.out hql).mono fun e w h => h.one).mono ?_; rintro e u3 ⟨neg, so, sl, sc, er, z', rfl, hz, hb3, hx⟩; have HF3 := Lib.hid (HF2.out.later hb3); have HZ := Lib.hid hz; have HX := Lib.hid hx; clear hb3 hz hx; have j0 : u3.cell? ⟨W.heap.size, 0, none⟩ = some (.bool na) := HF3.out.cell 0 0 rfl rfl; have j1 : u3.cell? ⟨W.heap.size, 1, none⟩ = some (.slice ao la ca) := HF3.out.cell 0 1 rfl rfl; have j2 : u3.cell? ⟨W.heap.size + 1, 0, none⟩ = some (.bool nb) := HF3.out.cell 1 0 rfl rfl; have j3 : u3.cell? ⟨W.heap.size + 1, 1, none⟩ = some (.slice bo lb cb) := HF3.out.cell 1 1 rfl rfl; have g0 : u3.cell? ⟨W.heap.size + 2, 0, none⟩ = some (.bool false) := HF3.out.cell 2 0 rfl rfl; have g1 : u3.cell? ⟨W.heap.size + 2, 1, none⟩ = some (.slice none 0 0) := HF3.out.cell 2 1 rfl rfl; have g2 : u3.frozen? ⟨W.heap.size + 2, 0, none⟩ = false := HF3.out.frozen 2 0 rfl; have g3 : u3.frozen? ⟨W.heap.size + 2, 1, none⟩ = false := HF3.out.frozen 2 1 rfl))
  go_wp2
  obtain ⟨e0, e1, hz, hbel, _⟩ := HF3.out.finI (cap := sc) 2 rfl HZ.out
  exact bodyPost_ret (v := .tuple #[.agg #[.bool neg, .slice so sl sc], .int .i64 er]) (by simp [results, Try.results9, go_sem, e0, e1]) rfl (OutF1.two ⟨neg, so, sl, sc, er, z', rfl, hz, hbel, HX.out⟩)

theorem cmpN_sub (m n : Nat) : cmpN m n = ((m : Int) - (n : Int)).sign := by
  rcases Nat.lt_trichotomy m n with h | h | h
  · rw [cmpN_lt h, Int.sign_eq_neg_one_of_neg (by omega)]
  · rw [cmpN_eq h, h]; simp
  · rw [cmpN_gt h, Int.sign_eq_one_of_pos (by omega)]

end Go.Proofs.Ytcgnmihabkgecaa

/- Texts: hasDigits, isPositive, isNumeral. -/
set_option linter.unusedVariables false
namespace Go.Proofs.Ytcgnmihabkgecaa
open Go.RowKit Go.Proofs

def isDig (c : UInt8) : Bool := decide (48 ≤ c.toNat) && decide (c.toNat ≤ 57)
def hasDigs (xs : List UInt8) : Bool := xs.all isDig && decide (xs ≠ [])

theorem all_take_succ {xs : List UInt8} {i : Nat} (hi : i < xs.length) (h : (xs.take i).all isDig = true) (hd : isDig xs[i] = true) : (xs.take (i + 1)).all isDig = true := by
  rw [List.take_succ_eq_append_getElem hi, List.all_append, h]
  simp [hd]

theorem hasDigs_false {xs : List UInt8} {i : Nat} (hi : i < xs.length) (hd : isDig xs[i] = false) : hasDigs xs = false := by
  unfold hasDigs
  rw [Bool.and_eq_false_iff]
  left
  rw [List.all_eq_false]
  exact ⟨xs[i], List.getElem_mem hi, by simp [hd]⟩

theorem str_size (xs : List UInt8) : (⟨xs.toArray⟩ : ByteArray).size = xs.length := by simp [ByteArray.size]
theorem str_get (xs : List UInt8) (i : Nat) (hi : i < xs.length) (h : i < (⟨xs.toArray⟩ : ByteArray).size) : (⟨xs.toArray⟩ : ByteArray)[i]'h = xs[i] := rfl

set_option maxHeartbeats 400000 in
theorem hasDigits_any (xs : List UInt8) (w : World) (hl : xs.length ≤ 1000000000) :
    Calls Try.prog 89 #[.string ⟨xs.toArray⟩] w fun e w' => e = .returned (.bool (hasDigs xs)) ∧ w = w' := by
  go_enter Try.func89, Try.ntmps89
  go_wp2
  go_loop [3] (fun t => ∃ i : Nat, i ≤ xs.length ∧ t = .int .i64 i ∧ (xs.take i).all isDig = true) (fun t => xs.length - (intOf t).toNat)
  case atStart => exact ⟨0, by omega, rfl, by simp⟩
  case round =>
    obtain ⟨i, hi, rfl, hall⟩ := hrel
    have HA := Lib.hid hall
    clear hall
    by_cases hil : i < xs.length
    · have t1 : (i : Int) < (xs.length : Int) := by omega
      have hs : i < (⟨xs.toArray⟩ : ByteArray).size := by rw [str_size]; exact hil
      obtain ⟨c, hc⟩ : ∃ c : Nat, c = xs[i].toNat := ⟨_, rfl⟩
      have hc2 : ((⟨xs.toArray⟩ : ByteArray)[i]'hs).toNat = c := hc.symm
      have HC := Lib.hid hc
      clear hc
      by_cases h1 : c < 48
      · have t2 : ¬ (48 : Int) ≤ ((((⟨xs.toArray⟩ : ByteArray)[i]'hs).toNat : Nat) : Int) := by rw [hc2]; omega
        have HX : Hid (hasDigs xs = false) := hasDigs_false hil (by unfold isDig; rw [← HC.out]; simp; omega)
        clear hc2
        go_wp2
        go_ret
        exact ⟨ret_bool HX.out.symm, rfl⟩
      · have t2 : (48 : Int) ≤ ((((⟨xs.toArray⟩ : ByteArray)[i]'hs).toNat : Nat) : Int) := by rw [hc2]; omega
        by_cases h2 : c ≤ 57
        · have t3 : ((((⟨xs.toArray⟩ : ByteArray)[i]'hs).toNat : Nat) : Int) ≤ 57 := by rw [hc2]; omega
          have HX : Hid (isDig xs[i] = true) := by show _ = _; unfold isDig; rw [← HC.out]; simp; omega
          clear hc2
          go_wp2
          go_round
          case rel => exact ⟨i + 1, by omega, by go_num, all_take_succ hil HA.out HX.out⟩
          case measure => simp [intOf]; omega
        · have t3 : ¬ ((((⟨xs.toArray⟩ : ByteArray)[i]'hs).toNat : Nat) : Int) ≤ 57 := by rw [hc2]; omega
          have HX : Hid (hasDigs xs = false) := hasDigs_false hil (by unfold isDig; rw [← HC.out]; simp; omega)
          clear hc2
          go_wp2
          go_ret
          exact ⟨ret_bool HX.out.symm, rfl⟩
    · have t1 : ¬ (i : Int) < (xs.length : Int) := by omega
      have HX : Hid (xs.all isDig = true) := by
        show _ = _
        have := HA.out
        rwa [List.take_of_length_le (by omega)] at this
      go_wp2
      go_ret
      refine ⟨ret_bool ?_, rfl⟩
      unfold hasDigs
      rw [HX.out]
      cases xs <;> simp

def isPos (xs : List UInt8) : Bool := hasDigs xs && decide (xs.head? ≠ some 48)

theorem hasDigs_ne {xs : List UInt8} (h : hasDigs xs = true) : xs ≠ [] := by
  unfold hasDigs at h
  simp at h
  exact h.2

set_option maxHeartbeats 400000 in
theorem isPositive_any (xs : List UInt8) (w : World) (hl : xs.length ≤ 1000000000) :
    Calls Try.prog 78 #[.string ⟨xs.toArray⟩] w fun e w' => e = .returned (.bool (isPos xs)) ∧ w = w' := by
  cases h : hasDigs xs with
  | false =>
    have HE : Hid (isPos xs = false) := by show _ = _; unfold isPos; rw [h]; rfl
    rw [HE.out]
    go_enter Try.func78, Try.ntmps78
    go_wp2_with fail
    refine (hasDigits_any xs _ hl).mono ?_
    rw [h]
    rintro e w1 ⟨rfl, rfl⟩
    clear h
    go_wp2
    go_ret
    exact ⟨rfl, rfl⟩
  | true =>
    obtain ⟨x, t, rfl⟩ : ∃ x t, xs = x :: t := by
      cases xs with
      | nil => exact absurd rfl (hasDigs_ne h)
      | cons x t => exact ⟨x, t, rfl⟩
    go_enter Try.func78, Try.ntmps78
    go_wp2_with fail
    refine (hasDigits_any _ _ hl).mono ?_
    rw [h]
    rintro e w1 ⟨rfl, rfl⟩
    have H := Lib.hid h
    clear h
    go_wp2
    go_ret
    refine ⟨ret_bool ?_, rfl⟩
    unfold isPos
    rw [H.out]
    show (((x.toNat : Nat) : Int) != 48) = _
    by_cases hx : x = 48
    · subst hx; rfl
    · have : x.toNat ≠ 48 := fun h => hx (UInt8.toNat_inj.1 h)
      simp [hx]
      omega

def isNum (xs : List UInt8) : Bool := decide (xs = [48]) || isPos (Lib.trimPrefix xs [45])

set_option maxHeartbeats 400000 in
theorem isNumeral_any (xs : List UInt8) (w : World) (hl : xs.length ≤ 1000000000) :
    Calls Try.prog 63 #[.string ⟨xs.toArray⟩] w fun e w' => e = .returned (.bool (isNum xs)) ∧ w = w' := by
  by_cases h0 : xs = [48]
  · subst h0
    go_enter Try.func63, Try.ntmps63
    go_wp2
    go_ret
    exact ⟨rfl, rfl⟩
  · have HE : Hid (isNum xs = isPos (Lib.trimPrefix xs [45])) := by show _ = _; unfold isNum; rw [decide_eq_false h0]; rfl
    rw [HE.out]
    have hle := Lib.trimPrefix_le xs [45]
    go_enter Try.func63, Try.ntmps63
    go_wp2_with fail
    refine (Try.strings_TrimPrefix _ _ _).mono ?_
    rintro e w1 ⟨rfl, rfl⟩
    go_wp2_with fail
    refine (isPositive_any (Lib.trimPrefix xs [45]) _ (by omega)).mono ?_
    rintro e w1 ⟨rfl, rfl⟩
    have H0 := Lib.hid h0
    clear h0
    go_wp2
    go_ret
    refine ⟨ret_bool ?_, rfl⟩
    have : (xs == [48]) = false := by simpa using H0.out
    rw [this, Bool.false_or]
end Go.Proofs.Ytcgnmihabkgecaa

/- readDigits. -/
set_option linter.unusedVariables false
namespace Go.Proofs.Ytcgnmihabkgecaa
open Go.RowKit Go.Proofs

/-- the number of a row of decimal digits, the highest one first -/
def dec (xs : List UInt8) : Nat := xs.foldl (fun a c => 10 * a + (c.toNat - 48)) 0

theorem foldl_dec (xs : List UInt8) (a : Nat) : xs.foldl (fun a c => 10 * a + (c.toNat - 48)) a = a * 10 ^ xs.length + dec xs := by
  induction xs generalizing a with
  | nil => simp [dec]
  | cons x xs ih =>
    unfold dec
    simp only [List.foldl_cons, List.length_cons]
    rw [ih, ih (10 * 0 + (x.toNat - 48)), Nat.pow_succ]
    grind

theorem dec_append (xs ys : List UInt8) : dec (xs ++ ys) = dec xs * 10 ^ ys.length + dec ys := by
  unfold dec
  rw [List.foldl_append, foldl_dec]
  rfl

theorem dec_snoc (xs : List UInt8) (c : UInt8) : dec (xs ++ [c]) = 10 * dec xs + (c.toNat - 48) := by
  rw [dec_append]; simp [dec, Nat.mul_comm]

theorem dec_lt {xs : List UInt8} (h : xs.all isDig = true) : dec xs < 10 ^ xs.length := by
  obtain ⟨zs, rfl⟩ : ∃ zs, xs = zs.reverse := ⟨xs.reverse, by simp⟩
  induction zs with
  | nil => simp [dec]
  | cons c zs ih =>
    rw [List.reverse_cons] at h ⊢
    rw [List.all_append, Bool.and_eq_true] at h
    have h2 := h.2
    simp [isDig] at h2
    rw [dec_snoc, List.length_append, List.length_singleton, Nat.pow_succ]
    have := ih h.1
    omega

theorem dec_take_succ {xs : List UInt8} {i : Nat} (hi : i < xs.length) : dec (xs.take (i + 1)) = 10 * dec (xs.take i) + (xs[i].toNat - 48) := by
  rw [List.take_succ_eq_append_getElem hi, dec_snoc]

theorem pow10_le {i : Nat} (h : i ≤ 8) : 10 ^ i ≤ 100000000 := Nat.pow_le_pow_right (by decide) h

theorem str_drop (ys : List UInt8) (i : Nat) : (⟨ys.toArray⟩ : ByteArray).extract i ys.length = ⟨(ys.drop i).toArray⟩ := by
  apply ByteArray.ext
  rw [ByteArray.data_extract]
  simp
  rw [List.take_of_length_le (by simp)]

def strLen : Value → Nat
  | .string s => s.size
  | _ => 0

def RdRel (xs : List UInt8) (W : World) (sv dv : Value) (wr : World) : Prop :=
  ∃ (p n : Nat) (zs : List Nat), sv = .string ⟨(xs.drop p).toArray⟩ ∧ p ≤ xs.length ∧ Own .u32 wr W.heap.size 61 dv n zs ∧ Dig B32 zs ∧ Top zs ∧ n ≤ p ∧ val B32 zs = dec (xs.take p) ∧ Below W.heap.size W wr

set_option maxHeartbeats 1000000 in
theorem readDigits_any (xs : List UInt8) (W : World) (hl : xs.length ≤ 100000000) (hd : xs.all isDig = true) :
    Calls Try.prog 81 #[.string ⟨xs.toArray⟩] W (Out32 W (dec xs)) := by
  have HD := Lib.hid hd
  clear hd
  go_enter Try.func81, Try.ntmps81
  go_wp2
  go_loopw [0, 3] (fun sv dv wr => RdRel xs W sv dv wr) (fun sv _ _ => strLen sv)
  case atStart => exact ⟨0, 0, [], by simp, by omega, Own.nil _ _ _ _, Dig.nil _, Top.nil, by omega, rfl, Below.refl _ _⟩
  case round =>
    obtain ⟨p, n, zs, rfl, hp, hown, hdz, ht, hn, hv, hbel⟩ := hrel
    have HO := Lib.hid hown
    have HZ := Lib.hid hdz
    have HT := Lib.hid ht
    have HV := Lib.hid hv
    have HB := Lib.hid hbel
    clear hown hdz ht hv hbel
    obtain ⟨ys, hys⟩ : ∃ ys, ys = xs.drop p := ⟨_, rfl⟩
    rw [← hys]
    have hyl : ys.length = xs.length - p := by rw [hys]; simp
    have HYL := Lib.hid hyl
    have HYS := Lib.hid hys
    clear hys hyl
    have hyb : ys.length ≤ 100000000 := by have := HYL.out; omega
    have HDY : Hid (ys.all isDig = true) := by
      show _ = _
      have h := HD.out
      rw [← List.take_append_drop p xs, List.all_append, Bool.and_eq_true] at h
      rw [HYS.out]; exact h.2
    by_cases h0 : ys.length = 0
    · have hpl : p = xs.length := by have := HYL.out; omega
      have HPL := Lib.hid hpl
      clear hpl
      have t1 : ¬ (0 : Int) < (ys.length : Int) := by omega
      obtain ⟨ao, cap, rfl, hlc, hcm, hsl⟩ := HO.out.sl
      have HS := Lib.hid hsl
      clear hsl
      go_wp2
      go_ret
      exact ⟨ao, n, cap, rfl, ⟨zs, HS.out, HZ.out, HT.out, by rw [HV.out, HPL.out, List.take_length]⟩, HB.out⟩
    · have t1 : (0 : Int) < (ys.length : Int) := by omega
      obtain ⟨s, hs⟩ : ∃ s : Nat, s = (ys.length - 1) % 9 + 1 := ⟨_, rfl⟩
      have e1 : ((ys.length : Int) - 1) % 9 + 1 = (s : Int) := by omega
      have hs9 : s ≤ 9 := by omega
      have hs1 : 1 ≤ s := by omega
      have hsy : s ≤ ys.length := by omega
      have HE1 := Lib.hid e1
      clear e1 hs
      go_wp2_with fail
      rw [HE1.out]
      go_loop [5, 6, 17] (fun gv bv iv => ∃ i : Nat, i ≤ s ∧ iv = .int .i64 (i : Int) ∧ gv = .int .u32 ((dec (ys.take i) : Nat) : Int) ∧ bv = .int .u32 ((10 ^ i : Nat) : Int)) (fun gv bv iv => s - (intOf iv).toNat)
      case atStart => exact ⟨0, by omega, rfl, rfl, rfl⟩
      case round =>
        obtain ⟨i, hi, rfl, rfl, rfl⟩ := hrel
        obtain ⟨b, hb⟩ : ∃ b, b = 10 ^ i := ⟨_, rfl⟩
        obtain ⟨g, hg⟩ : ∃ g, g = dec (ys.take i) := ⟨_, rfl⟩
        have hgb : g < b := by
          have h := HDY.out
          rw [← List.take_append_drop i ys, List.all_append, Bool.and_eq_true] at h
          have := dec_lt h.1
          rw [List.length_take, Nat.min_eq_left (by omega)] at this
          omega
        rw [← hb, ← hg]
        by_cases hil : i = s
        · subst hil
          have t2 : ¬ (i : Int) < (i : Int) := by omega
          have hb0 : 0 < b := by rw [hb]; exact Nat.pow_pos (by decide)
          have hb9 : b ≤ 1000000000 := by rw [hb]; exact (Nat.pow_le_pow_right (by decide) hs9 : 10 ^ i ≤ 10 ^ 9)
          have HBE := Lib.hid hb
          have HGE := Lib.hid hg
          have hnn : n ≤ 1000000000 := by omega
          clear hb hg
          have t6 : (0 : Int) ≤ (i : Int) := by omega
          have t7 : (i : Int) ≤ (ys.length : Int) := by omega
          go_wp2_with fail
          refine (scale_any W.heap.size n _ zs _ _ b g _ HO.out HZ.out HT.out rfl rfl hb0 (by omega) (by omega) hnn HB.out.size).mono ?_
          rintro e w1 ⟨v', m, zs', rfl, hown', hd', hm, hv', ht', hb'⟩
          have J1 := Lib.hid hown'
          have J2 := Lib.hid hd'
          have J3 := Lib.hid hv'
          have J4 := Lib.hid ht'
          have J5 := Lib.hid hb'
          clear hown' hd' hv' ht' hb'
          go_wp2
          rw [str_drop]
          have hi1 : 1 ≤ i := by omega
          refine ⟨⟨p + i, m, zs', ?_, by have := HYL.out; omega, J1.out, J2.out, J4.out, by omega, ?_, HB.out.trans J5.out⟩, ?_⟩
          · rw [HYS.out, List.drop_drop]
          · rw [J3.out, List.take_add, dec_append, HV.out, HGE.out, ← HYS.out, HBE.out, List.length_take, Nat.min_eq_left (by omega), Nat.mul_comm]
          · simp only [strLen, str_size, List.length_drop]
            omega
        · have t2 : (i : Int) < (s : Int) := by omega
          have hb8 : b ≤ 100000000 := by rw [hb]; exact pow10_le (by omega)
          have hiy : i < ys.length := by omega
          have hss : i < (⟨ys.toArray⟩ : ByteArray).size := by rw [str_size]; exact hiy
          have t3 : (i : Int) < (ys.length : Int) := by omega
          have hdg : isDig ys[i] = true := List.all_eq_true.1 HDY.out _ (List.getElem_mem hiy)
          have hdg2 : 48 ≤ ys[i].toNat ∧ ys[i].toNat ≤ 57 := by simpa [isDig] using hdg
          obtain ⟨c, hc⟩ : ∃ c : Nat, c = ys[i].toNat := ⟨_, rfl⟩
          have hc2 : ((⟨ys.toArray⟩ : ByteArray)[i]'hss).toNat = c := hc.symm
          rw [← hc] at hdg2
          have HN : Hid (dec (ys.take (i + 1)) = 10 * g + (c - 48)) := by show _ = _; rw [dec_take_succ hiy, ← hg, ← hc]
          have HBI : Hid (10 ^ (i + 1) = 10 * b) := by show _ = _; rw [Nat.pow_succ, ← hb]; omega
          have t4 : (48 : Int) ≤ ((((⟨ys.toArray⟩ : ByteArray)[i]'hss).toNat : Nat) : Int) := by rw [hc2]; omega
          have t5 : ((((⟨ys.toArray⟩ : ByteArray)[i]'hss).toNat : Nat) : Int) ≤ 57 := by rw [hc2]; omega
          have HC2 := Lib.hid hc2
          clear hb hg hdg hc hc2
          go_wp2
          go_round
          case rel =>
            rw [HC2.out]
            exact ⟨i + 1, by omega, by go_num, by rw [HN.out]; exact congrArg (Value.int _) (by omega), by rw [HBI.out]; exact congrArg (Value.int _) (by omega)⟩
          case measure => simp [intOf]; omega
end Go.Proofs.Ytcgnmihabkgecaa

/- readNumeral, Parse. -/
set_option linter.unusedVariables false
namespace Go.Proofs.Ytcgnmihabkgecaa
open Go.RowKit Go.Proofs

def bare (xs : List UInt8) : List UInt8 := Lib.trimPrefix xs [45]
/-- the integer of a numeral -/
def numZ (xs : List UInt8) : Int := sgn (Lib.hasPrefix xs [45]) (dec (bare xs))

theorem dec_cons (x : UInt8) (t : List UInt8) : dec (x :: t) = (x.toNat - 48) * 10 ^ t.length + dec t := by
  show (t.foldl (fun a c => 10 * a + (c.toNat - 48)) (10 * 0 + (x.toNat - 48))) = _
  rw [foldl_dec]; simp

theorem isNum_digits {xs : List UInt8} (h : isNum xs = true) : (bare xs).all isDig = true := by
  unfold isNum at h
  rw [Bool.or_eq_true] at h
  rcases h with h | h
  · have : xs = [48] := by simpa using h
    subst this; rfl
  · unfold isPos at h
    rw [Bool.and_eq_true] at h
    have h1 := h.1
    unfold hasDigs at h1
    rw [Bool.and_eq_true] at h1
    exact h1.1

theorem big_pow (n k : Nat) (hn : n = 4933) (h : n ≤ k) : 2 ^ 16384 ≤ 10 ^ k := by
  have h1 : 10 ^ n ≤ 10 ^ k := Nat.pow_le_pow_right (by decide) h
  have h2 : 2 ^ 16384 ≤ 10 ^ n := by subst hn; decide +kernel
  exact Nat.le_trans h2 h1

theorem isNum_long {xs : List UInt8} (h : isNum xs = true) (hl : 4933 < (bare xs).length) : ¬ Fits (numZ xs) := by
  unfold isNum at h
  rw [Bool.or_eq_true] at h
  rcases h with h | h
  · have : xs = [48] := by simpa using h
    subst this
    exact absurd hl (by decide)
  · unfold isPos at h
    rw [Bool.and_eq_true] at h
    have h1 := h.1
    unfold hasDigs at h1
    rw [Bool.and_eq_true] at h1
    have h2 := h.2
    unfold Fits numZ
    rw [sgn_natAbs]
    change (bare xs).all isDig = true ∧ _ at h1
    change decide ((bare xs).head? ≠ some 48) = true at h2
    cases hb : bare xs with
    | nil => rw [hb] at hl; simp at hl
    | cons x t =>
      rw [hb] at h1 h2 hl
      have h3 := h1.1
      rw [List.all_cons, Bool.and_eq_true] at h3
      have h4 : 48 ≤ x.toNat ∧ x.toNat ≤ 57 := by simpa [isDig] using h3.1
      have h5 : x ≠ 48 := by simpa using h2
      have h6 : x.toNat ≠ 48 := fun e => h5 (UInt8.toNat_inj.1 e)
      have h10 : 4933 ≤ t.length := by rw [List.length_cons] at hl; omega
      intro hbl
      have hlt := blen_le.1 hbl
      rw [dec_cons] at hlt
      have h7 : 1 * 10 ^ t.length ≤ (x.toNat - 48) * 10 ^ t.length := Nat.mul_le_mul_right _ (by omega)
      have h8 := big_pow 4933 t.length rfl h10
      have : (2 ^ 16384 : Nat) < 2 ^ 16384 := Nat.lt_of_le_of_lt (Nat.le_trans h8 (by omega)) hlt
      exact Nat.lt_irrefl _ this

theorem dec_len {xs : List UInt8} (h : xs.all isDig = true) : dec xs < B32 ^ xs.length := Nat.lt_of_lt_of_le (dec_lt h) (Nat.pow_le_pow_left (by decide) _)

theorem cut_any (xs : List UInt8) (W : World) :
    Calls Try.prog 80 #[.string ⟨xs.toArray⟩, .string ⟨#[45]⟩] W fun e w' => e = .returned (.tuple #[.string ⟨(bare xs).toArray⟩, .bool (Lib.hasPrefix xs [45])]) ∧ w' = W := Try.strings_CutPrefix _ _ _

set_option maxHeartbeats 1000000 in
theorem readNumeral_any (xs : List UInt8) (W : World) (hl : xs.length ≤ 100000000) (hn : isNum xs = true) :
    Calls Try.prog 64 #[.string ⟨xs.toArray⟩] W (OutF W (numZ xs)) := by
  have hf : Fr W (W.alloc (.cells #[.bool false, .slice none 0 0] 27)) [(27, #[.bool false, .slice none 0 0])] := (Fr.nil W).alloc rfl _ _
  have HF := Lib.hid hf
  have HDG := Lib.hid (isNum_digits hn)
  have HLG := Lib.hid (fun h => isNum_long hn h)
  have hble : (bare xs).length ≤ xs.length := Lib.trimPrefix_le xs [45]
  obtain ⟨ys, hys⟩ : ∃ ys, ys = bare xs := ⟨_, rfl⟩
  obtain ⟨s, hs⟩ : ∃ s, s = Lib.hasPrefix xs [45] := ⟨_, rfl⟩
  have hz : numZ xs = sgn s (dec ys) := by unfold numZ; rw [hs, hys]
  rw [← hys] at HDG HLG hble
  rw [hz] at HLG ⊢
  have HS := Lib.hid hs
  have HYS := Lib.hid hys
  clear hf hn hz hs hys
  go_enter Try.func64, Try.ntmps64
  go_wp2_with fail
  refine (cut_any xs _).mono ?_
  rintro e w1 ⟨rfl, rfl⟩
  rw [← HYS.out, ← HS.out]
  by_cases hlong : 4933 < ys.length
  · have t1 : (4933 : Int) < (ys.length : Int) := by omega
    have HX := Lib.hid (HLG.out hlong)
    clear hlong
    go_wp2
    exact bodyPost_ret (v := .tuple #[.agg #[.bool false, .slice none 0 0], .int .i64 3]) (by simp [results, Try.results64, go_sem]) rfl (.inr ⟨HX.out, rfl, HF.out.below⟩)
  · have t1 : ¬ (4933 : Int) < (ys.length : Int) := by omega
    go_wp2_with fail
    refine (readDigits_any ys _ (by omega) HDG.out).mono ?_
    rintro e w1 ⟨ro, rl, rc, rfl, hr, hb1⟩
    have HF1 := Lib.hid (HF.out.later hb1)
    have HR := Lib.hid hr
    have hrl : rl ≤ 1000000000 := Nat.le_trans (hr.len_le (dec_len HDG.out)) (by omega)
    clear hr hb1
    go_wp2_with fail
    refine (signed_any s _ _ _ (dec ys) _ HR.out).mono ?_
    rintro e w2 ⟨s2, so, sl, sc, rfl, hz2, hb2⟩
    have HF2 := Lib.hid (HF1.out.later hb2)
    have HZ2 := Lib.hid hz2
    have hsl : sl ≤ 1000000000 := by
      have h1 := hz2.n32
      rw [sgn_natAbs] at h1
      exact Nat.le_trans (h1.len_le (dec_len HDG.out)) (by omega)
    clear hz2 hb2
    go_wp2_with fail
    refine ((fitting_any _ _ _ _ (sgn s (dec ys)) _ HZ2.out hsl).mono fun e w h => h.one).mono ?_
    rintro e w3 ⟨neg, fo, fl, fc, er, z', rfl, hz, hb3, hx⟩
    have HF3 := Lib.hid (HF2.out.later hb3)
    have HZ := Lib.hid hz
    have HX := Lib.hid hx
    clear hb3 hz hx
    have g0 : w3.cell? ⟨W.heap.size, 0, none⟩ = some (.bool false) := HF3.out.cell 0 0 rfl rfl
    have g1 : w3.cell? ⟨W.heap.size, 1, none⟩ = some (.slice none 0 0) := HF3.out.cell 0 1 rfl rfl
    have g2 : w3.frozen? ⟨W.heap.size, 0, none⟩ = false := HF3.out.frozen 0 0 rfl
    have g3 : w3.frozen? ⟨W.heap.size, 1, none⟩ = false := HF3.out.frozen 0 1 rfl
    go_wp2
    obtain ⟨e0, e1, hz, hbel, _⟩ := HF3.out.finI (cap := fc) 0 rfl HZ.out
    exact bodyPost_ret (v := .tuple #[.agg #[.bool neg, .slice fo fl fc], .int .i64 er]) (by simp only [Nat.add_zero] at e0 e1; simp [results, Try.results64, go_sem, e0, e1]) rfl (OutF1.two ⟨neg, fo, fl, fc, er, z', rfl, hz, hbel, HX.out⟩)

/-- what Parse answers: the integer, or 0 and the error of a text that is no numeral -/
def ParsePost (xs : List UInt8) (W : World) (e : Ending) (w' : World) : Prop :=
  (isNum xs = true ∧ OutF W (numZ xs) e w') ∨ (isNum xs = false ∧ e = .returned (.tuple #[.agg #[.bool false, .slice none 0 0], .int .i64 4]) ∧ Below W.heap.size W w')

set_option maxHeartbeats 1000000 in
theorem parse_any (xs : List UInt8) (W : World) (hl : xs.length ≤ 100000000) :
    Calls Try.prog 42 #[.string ⟨xs.toArray⟩] W (ParsePost xs W) := by
  have hf : Fr W (W.alloc (.cells #[.bool false, .slice none 0 0] 27)) [(27, #[.bool false, .slice none 0 0])] := (Fr.nil W).alloc rfl _ _
  have HF := Lib.hid hf
  clear hf
  go_enter Try.func42, Try.ntmps42
  go_wp2_with fail
  refine (isNumeral_any xs _ (by omega)).mono ?_
  rintro e w1 ⟨rfl, rfl⟩
  cases hn : isNum xs with
  | false =>
    have HX := Lib.hid hn
    clear hn
    go_wp2
    exact bodyPost_ret (v := .tuple #[.agg #[.bool false, .slice none 0 0], .int .i64 4]) (by simp [results, Try.results42, go_sem]) rfl (.inr ⟨HX.out, rfl, HF.out.below⟩)
  | true =>
    have HX := Lib.hid hn
    clear hn
    go_wp2_with fail
    refine ((readNumeral_any xs _ hl HX.out).mono fun e w h => h.one).mono ?_
    rintro e w3 ⟨neg, fo, fl, fc, er, z', rfl, hz, hb3, hx⟩
    have HF3 := Lib.hid (HF.out.later hb3)
    have HZ := Lib.hid hz
    have HY := Lib.hid hx
    clear hb3 hz hx
    have g0 : w3.cell? ⟨W.heap.size, 0, none⟩ = some (.bool false) := HF3.out.cell 0 0 rfl rfl
    have g1 : w3.cell? ⟨W.heap.size, 1, none⟩ = some (.slice none 0 0) := HF3.out.cell 0 1 rfl rfl
    have g2 : w3.frozen? ⟨W.heap.size, 0, none⟩ = false := HF3.out.frozen 0 0 rfl
    have g3 : w3.frozen? ⟨W.heap.size, 1, none⟩ = false := HF3.out.frozen 0 1 rfl
    go_wp2
    obtain ⟨e0, e1, hz, hbel, _⟩ := HF3.out.finI (cap := fc) 0 rfl HZ.out
    exact bodyPost_ret (v := .tuple #[.agg #[.bool neg, .slice fo fl fc], .int .i64 er]) (by simp only [Nat.add_zero] at e0 e1; simp [results, Try.results42, go_sem, e0, e1]) rfl (.inl ⟨HX.out, OutF1.two ⟨neg, fo, fl, fc, er, z', rfl, hz, hbel, HY.out⟩⟩)
end Go.Proofs.Ytcgnmihabkgecaa

/- The specification: numeral, parse. -/
set_option linter.unusedVariables false
namespace Go.Proofs.Ytcgnmihabkgecaa
open Go.RowKit Go.Proofs

def numB (xs : List UInt8) : Bool := hasDigs xs && (decide (xs.length = 1) || decide (xs.head? ≠ some 48))

end Go.Proofs.Ytcgnmihabkgecaa

/- The specification: parse. -/
set_option linter.unusedVariables false
namespace Go.Proofs.Ytcgnmihabkgecaa
open Go.RowKit Go.Proofs

def ParRel (xs : List UInt8) (W : World) (av iv : Value) (wr : World) : Prop :=
  ∃ (ao : Option Addr) (n cap i : Nat), av = .slice ao n cap ∧ iv = .int .i64 (i : Int) ∧ i ≤ xs.length ∧ n ≤ cap ∧ cap ≤ 9223372036854775807 ∧ N16 wr ao n (dec (xs.take i)) ∧ Below W.heap.size W wr

def ParIn (la d : Nat) (xa : List Nat) (W : World) (cv ov kv : Value) (wr : World) : Prop :=
  ∃ (c k : Nat) (zs : List Nat), cv = .int .i64 (c : Int) ∧ kv = .int .i64 (k : Int) ∧ Own .i64 wr W.heap.size 3 ov k zs ∧ Dig B16 zs ∧ c ≤ 10 ∧ k ≤ la + 1 ∧
    val B16 zs + c * B16 ^ k = d + 10 * val B16 (xa.take k) ∧ (la < k → c = 0 ∧ B16 ^ (k - 1) ≤ val B16 zs) ∧ Below W.heap.size W wr

theorem par_in {la d k c x : Nat} {xa zs : List Nat} {W wr w2 : World} {v' : Value} (hlz : zs.length = k) (hd : Dig B16 zs) (hc : c ≤ 10) (hk : k ≤ la) (hla : xa.length = la) (hx : x = xa[k]?.getD 0) (hxb : x < B16) (hgo : k < la ∨ 0 < c)
    (hv : val B16 zs + c * B16 ^ k = d + 10 * val B16 (xa.take k)) (hb : Below W.heap.size W wr) (ho : Own .i64 w2 W.heap.size 3 v' (k + 1) (zs ++ [(c + 10 * x) % B16])) (hb2 : Below W.heap.size wr w2)
    (C K : Int) (hC : C = (((c + 10 * x) / B16 : Nat) : Int)) (hK : K = (k : Int) + 1) : ParIn la d xa W (.int .i64 C) v' (.int .i64 K) w2 := by
  rw [B16_eq] at hxb
  have e := Nat.mod_add_div (c + 10 * x) B16
  refine ⟨(c + 10 * x) / B16, k + 1, zs ++ [(c + 10 * x) % B16], by rw [hC], by rw [hK]; rfl, ho, hd.append (Dig.cons (Nat.mod_lt _ B16_pos) (Dig.nil _)), by rw [B16_eq]; omega, by omega, ?_, ?_, hb.trans hb2⟩
  · rw [val_snoc, hlz, val_take_succ, ← hx, Nat.pow_succ]
    generalize (c + 10 * x) % B16 = r at *
    generalize (c + 10 * x) / B16 = q at *
    generalize B16 ^ k = p at *
    grind
  · intro h1
    have hx0 : x = 0 := by rw [hx, List.getElem?_eq_none (by omega)]; rfl
    subst hx0
    have hc0 : 0 < c := by omega
    refine ⟨by rw [B16_eq]; omega, ?_⟩
    rw [val_snoc, hlz]
    have : (c + 10 * 0) % B16 = c := by rw [B16_eq]; omega
    rw [this, Nat.add_sub_cancel]
    have : B16 ^ k * 1 ≤ B16 ^ k * c := Nat.mul_le_mul_left _ hc0
    omega

theorem par_top {la d k m : Nat} {xa zs : List Nat} (hlz : zs.length = k) (hd : Dig B16 zs) (hta : Top xa) (hla : xa.length = la) (hm : val B16 xa = m) (hk : la ≤ k) (hv : val B16 zs = d + 10 * m) (ht : la < k → B16 ^ (k - 1) ≤ val B16 zs) : Top zs := by
  refine top_of_ge B16_pos hd (fun hne => ?_)
  rw [hlz]
  by_cases h : la < k
  · exact ht h
  · have hk2 : k = la := by omega
    have hne2 : xa ≠ [] := fun e => by
      rw [e] at hla
      simp at hla
      exact hne (List.eq_nil_of_length_eq_zero (by omega))
    have := val_ge (B := B16) hta hne2
    rw [hla, hm] at this
    rw [hv, hk2]
    omega

/-- what parse answers -/
def Parse16Post (xs : List UInt8) (W : World) (e : Ending) (w' : World) : Prop :=
  ∃ ao len cap er, e = .returned (.tuple #[.slice ao len cap, .int .i64 er]) ∧ len ≤ cap ∧ cap ≤ 9223372036854775807 ∧ Below W.heap.size W w' ∧
    ((numB xs = false ∧ er = 4) ∨ (numB xs = true ∧ (5000 < xs.length ∨ 16384 < blen (dec xs)) ∧ er = 3) ∨
      (numB xs = true ∧ xs.length ≤ 5000 ∧ blen (dec xs) ≤ 16384 ∧ er = 0 ∧ N16 w' ao len (dec xs)))

theorem numB_digits {xs : List UInt8} (h : numB xs = true) : xs.all isDig = true := by
  unfold numB hasDigs at h
  simp only [Bool.and_eq_true] at h
  exact h.1.1

end Go.Proofs.Ytcgnmihabkgecaa

/- The specification: Parse, Fits. -/
set_option linter.unusedVariables false
namespace Go.Proofs.Ytcgnmihabkgecaa
open Go.RowKit Go.Proofs

theorem numB_eq (ys : List UInt8) : numB ys = (decide (ys = [48]) || isPos ys) := by
  by_cases h : ys = [48]
  · subst h; rfl
  · rw [decide_eq_false h, Bool.false_or]
    unfold numB isPos
    cases hd : hasDigs ys with
    | false => rfl
    | true =>
      rw [Bool.true_and, Bool.true_and]
      cases ys with
      | nil => rfl
      | cons x t =>
        by_cases hx : x = 48
        · subst hx
          have : t ≠ [] := fun e => h (by rw [e])
          have h2 : t.length ≠ 0 := fun e => this (List.eq_nil_of_length_eq_zero e)
          simp [this]
        · simp [hx]

/-- what the specification's Parse answers -/
def ParseJ (xs : List UInt8) (W : World) (e : Ending) (w' : World) : Prop :=
  ∃ neg ao len cap er, e = .returned (.tuple #[.agg #[.bool neg, .slice ao len cap], .int .i64 er]) ∧ Below W.heap.size W w' ∧
    ((isNum xs = false ∧ er = 4) ∨ (isNum xs = true ∧ ¬ Fits (numZ xs) ∧ er = 3) ∨
      (isNum xs = true ∧ Fits (numZ xs) ∧ er = 0 ∧ len ≤ cap ∧ cap ≤ 9223372036854775807 ∧ Z16 w' neg ao len (numZ xs)))

theorem Z16.nil (w : World) : Z16 w false none 0 0 := ⟨0, N16.nil _ _, rfl, by simp⟩

/-- behind the sign: the digits ys are parsed -/
theorem parse_tail {xs ys : List UInt8} {s : Bool} (hz : numZ xs = sgn s (dec ys)) (hb : bare xs = ys) (hnum : isNum xs = numB ys) {er : Int} {w' : World} {ao : Option Addr} {len : Nat}
    (h : (numB ys = false ∧ er = 4) ∨ (numB ys = true ∧ (5000 < ys.length ∨ 16384 < blen (dec ys)) ∧ er = 3) ∨
      (numB ys = true ∧ ys.length ≤ 5000 ∧ blen (dec ys) ≤ 16384 ∧ er = 0 ∧ N16 w' ao len (dec ys))) :
    (isNum xs = false ∧ er = 4) ∨ (isNum xs = true ∧ ¬ Fits (numZ xs) ∧ er = 3) ∨ (isNum xs = true ∧ Fits (numZ xs) ∧ er = 0 ∧ N16 w' ao len (dec ys)) := by
  have hf : Fits (numZ xs) ↔ blen (dec ys) ≤ 16384 := by unfold Fits; rw [hz, sgn_natAbs]
  rcases h with ⟨h1, h2⟩ | ⟨h1, h2, h3⟩ | ⟨h1, h2, h3, h4, h5⟩
  · exact .inl ⟨by rw [hnum, h1], h2⟩
  · refine .inr (.inl ⟨by rw [hnum, h1], ?_, h3⟩)
    rcases h2 with h2 | h2
    · exact isNum_long (by rw [hnum, h1]) (by rw [hb]; omega)
    · rw [hf]; omega
  · exact .inr (.inr ⟨by rw [hnum, h1], hf.2 h3, h4, h5⟩)

end Go.Proofs.Ytcgnmihabkgecaa

/- The laws' helper told. -/
set_option linter.unusedVariables false
namespace Go.Proofs.Ytcgnmihabkgecaa
open Go.RowKit Go.Proofs

theorem numZ_0 : numeralZ 0 = [48] := by decide +kernel

/-- what Parse answers, with one shape of the ending -/
def ParseOne (xs : List UInt8) (W : World) (e : Ending) (w' : World) : Prop :=
  ∃ neg ao len cap er z', e = .returned (.tuple #[.agg #[.bool neg, .slice ao len cap], .int .i64 er]) ∧ Z32 w' neg ao len z' ∧ Below W.heap.size W w' ∧
    ((isNum xs = false ∧ er = 4 ∧ z' = 0) ∨ (isNum xs = true ∧ ¬ Fits (numZ xs) ∧ er = 3 ∧ z' = 0) ∨ (isNum xs = true ∧ Fits (numZ xs) ∧ er = 0 ∧ z' = numZ xs))

theorem ParsePost.one {xs : List UInt8} {W w' : World} {e : Ending} (h : ParsePost xs W e w') : ParseOne xs W e w' := by
  rcases h with ⟨h, ⟨hf, neg, ao, len, cap, rfl, hz, hb⟩ | ⟨hf, rfl, hb⟩⟩ | ⟨h, rfl, hb⟩
  · exact ⟨neg, ao, len, cap, 0, _, rfl, hz, hb, .inr (.inr ⟨h, hf, rfl, rfl⟩)⟩
  · exact ⟨false, none, 0, 0, 3, 0, rfl, Z32.nil _, hb, .inr (.inl ⟨h, hf, rfl, rfl⟩)⟩
  · exact ⟨false, none, 0, 0, 4, 0, rfl, Z32.nil _, hb, .inl ⟨h, rfl, rfl⟩⟩


theorem fits_lenk {w : World} {neg : Bool} {ao : Option Addr} {len : Nat} {z : Int} (k : Nat) (hk : 32 * k = 16384) (h : Z32 w neg ao len z) (hf : Fits z) : len ≤ k := by
  have h1 := blen_le.1 hf
  refine h.n32.len_le (k := k) ?_
  rw [B32_pow, hk]
  exact h1

theorem fits_len {w : World} {neg : Bool} {ao : Option Addr} {len : Nat} {z : Int} (h : Z32 w neg ao len z) (hf : Fits z) : len ≤ 512 := fits_lenk 512 rfl h hf

theorem fits_lenk16 {w : World} {neg : Bool} {ao : Option Addr} {len : Nat} {z : Int} (k : Nat) (hk : 16 * k = 16384) (h : Z16 w neg ao len z) (hf : Fits z) : len ≤ k := by
  have h1 := blen_le.1 hf
  refine h.n16.len_le (k := k) ?_
  rw [B16_pow, hk]
  exact h1

theorem fits_len16 {w : World} {neg : Bool} {ao : Option Addr} {len : Nat} {z : Int} (h : Z16 w neg ao len z) (hf : Fits z) : len ≤ 1024 := fits_lenk16 1024 rfl h hf
end Go.Proofs.Ytcgnmihabkgecaa

/- A numeral is read again as what it is the numeral of. -/
set_option linter.unusedVariables false
namespace Go.Proofs.Ytcgnmihabkgecaa
open Go.RowKit Go.Proofs

theorem char_toNat {d : Nat} (h : d < 10) : (UInt8.ofNat (48 + d)).toNat = 48 + d := by
  rw [UInt8.toNat_ofNat']
  omega

theorem chars_append (a b : List Nat) : chars (a ++ b) = chars a ++ chars b := by unfold chars; rw [List.map_append]

theorem dec_chars {ts : List Nat} (h : Dig 10 ts) : dec (chars ts.reverse) = val 10 ts := by
  induction ts with
  | nil => rfl
  | cons d ts ih =>
    rw [List.reverse_cons, chars_append]
    show dec (chars ts.reverse ++ [UInt8.ofNat (48 + d)]) = _
    rw [dec_snoc, ih h.tail, char_toNat h.head, val_cons]
    omega

theorem all_chars {ts : List Nat} (h : Dig 10 ts) : (chars ts).all isDig = true := by
  rw [List.all_eq_true]
  intro c hc
  obtain ⟨d, hd, rfl⟩ := List.mem_map.1 hc
  have h1 := h d hd
  unfold isDig
  rw [char_toNat h1]
  simp
  omega

theorem Dig.reverse {B : Nat} {ts : List Nat} (h : Dig B ts) : Dig B ts.reverse := fun x hx => h x (List.mem_reverse.1 hx)

theorem dec_numeral (n : Nat) : dec (numeral n) = n := by
  unfold numeral
  by_cases h : n = 0
  · rw [if_pos h, h]; rfl
  · rw [if_neg h]
    obtain ⟨a, b, c⟩ := lowF_spec n n (Nat.le_refl _)
    exact (dec_chars a).trans c

theorem numeral_pos {n : Nat} (h : n ≠ 0) : isPos (numeral n) = true := by
  unfold numeral
  rw [if_neg h]
  obtain ⟨a, b, c⟩ := lowF_spec n n (Nat.le_refl _)
  change Dig 10 (low n) at a
  change Top (low n) at b
  change val 10 (low n) = n at c
  have hne : low n ≠ [] := fun e => by rw [e] at c; exact h c.symm
  obtain ⟨ys, y, hy⟩ : ∃ ys y, low n = ys ++ [y] := ⟨(low n).dropLast, (low n).getLast hne, (List.dropLast_concat_getLast hne).symm⟩
  have hy0 : y ≠ 0 := by
    have := b hne
    rw [hy] at this
    simpa using this
  have hyd : y < 10 := a y (by rw [hy]; simp)
  have hd := all_chars a.reverse
  rw [hy] at hd ⊢
  rw [List.reverse_append] at hd ⊢
  change (UInt8.ofNat (48 + y) :: chars ys.reverse).all isDig = true at hd
  change isPos (UInt8.ofNat (48 + y) :: chars ys.reverse) = true
  have hc : UInt8.ofNat (48 + y) ≠ 48 := fun e => by
    have := congrArg UInt8.toNat e
    rw [char_toNat hyd] at this
    change 48 + y = 48 at this
    omega
  unfold isPos hasDigs
  rw [hd]
  have h2 : decide ((UInt8.ofNat (48 + y) :: chars ys.reverse).head? ≠ some 48) = true := decide_eq_true (fun e => hc (Option.some.inj e))
  rw [h2]
  rfl

theorem numeral_head {n : Nat} : ∃ x t, numeral n = x :: t ∧ isDig x = true := by
  by_cases h : n = 0
  · exact ⟨48, [], by unfold numeral; rw [if_pos h], rfl⟩
  · have h1 := numeral_pos h
    unfold isPos hasDigs at h1
    simp only [Bool.and_eq_true] at h1
    cases hn : numeral n with
    | nil => rw [hn] at h1; simp at h1
    | cons x t =>
      rw [hn] at h1
      have := h1.1.1
      rw [List.all_cons, Bool.and_eq_true] at this
      exact ⟨x, t, rfl, this.1⟩

theorem prefix_numeral (n : Nat) : Lib.hasPrefix (numeral n) [45] = false := by
  obtain ⟨x, t, h, hd⟩ := numeral_head (n := n)
  rw [h]
  have : x ≠ 45 := fun e => by subst e; exact absurd hd (by decide)
  have h2 : ¬ (45 : UInt8) = x := fun e => this e.symm
  show ([45].isPrefixOf (x :: t)) = false
  rw [List.isPrefixOf_cons_cons, beq_eq_false_iff_ne.2 h2, Bool.false_and]

theorem bare_minus (t : List UInt8) : bare (45 :: t) = t := by unfold bare Lib.trimPrefix; simp [Lib.hasPrefix]
theorem bare_plain {t : List UInt8} (h : Lib.hasPrefix t [45] = false) : bare t = t := by unfold bare Lib.trimPrefix; rw [h]; rfl

theorem isNum_numeralZ (z : Int) : isNum (numeralZ z) = true := by
  unfold numeralZ
  by_cases h : z < 0
  · rw [if_pos h]
    have hn := numeral_pos (n := z.natAbs) (by omega)
    unfold isNum
    change (decide _ || isPos (bare (45 :: numeral z.natAbs))) = true
    rw [bare_minus, hn, Bool.or_true]
  · rw [if_neg h]
    unfold isNum
    change (decide _ || isPos (bare (numeral z.natAbs))) = true
    rw [bare_plain (prefix_numeral _)]
    by_cases h0 : z.natAbs = 0
    · rw [h0]; rfl
    · rw [numeral_pos h0, Bool.or_true]

theorem numZ_numeralZ (z : Int) : numZ (numeralZ z) = z := by
  unfold numeralZ
  by_cases h : z < 0
  · rw [if_pos h]
    unfold numZ
    rw [bare_minus, dec_numeral]
    simp [Lib.hasPrefix, sgn]
    omega
  · rw [if_neg h]
    unfold numZ
    rw [bare_plain (prefix_numeral _), dec_numeral, prefix_numeral]
    simp [sgn]
    omega
end Go.Proofs.Ytcgnmihabkgecaa

/- The laws' helper made. -/
set_option linter.unusedVariables false
namespace Go.Proofs.Ytcgnmihabkgecaa
open Go.RowKit Go.Proofs

/-- the program's integer that made returns, and whether it fits -/
def MadePost (z : Int) (W : World) (e : Ending) (w' : World) : Prop :=
  ∃ neg ao len cap ok z', e = .returned (.tuple #[.agg #[.bool neg, .slice ao len cap], .bool ok]) ∧ len ≤ 512 ∧ Z32 w' neg ao len z' ∧ Below W.heap.size W w' ∧ ((Fits z ∧ ok = true ∧ z' = z) ∨ (¬ Fits z ∧ ok = false ∧ z' = 0))

theorem fits_zero : Fits 0 := by unfold Fits; decide

set_option maxHeartbeats 1000000 in
theorem made_law (neg : Bool) (ao : Option Addr) (len cap : Nat) (z : Int) (W : World) (h : Z16 W neg ao len z) (hl : len ≤ 1000000) :
    Calls Try.prog 19 #[.agg #[.bool neg, .slice ao len cap]] W (MadePost z W) := by
  have hf : Fr W ((W.alloc (.cells #[.bool neg, .slice ao len cap] 32)).alloc (.cells #[.bool false, .slice none 0 0] 27))
      [(32, #[.bool neg, .slice ao len cap]), (27, #[.bool false, .slice none 0 0])] := ((Fr.nil W).alloc rfl _ _).alloc (by simp) _ _
  have hlt : z.natAbs < B32 ^ len := Nat.lt_of_lt_of_le h.n16.lt (Nat.pow_le_pow_left (by decide) _)
  have hnl := numeralZ_len hlt
  have HZ := Lib.hid (h.keep hf.below)
  have HF := Lib.hid hf
  have hnb : (numeralZ z).length ≤ 100000000 := by omega
  have HNB := Lib.hid hnb
  clear h hf hlt hnl hnb
  go_enter Try.func19, Try.ntmps19
  go_wp2_with fail
  refine (text16_any _ _ _ _ z _ HZ.out (by omega)).mono ?_
  rintro e w1 ⟨rfl, hb1⟩
  have HF1 := Lib.hid (HF.out.later hb1)
  clear hb1
  go_wp2_with fail
  refine ((parse_any (numeralZ z) _ HNB.out).mono fun e w h => h.one).mono ?_
  rintro e w2 ⟨na, po, la, ca, er, z', rfl, hz2, hb2, hx⟩
  have HF2 := Lib.hid (HF1.out.later hb2)
  have hy : (Fits z ∧ er = 0 ∧ z' = z) ∨ (¬ Fits z ∧ er = 3 ∧ z' = 0) := by
    rw [numZ_numeralZ] at hx
    rcases hx with ⟨h1, _⟩ | ⟨_, h2⟩ | ⟨_, h2⟩
    · rw [isNum_numeralZ] at h1; cases h1
    · exact .inr h2
    · exact .inl h2
  have hla : la ≤ 512 := by
    rcases hy with ⟨h1, _, h3⟩ | ⟨_, _, h3⟩
    · rw [h3] at hz2; exact fits_len hz2 h1
    · rw [h3] at hz2; exact fits_len hz2 fits_zero
  have HZ2 := Lib.hid hz2
  clear hx hz2 hb2
  have hfb : Fr w2 (w2.alloc (.cells #[.bool na, .slice po la ca] 27)) [(27, #[.bool na, .slice po la ca])] := (Fr.nil w2).alloc rfl _ _
  have HF3 := Lib.hid (HF2.out.later hfb.below)
  have HZ3 := Lib.hid (HZ2.out.keep hfb.below)
  clear hfb
  have g0 : (w2.alloc (.cells #[.bool na, .slice po la ca] 27)).cell? ⟨W.heap.size + 1, 0, none⟩ = some (.bool false) := HF3.out.cell 1 0 rfl rfl
  have g1 : (w2.alloc (.cells #[.bool na, .slice po la ca] 27)).cell? ⟨W.heap.size + 1, 1, none⟩ = some (.slice none 0 0) := HF3.out.cell 1 1 rfl rfl
  have g2 : (w2.alloc (.cells #[.bool na, .slice po la ca] 27)).frozen? ⟨W.heap.size + 1, 0, none⟩ = false := HF3.out.frozen 1 0 rfl
  have g3 : (w2.alloc (.cells #[.bool na, .slice po la ca] 27)).frozen? ⟨W.heap.size + 1, 1, none⟩ = false := HF3.out.frozen 1 1 rfl
  rcases hy with ⟨h1, rfl, rfl⟩ | ⟨h1, rfl, rfl⟩
  · have HX := Lib.hid h1
    clear h1
    go_wp2
    obtain ⟨e0, e1, hz, hbel, _⟩ := HF3.out.finI (cap := ca) 1 rfl HZ3.out
    exact bodyPost_ret (v := .tuple #[.agg #[.bool na, .slice po la ca], .bool true]) (by simp [results, Try.results19, go_sem, e0, e1]) rfl ⟨na, po, la, ca, true, _, rfl, hla, hz, hbel, .inl ⟨HX.out, rfl, rfl⟩⟩
  · have HX := Lib.hid h1
    clear h1
    go_wp2
    obtain ⟨e0, e1, hz, hbel, _⟩ := HF3.out.finI (cap := ca) 1 rfl HZ3.out
    exact bodyPost_ret (v := .tuple #[.agg #[.bool na, .slice po la ca], .bool false]) (by simp [results, Try.results19, go_sem, e0, e1]) rfl ⟨na, po, la, ca, false, _, rfl, hla, hz, hbel, .inr ⟨HX.out, rfl, rfl⟩⟩
end Go.Proofs.Ytcgnmihabkgecaa

/- The laws' helper two. -/
set_option linter.unusedVariables false
namespace Go.Proofs.Ytcgnmihabkgecaa
open Go.RowKit Go.Proofs

/-- made's answer about z -/
def MadeIs (z : Int) (ok : Bool) (z' : Int) : Prop := (Fits z ∧ ok = true ∧ z' = z) ∨ (¬ Fits z ∧ ok = false ∧ z' = 0)

def TwoPost (x y : Int) (W : World) (e : Ending) (w' : World) : Prop :=
  ∃ na ao la ca nb bo lb cb ok1 ok2 x' y', e = .returned (.tuple #[.agg #[.bool na, .slice ao la ca], .agg #[.bool nb, .slice bo lb cb], .bool (ok1 && ok2)]) ∧ la ≤ 512 ∧ lb ≤ 512 ∧
    Z32 w' na ao la x' ∧ Z32 w' nb bo lb y' ∧ Below W.heap.size W w' ∧ MadeIs x ok1 x' ∧ MadeIs y ok2 y'

theorem drew_cell (w : World) (a : Addr) : w.drew.cell? a = w.cell? a := rfl

set_option maxHeartbeats 2000000 in
theorem two_any (na nb : Bool) (ao bo : Option Addr) (la lb ca cb : Nat) (x y : Int) (W : World) (ha : Z16 W na ao la x) (hb : Z16 W nb bo lb y) (hla : la ≤ 1000000) (hlb : lb ≤ 1000000) :
    Calls Try.prog 4 #[.agg #[.bool na, .slice ao la ca], .agg #[.bool nb, .slice bo lb cb]] W (TwoPost x y W) := by
  have hf : Fr W ((((W.alloc (.cells #[.bool na, .slice ao la ca] 32)).alloc (.cells #[.bool nb, .slice bo lb cb] 32)).alloc (.cells #[.bool false, .slice none 0 0] 27)).alloc (.cells #[.bool false, .slice none 0 0] 27))
      [(32, #[.bool na, .slice ao la ca]), (32, #[.bool nb, .slice bo lb cb]), (27, #[.bool false, .slice none 0 0]), (27, #[.bool false, .slice none 0 0])] :=
    ((((Fr.nil W).alloc rfl _ _).alloc (by simp) _ _).alloc (by simp) _ _).alloc (by simp) _ _
  have HA := Lib.hid (ha.keep hf.below)
  have HB := Lib.hid (hb.keep hf.below)
  have HF := Lib.hid hf
  clear ha hb hf
  go_enter Try.func4, Try.ntmps4
  go_wp2_with fail
  refine (made_law _ _ _ _ x _ HA.out hla).mono ?_
  rintro e w1 ⟨s1, o1, l1, c1, ok1, x', rfl, hl1, hz1, hb1, hx1⟩
  have HF1 := Lib.hid (HF.out.later hb1)
  have HB1 := Lib.hid (HB.out.keep hb1)
  have HZ1 := Lib.hid hz1
  have HX1 : Hid (MadeIs x ok1 x') := hx1
  clear hz1 hb1 hx1
  have hfb : Fr w1 (w1.alloc (.cells #[.bool s1, .slice o1 l1 c1] 27)) [(27, #[.bool s1, .slice o1 l1 c1])] := (Fr.nil w1).alloc rfl _ _
  have HFB := Lib.hid hfb
  have HF2 := Lib.hid (HF1.out.later hfb.below)
  have HB2 := Lib.hid (HB1.out.keep hfb.below)
  have HZ2 := Lib.hid (HZ1.out.keep hfb.below)
  clear hfb
  have b2 : (w1.alloc (.cells #[.bool s1, .slice o1 l1 c1] 27)).cell? ⟨W.heap.size + 1, 0, none⟩ = some (.bool nb) := HF2.out.cell 1 0 rfl rfl
  have b3 : (w1.alloc (.cells #[.bool s1, .slice o1 l1 c1] 27)).cell? ⟨W.heap.size + 1, 1, none⟩ = some (.slice bo lb cb) := HF2.out.cell 1 1 rfl rfl
  go_wp2_with fail
  refine (made_law _ _ _ _ y _ HB2.out hlb).mono ?_
  rintro e w2 ⟨s2, o2, l2, c2, ok2, y', rfl, hl2, hz2, hb2, hx2⟩
  have HF3 := Lib.hid (HF2.out.later hb2)
  have HFB3 := Lib.hid (HFB.out.later hb2)
  have HY3 := Lib.hid (HZ2.out.keep hb2)
  have HZ3 := Lib.hid hz2
  have HX2 : Hid (MadeIs y ok2 y') := hx2
  clear hz2 hb2 hx2
  have hfc : Fr w2 (w2.alloc (.cells #[.bool s2, .slice o2 l2 c2] 27)) [(27, #[.bool s2, .slice o2 l2 c2])] := (Fr.nil w2).alloc rfl _ _
  have HF4 := Lib.hid (HF3.out.later hfc.below)
  have HFB4 := Lib.hid (HFB3.out.later hfc.below)
  have HY4 := Lib.hid (HY3.out.keep hfc.below)
  have HZ4 := Lib.hid (HZ3.out.keep hfc.below)
  have HFC := Lib.hid hfc
  clear hfc b2 b3
  go_wp2_with fail
  obtain ⟨W3, hW3⟩ : ∃ W3, W3 = w2.alloc (.cells #[.bool s2, .slice o2 l2 c2] 27) := ⟨_, rfl⟩
  rw [← hW3] at HF4 HFB4 HY4 HZ4 HFC ⊢
  clear hW3
  have d0 : W3.cell? ⟨w1.heap.size, 0, none⟩ = some (.bool s1) := HFB4.out.cell 0 0 rfl rfl
  have d1 : W3.cell? ⟨w1.heap.size, 1, none⟩ = some (.slice o1 l1 c1) := HFB4.out.cell 0 1 rfl rfl
  have d2 : W3.cell? ⟨w2.heap.size, 0, none⟩ = some (.bool s2) := HFC.out.cell 0 0 rfl rfl
  have d3 : W3.cell? ⟨w2.heap.size, 1, none⟩ = some (.slice o2 l2 c2) := HFC.out.cell 0 1 rfl rfl
  have g0 : W3.cell? ⟨W.heap.size + 1 + 1, 0, none⟩ = some (.bool false) := HF4.out.cell 2 0 rfl rfl
  have g1 : W3.cell? ⟨W.heap.size + 1 + 1, 1, none⟩ = some (.slice none 0 0) := HF4.out.cell 2 1 rfl rfl
  have g2 : W3.frozen? ⟨W.heap.size + 1 + 1, 0, none⟩ = false := HF4.out.frozen 2 0 rfl
  have g3 : W3.frozen? ⟨W.heap.size + 1 + 1, 1, none⟩ = false := HF4.out.frozen 2 1 rfl
  have g4 : W3.cell? ⟨W.heap.size + 1 + 1 + 1, 0, none⟩ = some (.bool false) := HF4.out.cell 3 0 rfl rfl
  have g5 : W3.cell? ⟨W.heap.size + 1 + 1 + 1, 1, none⟩ = some (.slice none 0 0) := HF4.out.cell 3 1 rfl rfl
  have g6 : W3.frozen? ⟨W.heap.size + 1 + 1 + 1, 0, none⟩ = false := HF4.out.frozen 3 0 rfl
  have g7 : W3.frozen? ⟨W.heap.size + 1 + 1 + 1, 1, none⟩ = false := HF4.out.frozen 3 1 rfl
  have hs1 : W.heap.size + 4 ≤ w1.heap.size := by have := HF1.out.size; simpa using this
  have hs2 : w1.heap.size + 1 ≤ w2.heap.size := by have := HFB3.out.size; simpa using this
  cases ok1 with
  | false =>
    go_region
    go_wp2
    obtain ⟨k0, k1, hz, _, hfr⟩ := HF4.out.finI (cap := c1) 2 rfl HY4.out
    have hy2 := (HZ4.out.setFr HF4.out 2 0 rfl rfl (.bool s1)).setFr (HF4.out.set 2 0 rfl (.bool s1)) 2 1 rfl rfl (.slice o1 l1 c1)
    obtain ⟨k2, k3, hy3, hbel, hfr2⟩ := hfr.finI (cap := c2) 3 rfl hy2
    have hz3 := (hz.setFr hfr 3 0 rfl rfl (.bool s2)).setFr (hfr.set 3 0 rfl (.bool s2)) 3 1 rfl rfl (.slice o2 l2 c2)
    have k4 := hfr2.cell 2 0 (v := .bool s1) rfl rfl
    have k5 := hfr2.cell 2 1 (v := .slice o1 l1 c1) rfl rfl
    exact bodyPost_ret (v := .tuple #[.agg #[.bool s1, .slice o1 l1 c1], .agg #[.bool s2, .slice o2 l2 c2], .bool false]) (by simp [results, Try.results4, go_sem, k2, k3, k4, k5]) rfl ⟨s1, o1, l1, c1, s2, o2, l2, c2, false, ok2, x', y', rfl, hl1, hl2, hz3, hy3, hbel.drew, HX1.out, HX2.out⟩
  | true =>
    go_region
    go_wp2
    obtain ⟨k0, k1, hz, _, hfr⟩ := HF4.out.finI (cap := c1) 2 rfl HY4.out
    have hy2 := (HZ4.out.setFr HF4.out 2 0 rfl rfl (.bool s1)).setFr (HF4.out.set 2 0 rfl (.bool s1)) 2 1 rfl rfl (.slice o1 l1 c1)
    obtain ⟨k2, k3, hy3, hbel, hfr2⟩ := hfr.finI (cap := c2) 3 rfl hy2
    have hz3 := (hz.setFr hfr 3 0 rfl rfl (.bool s2)).setFr (hfr.set 3 0 rfl (.bool s2)) 3 1 rfl rfl (.slice o2 l2 c2)
    have k4 := hfr2.cell 2 0 (v := .bool s1) rfl rfl
    have k5 := hfr2.cell 2 1 (v := .slice o1 l1 c1) rfl rfl
    exact bodyPost_ret (v := .tuple #[.agg #[.bool s1, .slice o1 l1 c1], .agg #[.bool s2, .slice o2 l2 c2], .bool ok2]) (by simp [results, Try.results4, go_sem, k2, k3, k4, k5]) rfl ⟨s1, o1, l1, c1, s2, o2, l2, c2, true, ok2, x', y', rfl, hl1, hl2, hz3, hy3, hbel.drew, HX1.out, HX2.out⟩
end Go.Proofs.Ytcgnmihabkgecaa

/- The specification: toInt. -/
set_option linter.unusedVariables false
namespace Go.Proofs.Ytcgnmihabkgecaa
open Go.RowKit Go.Proofs

theorem val_drop_le {B : Nat} (hB : 0 < B) (xs : List Nat) (i : Nat) (hi : i ≤ xs.length) : val B (xs.drop i) ≤ val B xs := by
  rw [val_split B xs i hi]
  have : 1 * val B (xs.drop i) ≤ B ^ i * val B (xs.drop i) := Nat.mul_le_mul_right _ (Nat.pow_pos hB)
  omega

end Go.Proofs.Ytcgnmihabkgecaa
