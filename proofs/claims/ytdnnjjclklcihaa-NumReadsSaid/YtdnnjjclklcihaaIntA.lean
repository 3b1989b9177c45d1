/- fitting, Neg, Add, Sub, Mul, Cmp. -/
import Derived.Test.YtdnnjjclklcihaaWhole
set_option linter.unusedVariables false
namespace Go.Proofs.Ytdnnjjclklcihaa
open Go.RowKit

/-- the integer fits -/
def Fits (z : Int) : Prop := blen z.natAbs ≤ 16384

/-- returned: the integer and no error, or, if it does not fit, 0 and the error -/
def OutF (W : World) (z : Int) (e : Ending) (w' : World) : Prop :=
  (Fits z ∧ ∃ neg ao len cap, e = .returned (.tuple #[.agg #[.bool neg, .slice ao len cap], .int .i64 0]) ∧ Z32 w' neg ao len z ∧ Below W.heap.size W w') ∨
  (¬ Fits z ∧ e = .returned (.tuple #[.agg #[.bool false, .slice none 0 0], .int .i64 3]) ∧ Below W.heap.size W w')

theorem Z32.nil (w : World) : Z32 w false none 0 0 := ⟨0, N32.nil _ _, rfl, by simp⟩

set_option maxHeartbeats 800000 in
theorem fitting_any (neg : Bool) (ao : Option Addr) (len cap : Nat) (z : Int) (W : World) (h : Z32 W neg ao len z) (hl : len ≤ 1000000000) :
    Calls Try.prog 80 #[.agg #[.bool neg, .slice ao len cap]] W (OutF W z) := by
  have hf : Fr W ((W.alloc (.cells #[.bool neg, .slice ao len cap] 24)).alloc (.cells #[.bool false, .slice none 0 0] 24))
      [(24, #[.bool neg, .slice ao len cap]), (24, #[.bool false, .slice none 0 0])] := ((Fr.nil W).alloc rfl _ _).alloc (by simp) _ _
  have HZ := Lib.hid (h.keep hf.below)
  have HF := Lib.hid hf
  clear h hf
  go_enter Try.func80, Try.ntmps80
  go_wp2_with fail
  refine (bitLen_any _ _ _ _ z _ HZ.out hl).mono ?_
  rintro e w1 ⟨rfl, hb1⟩
  have HF1 := Lib.hid (HF.out.later hb1)
  have HZ1 := Lib.hid (HZ.out.keep hb1)
  clear hb1
  have b0 : w1.cell? ⟨W.heap.size, 0, none⟩ = some (.bool neg) := HF1.out.cell 0 0 rfl rfl
  have b1 : w1.cell? ⟨W.heap.size, 1, none⟩ = some (.slice ao len cap) := HF1.out.cell 0 1 rfl rfl
  have g0 : w1.cell? ⟨W.heap.size + 1, 0, none⟩ = some (.bool false) := HF1.out.cell 1 0 rfl rfl
  have g1 : w1.cell? ⟨W.heap.size + 1, 1, none⟩ = some (.slice none 0 0) := HF1.out.cell 1 1 rfl rfl
  have g2 : w1.frozen? ⟨W.heap.size + 1, 0, none⟩ = false := HF1.out.frozen 1 0 rfl
  have g3 : w1.frozen? ⟨W.heap.size + 1, 1, none⟩ = false := HF1.out.frozen 1 1 rfl
  obtain ⟨k, hk⟩ : ∃ k, k = blen z.natAbs := ⟨_, rfl⟩
  rw [← hk]
  by_cases hfit : k ≤ 16384
  · have t1 : ¬ (16384 : Int) < (k : Int) := by omega
    have HX : Hid (Fits z) := by unfold Fits; rw [← hk]; exact hfit
    clear hk hfit
    go_wp2
    obtain ⟨e0, e1, hz, hbel, _⟩ := HF1.out.finI (cap := cap) 1 rfl HZ1.out
    exact bodyPost_ret (v := .tuple #[.agg #[.bool neg, .slice ao len cap], .int .i64 0]) (by simp [results, Try.results80, go_sem, e0, e1]) rfl (.inl ⟨HX.out, neg, ao, len, cap, rfl, hz, hbel⟩)
  · have t1 : (16384 : Int) < (k : Int) := by omega
    have HX : Hid (¬ Fits z) := by unfold Fits; rw [← hk]; exact hfit
    clear hk hfit
    go_wp2
    obtain ⟨e0, e1, hz, hbel, _⟩ := HF1.out.finI (cap := 0) 1 rfl (Z32.nil _)
    exact bodyPost_ret (v := .tuple #[.agg #[.bool false, .slice none 0 0], .int .i64 3]) (by simp [results, Try.results80, go_sem, e0, e1]) rfl (.inr ⟨HX.out, rfl, hbel⟩)

set_option maxHeartbeats 1000000 in
theorem neg_any (na : Bool) (ao : Option Addr) (la ca : Nat) (z : Int) (W : World) (h : Z32 W na ao la z) (hla : la ≤ 1000000000) :
    Calls Try.prog 32 #[.agg #[.bool na, .slice ao la ca]] W (OutI W (-z)) := by
  have hf : Fr W ((W.alloc (.cells #[.bool na, .slice ao la ca] 24)).alloc (.cells #[.bool false, .slice none 0 0] 24))
      [(24, #[.bool na, .slice ao la ca]), (24, #[.bool false, .slice none 0 0])] := ((Fr.nil W).alloc rfl _ _).alloc (by simp) _ _
  obtain ⟨n, hn, rfl, hp⟩ := h.keep hf.below
  have HN := Lib.hid hn
  clear h hn hp
  rw [sgn_neg]
  go_enter Try.func32, Try.ntmps32
  go_wp2_with fail
  obtain ⟨W3, hW3⟩ : ∃ W3, W3 = (W.alloc (.cells #[.bool na, .slice ao la ca] 24)).alloc (.cells #[.bool false, .slice none 0 0] 24) := ⟨_, rfl⟩
  rw [← hW3] at hf HN ⊢
  clear hW3
  have HF := Lib.hid hf
  clear hf
  have c0 : W3.cell? ⟨W.heap.size, 0, none⟩ = some (.bool na) := HF.out.cell 0 0 rfl rfl
  have c1 : W3.cell? ⟨W.heap.size, 1, none⟩ = some (.slice ao la ca) := HF.out.cell 0 1 rfl rfl
  go_region_held3 (fun w' => w'.cell? ⟨W.heap.size, 0, none⟩ = some (.bool na) ∧ w'.cell? ⟨W.heap.size, 1, none⟩ = some (.slice ao la ca)) (first | (go_keep; done) | ((try dsimp only); (repeat' apply And.intro) <;> (first | (go_keep; done) | (rw [cell_set2 _ _ _ _ _ _ (by omega)]; assumption))))
    (first | (go_at_call 79; refine (duplicate_n _ _ _ n W3.drew HN.out hla).mono ?_; rintro e u1 ⟨po, pc, rfl, hp, hb1⟩; have HB1 := Lib.hid (below_of_drew hb1); have HP := Lib.hid hp; have HF1 := Lib.hid (HF.out.later HB1.out); clear hb1 hp; have k0 : u1.cell? ⟨W.heap.size, 0, none⟩ = some (.bool na) := HF1.out.cell 0 0 rfl rfl; have k1 : u1.cell? ⟨W.heap.size, 1, none⟩ = some (.slice ao la ca) := HF1.out.cell 0 1 rfl rfl) | (go_at_call 62; refine (signed_any (!na) _ _ _ n _ HP.out).mono ?_; rintro e u2 ⟨neg, so, sl, sc, rfl, hz, hb2⟩; have HF2 := Lib.hid (HF1.out.later hb2); have HZ := Lib.hid hz; clear hb2 hz; have j0 : u2.cell? ⟨W.heap.size, 0, none⟩ = some (.bool na) := HF2.out.cell 0 0 rfl rfl; have j1 : u2.cell? ⟨W.heap.size, 1, none⟩ = some (.slice ao la ca) := HF2.out.cell 0 1 rfl rfl; have g0 : u2.cell? ⟨W.heap.size + 1, 0, none⟩ = some (.bool false) := HF2.out.cell 1 0 rfl rfl; have g1 : u2.cell? ⟨W.heap.size + 1, 1, none⟩ = some (.slice none 0 0) := HF2.out.cell 1 1 rfl rfl; have g2 : u2.frozen? ⟨W.heap.size + 1, 0, none⟩ = false := HF2.out.frozen 1 0 rfl; have g3 : u2.frozen? ⟨W.heap.size + 1, 1, none⟩ = false := HF2.out.frozen 1 1 rfl))
  go_wp2
  obtain ⟨e0, e1, hz, hbel, _⟩ := HF2.out.finI (cap := sc) 1 rfl HZ.out
  exact bodyPost_ret (v := .agg #[.bool neg, .slice so sl sc]) (by simp [results, Try.results32, go_sem, e0, e1]) rfl ⟨neg, so, sl, sc, rfl, hz, hbel⟩

theorem addI_len {x y : Int} {a b : Nat} (hx : x.natAbs < B32 ^ a) (hy : y.natAbs < B32 ^ b) : (x + y).natAbs < B32 ^ (a + b + 1) := by
  have h1 : B32 ^ a ≤ B32 ^ (a + b) := Nat.pow_le_pow_right B32_pos (by omega)
  have h2 : B32 ^ b ≤ B32 ^ (a + b) := Nat.pow_le_pow_right B32_pos (by omega)
  have h3 : B32 ^ (a + b + 1) = B32 ^ (a + b) * B32 := Nat.pow_succ ..
  rw [h3, B32_eq]
  rw [B32_eq] at hx hy h1 h2
  omega

set_option maxHeartbeats 1000000 in
theorem addI_any (na nb : Bool) (ao bo : Option Addr) (la lb ca cb : Nat) (x y : Int) (W : World) (ha : Z32 W na ao la x) (hb : Z32 W nb bo lb y) (hla : la ≤ 100000000) (hlb : lb ≤ 100000000) :
    Calls Try.prog 35 #[.agg #[.bool na, .slice ao la ca], .agg #[.bool nb, .slice bo lb cb]] W (OutF W (x + y)) := by
  have hf : Fr W (((W.alloc (.cells #[.bool na, .slice ao la ca] 24)).alloc (.cells #[.bool nb, .slice bo lb cb] 24)).alloc (.cells #[.bool false, .slice none 0 0] 24))
      [(24, #[.bool na, .slice ao la ca]), (24, #[.bool nb, .slice bo lb cb]), (24, #[.bool false, .slice none 0 0])] :=
    (((Fr.nil W).alloc rfl _ _).alloc (by simp) _ _).alloc (by simp) _ _
  have HLEN := Lib.hid (addI_len ha.natAbs_lt hb.natAbs_lt)
  have HA := Lib.hid (ha.keep hf.below)
  have HB := Lib.hid (hb.keep hf.below)
  have HF := Lib.hid hf
  clear ha hb hf
  go_enter Try.func35, Try.ntmps35
  go_wp2_with fail
  refine (plus_any _ _ _ _ _ _ _ _ x y _ HA.out HB.out (by omega) (by omega)).mono ?_
  rintro e w1 ⟨s1, o1, l1, c1, rfl, hz1, hb1⟩
  have HF1 := Lib.hid (HF.out.later hb1)
  have HZ1 := Lib.hid hz1
  have hl1 : l1 ≤ 1000000000 := Nat.le_trans (hz1.n32.len_le HLEN.out) (by omega)
  clear hz1 hb1
  go_wp2_with fail
  refine (fitting_any _ _ _ _ (x + y) _ HZ1.out hl1).mono ?_
  rintro e w2 (⟨hfit, neg, so, sl, sc, rfl, hz, hb2⟩ | ⟨hfit, rfl, hb2⟩)
  · have HF2 := Lib.hid (HF1.out.later hb2)
    have HX := Lib.hid hfit
    have HZ := Lib.hid hz
    clear hb2 hfit hz
    have g0 : w2.cell? ⟨W.heap.size + 2, 0, none⟩ = some (.bool false) := HF2.out.cell 2 0 rfl rfl
    have g1 : w2.cell? ⟨W.heap.size + 2, 1, none⟩ = some (.slice none 0 0) := HF2.out.cell 2 1 rfl rfl
    have g2 : w2.frozen? ⟨W.heap.size + 2, 0, none⟩ = false := HF2.out.frozen 2 0 rfl
    have g3 : w2.frozen? ⟨W.heap.size + 2, 1, none⟩ = false := HF2.out.frozen 2 1 rfl
    go_wp2
    obtain ⟨e0, e1, hz, hbel, _⟩ := HF2.out.finI (cap := sc) 2 rfl HZ.out
    exact bodyPost_ret (v := .tuple #[.agg #[.bool neg, .slice so sl sc], .int .i64 0]) (by simp [results, Try.results35, go_sem, e0, e1]) rfl (.inl ⟨HX.out, neg, so, sl, sc, rfl, hz, hbel⟩)
  · have HF2 := Lib.hid (HF1.out.later hb2)
    have HX := Lib.hid hfit
    clear hb2 hfit
    have g0 : w2.cell? ⟨W.heap.size + 2, 0, none⟩ = some (.bool false) := HF2.out.cell 2 0 rfl rfl
    have g1 : w2.cell? ⟨W.heap.size + 2, 1, none⟩ = some (.slice none 0 0) := HF2.out.cell 2 1 rfl rfl
    have g2 : w2.frozen? ⟨W.heap.size + 2, 0, none⟩ = false := HF2.out.frozen 2 0 rfl
    have g3 : w2.frozen? ⟨W.heap.size + 2, 1, none⟩ = false := HF2.out.frozen 2 1 rfl
    go_wp2
    obtain ⟨e0, e1, hz, hbel, _⟩ := HF2.out.finI (cap := 0) 2 rfl (Z32.nil _)
    exact bodyPost_ret (v := .tuple #[.agg #[.bool false, .slice none 0 0], .int .i64 3]) (by simp [results, Try.results35, go_sem, e0, e1]) rfl (.inr ⟨HX.out, rfl, hbel⟩)

theorem mulI_len {x y : Int} {a b : Nat} (hx : x.natAbs < B32 ^ a) (hy : y.natAbs < B32 ^ b) : (x * y).natAbs < B32 ^ (a + b + 1) := by
  rw [Int.natAbs_mul]
  have h1 : x.natAbs * y.natAbs < B32 ^ a * B32 ^ b := Nat.mul_lt_mul'' hx hy
  rw [← Nat.pow_add] at h1
  exact Nat.lt_of_lt_of_le h1 (Nat.pow_le_pow_right B32_pos (by omega))

set_option maxHeartbeats 1000000 in
theorem mulI_any (na nb : Bool) (ao bo : Option Addr) (la lb ca cb : Nat) (x y : Int) (W : World) (ha : Z32 W na ao la x) (hb : Z32 W nb bo lb y) (hla : la ≤ 100000000) (hlb : lb ≤ 100000000) :
    Calls Try.prog 41 #[.agg #[.bool na, .slice ao la ca], .agg #[.bool nb, .slice bo lb cb]] W (OutF W (x * y)) := by
  have hf : Fr W (((W.alloc (.cells #[.bool na, .slice ao la ca] 24)).alloc (.cells #[.bool nb, .slice bo lb cb] 24)).alloc (.cells #[.bool false, .slice none 0 0] 24))
      [(24, #[.bool na, .slice ao la ca]), (24, #[.bool nb, .slice bo lb cb]), (24, #[.bool false, .slice none 0 0])] :=
    (((Fr.nil W).alloc rfl _ _).alloc (by simp) _ _).alloc (by simp) _ _
  have HLEN := Lib.hid (mulI_len ha.natAbs_lt hb.natAbs_lt)
  have HA := Lib.hid (ha.keep hf.below)
  have HB := Lib.hid (hb.keep hf.below)
  have HF := Lib.hid hf
  clear ha hb hf
  go_enter Try.func41, Try.ntmps41
  go_wp2_with fail
  refine (times_any _ _ _ _ _ _ _ _ x y _ HA.out HB.out (by omega) (by omega)).mono ?_
  rintro e w1 ⟨s1, o1, l1, c1, rfl, hz1, hb1⟩
  have HF1 := Lib.hid (HF.out.later hb1)
  have HZ1 := Lib.hid hz1
  have hl1 : l1 ≤ 1000000000 := Nat.le_trans (hz1.n32.len_le HLEN.out) (by omega)
  clear hz1 hb1
  go_wp2_with fail
  refine (fitting_any _ _ _ _ (x * y) _ HZ1.out hl1).mono ?_
  rintro e w2 (⟨hfit, neg, so, sl, sc, rfl, hz, hb2⟩ | ⟨hfit, rfl, hb2⟩)
  · have HF2 := Lib.hid (HF1.out.later hb2)
    have HX := Lib.hid hfit
    have HZ := Lib.hid hz
    clear hb2 hfit hz
    have g0 : w2.cell? ⟨W.heap.size + 2, 0, none⟩ = some (.bool false) := HF2.out.cell 2 0 rfl rfl
    have g1 : w2.cell? ⟨W.heap.size + 2, 1, none⟩ = some (.slice none 0 0) := HF2.out.cell 2 1 rfl rfl
    have g2 : w2.frozen? ⟨W.heap.size + 2, 0, none⟩ = false := HF2.out.frozen 2 0 rfl
    have g3 : w2.frozen? ⟨W.heap.size + 2, 1, none⟩ = false := HF2.out.frozen 2 1 rfl
    go_wp2
    obtain ⟨e0, e1, hz, hbel, _⟩ := HF2.out.finI (cap := sc) 2 rfl HZ.out
    exact bodyPost_ret (v := .tuple #[.agg #[.bool neg, .slice so sl sc], .int .i64 0]) (by simp [results, Try.results41, go_sem, e0, e1]) rfl (.inl ⟨HX.out, neg, so, sl, sc, rfl, hz, hbel⟩)
  · have HF2 := Lib.hid (HF1.out.later hb2)
    have HX := Lib.hid hfit
    clear hb2 hfit
    have g0 : w2.cell? ⟨W.heap.size + 2, 0, none⟩ = some (.bool false) := HF2.out.cell 2 0 rfl rfl
    have g1 : w2.cell? ⟨W.heap.size + 2, 1, none⟩ = some (.slice none 0 0) := HF2.out.cell 2 1 rfl rfl
    have g2 : w2.frozen? ⟨W.heap.size + 2, 0, none⟩ = false := HF2.out.frozen 2 0 rfl
    have g3 : w2.frozen? ⟨W.heap.size + 2, 1, none⟩ = false := HF2.out.frozen 2 1 rfl
    go_wp2
    obtain ⟨e0, e1, hz, hbel, _⟩ := HF2.out.finI (cap := 0) 2 rfl (Z32.nil _)
    exact bodyPost_ret (v := .tuple #[.agg #[.bool false, .slice none 0 0], .int .i64 3]) (by simp [results, Try.results41, go_sem, e0, e1]) rfl (.inr ⟨HX.out, rfl, hbel⟩)

end Go.Proofs.Ytdnnjjclklcihaa
