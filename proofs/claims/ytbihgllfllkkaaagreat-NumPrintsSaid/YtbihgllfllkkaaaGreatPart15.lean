/- Part 15 of the contracts: RefK, Same. -/
import Derived.Test.YtbihgllfllkkaaaGreatPart14

/- The specification's operations of fractions. -/
set_option linter.unusedVariables false
namespace Go.Proofs.YtbihgllfllkkaaaGreat
open Go.RowKit Go.Proofs

/-- OutJ with a bound for the number of digits -/
def OutJL (W : World) (z : Int) (L : Nat) (e : Ending) (w' : World) : Prop := ∃ neg ao len cap, e = .returned (.agg #[.bool neg, .slice ao len cap]) ∧ len ≤ L ∧ len ≤ cap ∧ cap ≤ 9223372036854775807 ∧ Z16 w' neg ao len z ∧ Below W.heap.size W w'

theorem OutJ.len {W w' : World} {z : Int} {L : Nat} {e : Ending} (h : OutJ W z e w') (hL : z.natAbs < B16 ^ L) : OutJL W z L e w' := by
  obtain ⟨neg, ao, len, cap, rfl, h1, h2, hz, hb⟩ := h
  exact ⟨neg, ao, len, cap, rfl, hz.n16.len_le hL, h1, h2, hz, hb⟩

theorem mul16_lt {x y : Int} {a b : Nat} (hx : x.natAbs < B16 ^ a) (hy : y.natAbs < B16 ^ b) : (x * y).natAbs < B16 ^ (a + b) := by
  rw [Int.natAbs_mul, Nat.pow_add]
  exact Nat.mul_lt_mul'' hx hy

theorem add16_lt {x y : Int} {a b : Nat} (hx : x.natAbs < B16 ^ a) (hy : y.natAbs < B16 ^ b) : (x + y).natAbs < B16 ^ (a + b + 1) := by
  have h3 : (x + y).natAbs ≤ x.natAbs + y.natAbs := Int.natAbs_add_le x y
  have ha : B16 ^ a ≤ B16 ^ (a + b) := Nat.pow_le_pow_right B16_pos (by omega)
  have hb : B16 ^ b ≤ B16 ^ (a + b) := Nat.pow_le_pow_right B16_pos (by omega)
  rw [Nat.pow_succ, B16_eq] at *
  omega

theorem mulJ_L (na nb : Bool) (ao bo : Option Addr) (la lb ca cb : Nat) (x y : Int) (W : World) (ha : Z16 W na ao la x) (hb : Z16 W nb bo lb y) (hla : la ≤ 1000000) (hlb : lb ≤ 1000000) :
    Calls Tryz.prog 80 #[.agg #[.bool na, .slice ao la ca], .agg #[.bool nb, .slice bo lb cb]] W (OutJL W (x * y) (la + lb)) :=
  (mulZ16_any na nb ao bo la lb ca cb x y W ha hb (by omega) (by omega)).mono fun e w h => h.len (mul16_lt ha.n16.lt hb.n16.lt)
theorem addJ_L (na nb : Bool) (ao bo : Option Addr) (la lb ca cb : Nat) (x y : Int) (W : World) (ha : Z16 W na ao la x) (hb : Z16 W nb bo lb y) (hla : la ≤ 1000000) (hlb : lb ≤ 1000000) :
    Calls Tryz.prog 81 #[.agg #[.bool na, .slice ao la ca], .agg #[.bool nb, .slice bo lb cb]] W (OutJL W (x + y) (la + lb + 1)) :=
  (plus16_any na nb ao bo la lb ca cb x y W ha hb (by omega) (by omega)).mono fun e w h => h.len (add16_lt ha.n16.lt hb.n16.lt)
theorem subJ_L (na nb : Bool) (ao bo : Option Addr) (la lb ca cb : Nat) (x y : Int) (W : World) (ha : Z16 W na ao la x) (hb : Z16 W nb bo lb y) (hla : la ≤ 1000000) (hlb : lb ≤ 1000000) (hlc : lb ≤ cb) (hcm : cb ≤ 9223372036854775807) :
    Calls Tryz.prog 82 #[.agg #[.bool na, .slice ao la ca], .agg #[.bool nb, .slice bo lb cb]] W (OutJL W (x - y) (la + lb + 1)) :=
  (subZ16_any na nb ao bo la lb ca cb x y W ha hb (by omega) (by omega) hlc hcm).mono fun e w h => h.len (by
    rw [Int.sub_eq_add_neg]; exact add16_lt ha.n16.lt (by rw [Int.natAbs_neg]; exact hb.n16.lt))

theorem cell_set4 (w : World) (g b o : Nat) (u v x y : Value) (h : b ≠ g) : ((((w.setCell ⟨g, 0, none⟩ u).setCell ⟨g, 1, none⟩ v).setCell ⟨g, 2, none⟩ x).setCell ⟨g, 3, none⟩ y).cell? ⟨b, o, none⟩ = w.cell? ⟨b, o, none⟩ := by
  have e : ((((w.setCell ⟨g, 0, none⟩ u).setCell ⟨g, 1, none⟩ v).setCell ⟨g, 2, none⟩ x).setCell ⟨g, 3, none⟩ y).heap[b]? = w.heap[b]? := by
    rw [Below.heap_setCell _ _ _ _ h, Below.heap_setCell _ _ _ _ h, Below.heap_setCell _ _ _ _ h, Below.heap_setCell _ _ _ _ h]
  simp only [World.cell?, e]

set_option maxRecDepth 4000 in
set_option maxHeartbeats 2000000 in
theorem refMul_any (n1 n2 n3 n4 : Bool) (o1 o2 o3 o4 : Option Addr) (l1 l2 l3 l4 c1 c2 c3 c4 : Nat) (p q r s : Int) (W : World) (h1 : Z16 W n1 o1 l1 p) (h2 : Z16 W n2 o2 l2 q) (h3 : Z16 W n3 o3 l3 r) (h4 : Z16 W n4 o4 l4 s) (b1 : l1 ≤ 10000) (b2 : l2 ≤ 10000) (b3 : l3 ≤ 10000) (b4 : l4 ≤ 10000) (hq : q ≠ 0) (hs : s ≠ 0) :
    Calls Tryz.prog 40 #[.agg #[.bool n1, .slice o1 l1 c1, .bool n2, .slice o2 l2 c2], .agg #[.bool n3, .slice o3 l3 c3, .bool n4, .slice o4 l4 c4]] W (OutKB W (lowP (p * r) (q * s)) (lowQ (p * r) (q * s) : Int)) := by
  have hf : Fr W (((W.alloc (.cells #[.bool n1, .slice o1 l1 c1, .bool n2, .slice o2 l2 c2] 43)).alloc (.cells #[.bool n3, .slice o3 l3 c3, .bool n4, .slice o4 l4 c4] 43)).alloc (.cells #[.bool false, .slice none 0 0, .bool false, .slice none 0 0] 43)) [(43, #[.bool n1, .slice o1 l1 c1, .bool n2, .slice o2 l2 c2]), (43, #[.bool n3, .slice o3 l3 c3, .bool n4, .slice o4 l4 c4]), (43, #[.bool false, .slice none 0 0, .bool false, .slice none 0 0])] := (((Fr.nil W).alloc rfl _ _).alloc (by simp) _ _).alloc (by simp) _ _
  have hy0 : q * s ≠ 0 := Int.mul_ne_zero hq hs
  have HF := Lib.hid hf
  have HP_0 := Lib.hid (h1.keep hf.below)
  have HQ_0 := Lib.hid (h2.keep hf.below)
  have HR_0 := Lib.hid (h3.keep hf.below)
  have HS_0 := Lib.hid (h4.keep hf.below)
  clear hf h1 h2 h3 h4
  go_enter Tryz.func40, Tryz.ntmps40
  go_wp2_with fail
  obtain ⟨V, hV⟩ : ∃ V, V = (((W.alloc (.cells #[.bool n1, .slice o1 l1 c1, .bool n2, .slice o2 l2 c2] 43)).alloc (.cells #[.bool n3, .slice o3 l3 c3, .bool n4, .slice o4 l4 c4] 43)).alloc (.cells #[.bool false, .slice none 0 0, .bool false, .slice none 0 0] 43)) := ⟨_, rfl⟩
  rw [← hV] at HF HP_0 HQ_0 HR_0 HS_0 ⊢
  clear hV
  have qq0 : V.cell? ⟨W.heap.size, 0, none⟩ = some (.bool n1) := HF.out.cell 0 0 rfl rfl
  have qq1 : V.cell? ⟨W.heap.size, 1, none⟩ = some (.slice o1 l1 c1) := HF.out.cell 0 1 rfl rfl
  have qq2 : V.cell? ⟨W.heap.size, 2, none⟩ = some (.bool n2) := HF.out.cell 0 2 rfl rfl
  have qq3 : V.cell? ⟨W.heap.size, 3, none⟩ = some (.slice o2 l2 c2) := HF.out.cell 0 3 rfl rfl
  have qq4 : V.cell? ⟨W.heap.size + 1, 0, none⟩ = some (.bool n3) := HF.out.cell 1 0 rfl rfl
  have qq5 : V.cell? ⟨W.heap.size + 1, 1, none⟩ = some (.slice o3 l3 c3) := HF.out.cell 1 1 rfl rfl
  have qq6 : V.cell? ⟨W.heap.size + 1, 2, none⟩ = some (.bool n4) := HF.out.cell 1 2 rfl rfl
  have qq7 : V.cell? ⟨W.heap.size + 1, 3, none⟩ = some (.slice o4 l4 c4) := HF.out.cell 1 3 rfl rfl
  go_region_held3 (fun w' => w'.cell? ⟨W.heap.size, 0, none⟩ = some (.bool n1) ∧ w'.cell? ⟨W.heap.size, 1, none⟩ = some (.slice o1 l1 c1) ∧ w'.cell? ⟨W.heap.size, 2, none⟩ = some (.bool n2) ∧ w'.cell? ⟨W.heap.size, 3, none⟩ = some (.slice o2 l2 c2) ∧ w'.cell? ⟨W.heap.size + 1, 0, none⟩ = some (.bool n3) ∧ w'.cell? ⟨W.heap.size + 1, 1, none⟩ = some (.slice o3 l3 c3) ∧ w'.cell? ⟨W.heap.size + 1, 2, none⟩ = some (.bool n4) ∧ w'.cell? ⟨W.heap.size + 1, 3, none⟩ = some (.slice o4 l4 c4)) (first | (go_keep; done) | ((try dsimp only); (repeat' apply And.intro) <;> (first | (go_keep; done) | (rw [cell_set4 _ _ _ _ _ _ _ _ (by omega)]; assumption) | (rw [cell_set3 _ _ _ _ _ _ _ (by omega)]; assumption) | (rw [cell_set2 _ _ _ _ _ _ (by omega)]; assumption))))
    (first | (go_at_call 17; refine (low_B _ _ _ _ _ _ _ _ (p * r) (q * s) _ HXm1.out HY0.out (by omega) (by omega) hc5 hm5 hc6 hm6 hy0).mono ?_; rintro e mw2 ⟨m1, u1, k1, d1, m2, u2, k2, d2, rfl, hB1, hB2, hk1, hd1, hk2, hd2, hz, hy, hb⟩; have hbb := hb; have FPm2 := Lib.hid (FPm1.out.later hbb); have HPm2 := Lib.hid (HPm1.out.keep hbb); have HQm2 := Lib.hid (HQm1.out.keep hbb); have HRm2 := Lib.hid (HRm1.out.keep hbb); have HSm2 := Lib.hid (HSm1.out.keep hbb); have HXm2 := Lib.hid (HXm1.out.keep hbb); have HYm2 := Lib.hid (HY0.out.keep hbb); have HZ0 := Lib.hid hz; have HU0 := Lib.hid hy; clear hz hy; clear hb hbb; have m2c0 : mw2.cell? ⟨W.heap.size, 0, none⟩ = some (.bool n1) := FPm2.out.cell 0 0 rfl rfl; have m2c1 : mw2.cell? ⟨W.heap.size, 1, none⟩ = some (.slice o1 l1 c1) := FPm2.out.cell 0 1 rfl rfl; have m2c2 : mw2.cell? ⟨W.heap.size, 2, none⟩ = some (.bool n2) := FPm2.out.cell 0 2 rfl rfl; have m2c3 : mw2.cell? ⟨W.heap.size, 3, none⟩ = some (.slice o2 l2 c2) := FPm2.out.cell 0 3 rfl rfl; have m2c4 : mw2.cell? ⟨W.heap.size + 1, 0, none⟩ = some (.bool n3) := FPm2.out.cell 1 0 rfl rfl; have m2c5 : mw2.cell? ⟨W.heap.size + 1, 1, none⟩ = some (.slice o3 l3 c3) := FPm2.out.cell 1 1 rfl rfl; have m2c6 : mw2.cell? ⟨W.heap.size + 1, 2, none⟩ = some (.bool n4) := FPm2.out.cell 1 2 rfl rfl; have m2c7 : mw2.cell? ⟨W.heap.size + 1, 3, none⟩ = some (.slice o4 l4 c4) := FPm2.out.cell 1 3 rfl rfl; have mz0 : mw2.cell? ⟨W.heap.size + 2, 0, none⟩ = some (.bool false) := FPm2.out.cell 2 0 rfl rfl; have mz1 : mw2.cell? ⟨W.heap.size + 2, 1, none⟩ = some (.slice none 0 0) := FPm2.out.cell 2 1 rfl rfl; have mz2 : mw2.cell? ⟨W.heap.size + 2, 2, none⟩ = some (.bool false) := FPm2.out.cell 2 2 rfl rfl; have mz3 : mw2.cell? ⟨W.heap.size + 2, 3, none⟩ = some (.slice none 0 0) := FPm2.out.cell 2 3 rfl rfl; have mzf0 : mw2.frozen? ⟨W.heap.size + 2, 0, none⟩ = false := FPm2.out.frozen 2 0 rfl; have mzf1 : mw2.frozen? ⟨W.heap.size + 2, 1, none⟩ = false := FPm2.out.frozen 2 1 rfl; have mzf2 : mw2.frozen? ⟨W.heap.size + 2, 2, none⟩ = false := FPm2.out.frozen 2 2 rfl; have mzf3 : mw2.frozen? ⟨W.heap.size + 2, 3, none⟩ = false := FPm2.out.frozen 2 3 rfl) | (go_at_call 80; refine (mulJ_L _ _ _ _ _ _ _ _ (q) (s) _ HQm0.out HSm0.out (by omega) (by omega)).mono ?_; rintro e mw1 ⟨n6, o6, l6, c6, rfl, hl6, hc6, hm6, hz, hb⟩; have hbb := hb; have FPm1 := Lib.hid (FPm0.out.later hbb); have HPm1 := Lib.hid (HPm0.out.keep hbb); have HQm1 := Lib.hid (HQm0.out.keep hbb); have HRm1 := Lib.hid (HRm0.out.keep hbb); have HSm1 := Lib.hid (HSm0.out.keep hbb); have HXm1 := Lib.hid (HX0.out.keep hbb); have HY0 := Lib.hid hz; clear hz; clear hb hbb; have m1c0 : mw1.cell? ⟨W.heap.size, 0, none⟩ = some (.bool n1) := FPm1.out.cell 0 0 rfl rfl; have m1c1 : mw1.cell? ⟨W.heap.size, 1, none⟩ = some (.slice o1 l1 c1) := FPm1.out.cell 0 1 rfl rfl; have m1c2 : mw1.cell? ⟨W.heap.size, 2, none⟩ = some (.bool n2) := FPm1.out.cell 0 2 rfl rfl; have m1c3 : mw1.cell? ⟨W.heap.size, 3, none⟩ = some (.slice o2 l2 c2) := FPm1.out.cell 0 3 rfl rfl; have m1c4 : mw1.cell? ⟨W.heap.size + 1, 0, none⟩ = some (.bool n3) := FPm1.out.cell 1 0 rfl rfl; have m1c5 : mw1.cell? ⟨W.heap.size + 1, 1, none⟩ = some (.slice o3 l3 c3) := FPm1.out.cell 1 1 rfl rfl; have m1c6 : mw1.cell? ⟨W.heap.size + 1, 2, none⟩ = some (.bool n4) := FPm1.out.cell 1 2 rfl rfl; have m1c7 : mw1.cell? ⟨W.heap.size + 1, 3, none⟩ = some (.slice o4 l4 c4) := FPm1.out.cell 1 3 rfl rfl) | (go_at_call 80; refine (mulJ_L _ _ _ _ _ _ _ _ (p) (r) V.drew (HP_0.out.keep (Below.refl _ _).drew) (HR_0.out.keep (Below.refl _ _).drew) (by omega) (by omega)).mono ?_; rintro e mw0 ⟨n5, o5, l5, c5, rfl, hl5, hc5, hm5, hz, hb⟩; have hbb := below_of_drew hb; have FPm0 := Lib.hid (HF.out.later hbb); have HPm0 := Lib.hid (HP_0.out.keep hbb); have HQm0 := Lib.hid (HQ_0.out.keep hbb); have HRm0 := Lib.hid (HR_0.out.keep hbb); have HSm0 := Lib.hid (HS_0.out.keep hbb); have HX0 := Lib.hid hz; clear hz; clear hb hbb; have m0c0 : mw0.cell? ⟨W.heap.size, 0, none⟩ = some (.bool n1) := FPm0.out.cell 0 0 rfl rfl; have m0c1 : mw0.cell? ⟨W.heap.size, 1, none⟩ = some (.slice o1 l1 c1) := FPm0.out.cell 0 1 rfl rfl; have m0c2 : mw0.cell? ⟨W.heap.size, 2, none⟩ = some (.bool n2) := FPm0.out.cell 0 2 rfl rfl; have m0c3 : mw0.cell? ⟨W.heap.size, 3, none⟩ = some (.slice o2 l2 c2) := FPm0.out.cell 0 3 rfl rfl; have m0c4 : mw0.cell? ⟨W.heap.size + 1, 0, none⟩ = some (.bool n3) := FPm0.out.cell 1 0 rfl rfl; have m0c5 : mw0.cell? ⟨W.heap.size + 1, 1, none⟩ = some (.slice o3 l3 c3) := FPm0.out.cell 1 1 rfl rfl; have m0c6 : mw0.cell? ⟨W.heap.size + 1, 2, none⟩ = some (.bool n4) := FPm0.out.cell 1 2 rfl rfl; have m0c7 : mw0.cell? ⟨W.heap.size + 1, 3, none⟩ = some (.slice o4 l4 c4) := FPm0.out.cell 1 3 rfl rfl))
  go_wp2
  obtain ⟨e0, e1, e2, e3, k_1, k_2, hbel⟩ := FPm2.out.finK (c1 := d1) (c2 := d2) 2 rfl HZ0.out HU0.out
  exact bodyPost_ret (v := .agg #[.bool m1, .slice u1 k1 d1, .bool m2, .slice u2 k2 d2]) (by simp [results, Tryz.results40, go_sem, e0, e1, e2, e3]) rfl ⟨m1, u1, k1, d1, m2, u2, k2, d2, rfl, hB1, hB2, hk1, hd1, hk2, hd2, k_1, k_2, hbel⟩

set_option maxRecDepth 4000 in
set_option maxHeartbeats 2000000 in
theorem refAdd_any (n1 n2 n3 n4 : Bool) (o1 o2 o3 o4 : Option Addr) (l1 l2 l3 l4 c1 c2 c3 c4 : Nat) (p q r s : Int) (W : World) (h1 : Z16 W n1 o1 l1 p) (h2 : Z16 W n2 o2 l2 q) (h3 : Z16 W n3 o3 l3 r) (h4 : Z16 W n4 o4 l4 s) (b1 : l1 ≤ 10000) (b2 : l2 ≤ 10000) (b3 : l3 ≤ 10000) (b4 : l4 ≤ 10000) (hq : q ≠ 0) (hs : s ≠ 0) :
    Calls Tryz.prog 38 #[.agg #[.bool n1, .slice o1 l1 c1, .bool n2, .slice o2 l2 c2], .agg #[.bool n3, .slice o3 l3 c3, .bool n4, .slice o4 l4 c4]] W (OutKB W (lowP (p * s + r * q) (q * s)) (lowQ (p * s + r * q) (q * s) : Int)) := by
  have hf : Fr W (((W.alloc (.cells #[.bool n1, .slice o1 l1 c1, .bool n2, .slice o2 l2 c2] 43)).alloc (.cells #[.bool n3, .slice o3 l3 c3, .bool n4, .slice o4 l4 c4] 43)).alloc (.cells #[.bool false, .slice none 0 0, .bool false, .slice none 0 0] 43)) [(43, #[.bool n1, .slice o1 l1 c1, .bool n2, .slice o2 l2 c2]), (43, #[.bool n3, .slice o3 l3 c3, .bool n4, .slice o4 l4 c4]), (43, #[.bool false, .slice none 0 0, .bool false, .slice none 0 0])] := (((Fr.nil W).alloc rfl _ _).alloc (by simp) _ _).alloc (by simp) _ _
  have hy0 : q * s ≠ 0 := Int.mul_ne_zero hq hs
  have HF := Lib.hid hf
  have HP_0 := Lib.hid (h1.keep hf.below)
  have HQ_0 := Lib.hid (h2.keep hf.below)
  have HR_0 := Lib.hid (h3.keep hf.below)
  have HS_0 := Lib.hid (h4.keep hf.below)
  clear hf h1 h2 h3 h4
  go_enter Tryz.func38, Tryz.ntmps38
  go_wp2_with fail
  obtain ⟨V, hV⟩ : ∃ V, V = (((W.alloc (.cells #[.bool n1, .slice o1 l1 c1, .bool n2, .slice o2 l2 c2] 43)).alloc (.cells #[.bool n3, .slice o3 l3 c3, .bool n4, .slice o4 l4 c4] 43)).alloc (.cells #[.bool false, .slice none 0 0, .bool false, .slice none 0 0] 43)) := ⟨_, rfl⟩
  rw [← hV] at HF HP_0 HQ_0 HR_0 HS_0 ⊢
  clear hV
  have qq0 : V.cell? ⟨W.heap.size, 0, none⟩ = some (.bool n1) := HF.out.cell 0 0 rfl rfl
  have qq1 : V.cell? ⟨W.heap.size, 1, none⟩ = some (.slice o1 l1 c1) := HF.out.cell 0 1 rfl rfl
  have qq2 : V.cell? ⟨W.heap.size, 2, none⟩ = some (.bool n2) := HF.out.cell 0 2 rfl rfl
  have qq3 : V.cell? ⟨W.heap.size, 3, none⟩ = some (.slice o2 l2 c2) := HF.out.cell 0 3 rfl rfl
  have qq4 : V.cell? ⟨W.heap.size + 1, 0, none⟩ = some (.bool n3) := HF.out.cell 1 0 rfl rfl
  have qq5 : V.cell? ⟨W.heap.size + 1, 1, none⟩ = some (.slice o3 l3 c3) := HF.out.cell 1 1 rfl rfl
  have qq6 : V.cell? ⟨W.heap.size + 1, 2, none⟩ = some (.bool n4) := HF.out.cell 1 2 rfl rfl
  have qq7 : V.cell? ⟨W.heap.size + 1, 3, none⟩ = some (.slice o4 l4 c4) := HF.out.cell 1 3 rfl rfl
  go_region_held3 (fun w' => w'.cell? ⟨W.heap.size, 0, none⟩ = some (.bool n1) ∧ w'.cell? ⟨W.heap.size, 1, none⟩ = some (.slice o1 l1 c1) ∧ w'.cell? ⟨W.heap.size, 2, none⟩ = some (.bool n2) ∧ w'.cell? ⟨W.heap.size, 3, none⟩ = some (.slice o2 l2 c2) ∧ w'.cell? ⟨W.heap.size + 1, 0, none⟩ = some (.bool n3) ∧ w'.cell? ⟨W.heap.size + 1, 1, none⟩ = some (.slice o3 l3 c3) ∧ w'.cell? ⟨W.heap.size + 1, 2, none⟩ = some (.bool n4) ∧ w'.cell? ⟨W.heap.size + 1, 3, none⟩ = some (.slice o4 l4 c4)) (first | (go_keep; done) | ((try dsimp only); (repeat' apply And.intro) <;> (first | (go_keep; done) | (rw [cell_set4 _ _ _ _ _ _ _ _ (by omega)]; assumption) | (rw [cell_set3 _ _ _ _ _ _ _ (by omega)]; assumption) | (rw [cell_set2 _ _ _ _ _ _ (by omega)]; assumption))))
    (first | (go_at_call 17; refine (low_B _ _ _ _ _ _ _ _ (p * s + r * q) (q * s) _ HXa3.out HY0.out (by omega) (by omega) hc7 hm7 hc8 hm8 hy0).mono ?_; rintro e aw4 ⟨m1, u1, k1, d1, m2, u2, k2, d2, rfl, hB1, hB2, hk1, hd1, hk2, hd2, hz, hy, hb⟩; have hbb := hb; have FPa4 := Lib.hid (FPa3.out.later hbb); have HPa4 := Lib.hid (HPa3.out.keep hbb); have HQa4 := Lib.hid (HQa3.out.keep hbb); have HRa4 := Lib.hid (HRa3.out.keep hbb); have HSa4 := Lib.hid (HSa3.out.keep hbb); have HAa4 := Lib.hid (HAa3.out.keep hbb); have HBa4 := Lib.hid (HBa3.out.keep hbb); have HXa4 := Lib.hid (HXa3.out.keep hbb); have HYa4 := Lib.hid (HY0.out.keep hbb); have HZ0 := Lib.hid hz; have HU0 := Lib.hid hy; clear hz hy; clear hb hbb; have a4c0 : aw4.cell? ⟨W.heap.size, 0, none⟩ = some (.bool n1) := FPa4.out.cell 0 0 rfl rfl; have a4c1 : aw4.cell? ⟨W.heap.size, 1, none⟩ = some (.slice o1 l1 c1) := FPa4.out.cell 0 1 rfl rfl; have a4c2 : aw4.cell? ⟨W.heap.size, 2, none⟩ = some (.bool n2) := FPa4.out.cell 0 2 rfl rfl; have a4c3 : aw4.cell? ⟨W.heap.size, 3, none⟩ = some (.slice o2 l2 c2) := FPa4.out.cell 0 3 rfl rfl; have a4c4 : aw4.cell? ⟨W.heap.size + 1, 0, none⟩ = some (.bool n3) := FPa4.out.cell 1 0 rfl rfl; have a4c5 : aw4.cell? ⟨W.heap.size + 1, 1, none⟩ = some (.slice o3 l3 c3) := FPa4.out.cell 1 1 rfl rfl; have a4c6 : aw4.cell? ⟨W.heap.size + 1, 2, none⟩ = some (.bool n4) := FPa4.out.cell 1 2 rfl rfl; have a4c7 : aw4.cell? ⟨W.heap.size + 1, 3, none⟩ = some (.slice o4 l4 c4) := FPa4.out.cell 1 3 rfl rfl; have az0 : aw4.cell? ⟨W.heap.size + 2, 0, none⟩ = some (.bool false) := FPa4.out.cell 2 0 rfl rfl; have az1 : aw4.cell? ⟨W.heap.size + 2, 1, none⟩ = some (.slice none 0 0) := FPa4.out.cell 2 1 rfl rfl; have az2 : aw4.cell? ⟨W.heap.size + 2, 2, none⟩ = some (.bool false) := FPa4.out.cell 2 2 rfl rfl; have az3 : aw4.cell? ⟨W.heap.size + 2, 3, none⟩ = some (.slice none 0 0) := FPa4.out.cell 2 3 rfl rfl; have azf0 : aw4.frozen? ⟨W.heap.size + 2, 0, none⟩ = false := FPa4.out.frozen 2 0 rfl; have azf1 : aw4.frozen? ⟨W.heap.size + 2, 1, none⟩ = false := FPa4.out.frozen 2 1 rfl; have azf2 : aw4.frozen? ⟨W.heap.size + 2, 2, none⟩ = false := FPa4.out.frozen 2 2 rfl; have azf3 : aw4.frozen? ⟨W.heap.size + 2, 3, none⟩ = false := FPa4.out.frozen 2 3 rfl) | (go_at_call 80; refine (mulJ_L _ _ _ _ _ _ _ _ (q) (s) _ HQa2.out HSa2.out (by omega) (by omega)).mono ?_; rintro e aw3 ⟨n8, o8, l8, c8, rfl, hl8, hc8, hm8, hz, hb⟩; have hbb := hb; have FPa3 := Lib.hid (FPa2.out.later hbb); have HPa3 := Lib.hid (HPa2.out.keep hbb); have HQa3 := Lib.hid (HQa2.out.keep hbb); have HRa3 := Lib.hid (HRa2.out.keep hbb); have HSa3 := Lib.hid (HSa2.out.keep hbb); have HAa3 := Lib.hid (HAa2.out.keep hbb); have HBa3 := Lib.hid (HBa2.out.keep hbb); have HXa3 := Lib.hid (HX0.out.keep hbb); have HY0 := Lib.hid hz; clear hz; clear hb hbb; have a3c0 : aw3.cell? ⟨W.heap.size, 0, none⟩ = some (.bool n1) := FPa3.out.cell 0 0 rfl rfl; have a3c1 : aw3.cell? ⟨W.heap.size, 1, none⟩ = some (.slice o1 l1 c1) := FPa3.out.cell 0 1 rfl rfl; have a3c2 : aw3.cell? ⟨W.heap.size, 2, none⟩ = some (.bool n2) := FPa3.out.cell 0 2 rfl rfl; have a3c3 : aw3.cell? ⟨W.heap.size, 3, none⟩ = some (.slice o2 l2 c2) := FPa3.out.cell 0 3 rfl rfl; have a3c4 : aw3.cell? ⟨W.heap.size + 1, 0, none⟩ = some (.bool n3) := FPa3.out.cell 1 0 rfl rfl; have a3c5 : aw3.cell? ⟨W.heap.size + 1, 1, none⟩ = some (.slice o3 l3 c3) := FPa3.out.cell 1 1 rfl rfl; have a3c6 : aw3.cell? ⟨W.heap.size + 1, 2, none⟩ = some (.bool n4) := FPa3.out.cell 1 2 rfl rfl; have a3c7 : aw3.cell? ⟨W.heap.size + 1, 3, none⟩ = some (.slice o4 l4 c4) := FPa3.out.cell 1 3 rfl rfl) | (go_at_call 81; refine (addJ_L _ _ _ _ _ _ _ _ (p * s) (r * q) _ HAa1.out HB0.out (by omega) (by omega)).mono ?_; rintro e aw2 ⟨n7, o7, l7, c7, rfl, hl7, hc7, hm7, hz, hb⟩; have hbb := hb; have FPa2 := Lib.hid (FPa1.out.later hbb); have HPa2 := Lib.hid (HPa1.out.keep hbb); have HQa2 := Lib.hid (HQa1.out.keep hbb); have HRa2 := Lib.hid (HRa1.out.keep hbb); have HSa2 := Lib.hid (HSa1.out.keep hbb); have HAa2 := Lib.hid (HAa1.out.keep hbb); have HBa2 := Lib.hid (HB0.out.keep hbb); have HX0 := Lib.hid hz; clear hz; clear hb hbb; have a2c0 : aw2.cell? ⟨W.heap.size, 0, none⟩ = some (.bool n1) := FPa2.out.cell 0 0 rfl rfl; have a2c1 : aw2.cell? ⟨W.heap.size, 1, none⟩ = some (.slice o1 l1 c1) := FPa2.out.cell 0 1 rfl rfl; have a2c2 : aw2.cell? ⟨W.heap.size, 2, none⟩ = some (.bool n2) := FPa2.out.cell 0 2 rfl rfl; have a2c3 : aw2.cell? ⟨W.heap.size, 3, none⟩ = some (.slice o2 l2 c2) := FPa2.out.cell 0 3 rfl rfl; have a2c4 : aw2.cell? ⟨W.heap.size + 1, 0, none⟩ = some (.bool n3) := FPa2.out.cell 1 0 rfl rfl; have a2c5 : aw2.cell? ⟨W.heap.size + 1, 1, none⟩ = some (.slice o3 l3 c3) := FPa2.out.cell 1 1 rfl rfl; have a2c6 : aw2.cell? ⟨W.heap.size + 1, 2, none⟩ = some (.bool n4) := FPa2.out.cell 1 2 rfl rfl; have a2c7 : aw2.cell? ⟨W.heap.size + 1, 3, none⟩ = some (.slice o4 l4 c4) := FPa2.out.cell 1 3 rfl rfl) | (go_at_call 80; refine (mulJ_L _ _ _ _ _ _ _ _ (r) (q) _ HRa0.out HQa0.out (by omega) (by omega)).mono ?_; rintro e aw1 ⟨n6, o6, l6, c6, rfl, hl6, hc6, hm6, hz, hb⟩; have hbb := hb; have FPa1 := Lib.hid (FPa0.out.later hbb); have HPa1 := Lib.hid (HPa0.out.keep hbb); have HQa1 := Lib.hid (HQa0.out.keep hbb); have HRa1 := Lib.hid (HRa0.out.keep hbb); have HSa1 := Lib.hid (HSa0.out.keep hbb); have HAa1 := Lib.hid (HA0.out.keep hbb); have HB0 := Lib.hid hz; clear hz; clear hb hbb; have a1c0 : aw1.cell? ⟨W.heap.size, 0, none⟩ = some (.bool n1) := FPa1.out.cell 0 0 rfl rfl; have a1c1 : aw1.cell? ⟨W.heap.size, 1, none⟩ = some (.slice o1 l1 c1) := FPa1.out.cell 0 1 rfl rfl; have a1c2 : aw1.cell? ⟨W.heap.size, 2, none⟩ = some (.bool n2) := FPa1.out.cell 0 2 rfl rfl; have a1c3 : aw1.cell? ⟨W.heap.size, 3, none⟩ = some (.slice o2 l2 c2) := FPa1.out.cell 0 3 rfl rfl; have a1c4 : aw1.cell? ⟨W.heap.size + 1, 0, none⟩ = some (.bool n3) := FPa1.out.cell 1 0 rfl rfl; have a1c5 : aw1.cell? ⟨W.heap.size + 1, 1, none⟩ = some (.slice o3 l3 c3) := FPa1.out.cell 1 1 rfl rfl; have a1c6 : aw1.cell? ⟨W.heap.size + 1, 2, none⟩ = some (.bool n4) := FPa1.out.cell 1 2 rfl rfl; have a1c7 : aw1.cell? ⟨W.heap.size + 1, 3, none⟩ = some (.slice o4 l4 c4) := FPa1.out.cell 1 3 rfl rfl) | (go_at_call 80; refine (mulJ_L _ _ _ _ _ _ _ _ (p) (s) V.drew (HP_0.out.keep (Below.refl _ _).drew) (HS_0.out.keep (Below.refl _ _).drew) (by omega) (by omega)).mono ?_; rintro e aw0 ⟨n5, o5, l5, c5, rfl, hl5, hc5, hm5, hz, hb⟩; have hbb := below_of_drew hb; have FPa0 := Lib.hid (HF.out.later hbb); have HPa0 := Lib.hid (HP_0.out.keep hbb); have HQa0 := Lib.hid (HQ_0.out.keep hbb); have HRa0 := Lib.hid (HR_0.out.keep hbb); have HSa0 := Lib.hid (HS_0.out.keep hbb); have HA0 := Lib.hid hz; clear hz; clear hb hbb; have a0c0 : aw0.cell? ⟨W.heap.size, 0, none⟩ = some (.bool n1) := FPa0.out.cell 0 0 rfl rfl; have a0c1 : aw0.cell? ⟨W.heap.size, 1, none⟩ = some (.slice o1 l1 c1) := FPa0.out.cell 0 1 rfl rfl; have a0c2 : aw0.cell? ⟨W.heap.size, 2, none⟩ = some (.bool n2) := FPa0.out.cell 0 2 rfl rfl; have a0c3 : aw0.cell? ⟨W.heap.size, 3, none⟩ = some (.slice o2 l2 c2) := FPa0.out.cell 0 3 rfl rfl; have a0c4 : aw0.cell? ⟨W.heap.size + 1, 0, none⟩ = some (.bool n3) := FPa0.out.cell 1 0 rfl rfl; have a0c5 : aw0.cell? ⟨W.heap.size + 1, 1, none⟩ = some (.slice o3 l3 c3) := FPa0.out.cell 1 1 rfl rfl; have a0c6 : aw0.cell? ⟨W.heap.size + 1, 2, none⟩ = some (.bool n4) := FPa0.out.cell 1 2 rfl rfl; have a0c7 : aw0.cell? ⟨W.heap.size + 1, 3, none⟩ = some (.slice o4 l4 c4) := FPa0.out.cell 1 3 rfl rfl))
  go_wp2
  obtain ⟨e0, e1, e2, e3, k_1, k_2, hbel⟩ := FPa4.out.finK (c1 := d1) (c2 := d2) 2 rfl HZ0.out HU0.out
  exact bodyPost_ret (v := .agg #[.bool m1, .slice u1 k1 d1, .bool m2, .slice u2 k2 d2]) (by simp [results, Tryz.results38, go_sem, e0, e1, e2, e3]) rfl ⟨m1, u1, k1, d1, m2, u2, k2, d2, rfl, hB1, hB2, hk1, hd1, hk2, hd2, k_1, k_2, hbel⟩

set_option maxRecDepth 4000 in
set_option maxHeartbeats 2000000 in
theorem refSub_any (n1 n2 n3 n4 : Bool) (o1 o2 o3 o4 : Option Addr) (l1 l2 l3 l4 c1 c2 c3 c4 : Nat) (p q r s : Int) (W : World) (h1 : Z16 W n1 o1 l1 p) (h2 : Z16 W n2 o2 l2 q) (h3 : Z16 W n3 o3 l3 r) (h4 : Z16 W n4 o4 l4 s) (b1 : l1 ≤ 10000) (b2 : l2 ≤ 10000) (b3 : l3 ≤ 10000) (b4 : l4 ≤ 10000) (hq : q ≠ 0) (hs : s ≠ 0) :
    Calls Tryz.prog 39 #[.agg #[.bool n1, .slice o1 l1 c1, .bool n2, .slice o2 l2 c2], .agg #[.bool n3, .slice o3 l3 c3, .bool n4, .slice o4 l4 c4]] W (OutKB W (lowP (p * s - r * q) (q * s)) (lowQ (p * s - r * q) (q * s) : Int)) := by
  have hf : Fr W (((W.alloc (.cells #[.bool n1, .slice o1 l1 c1, .bool n2, .slice o2 l2 c2] 43)).alloc (.cells #[.bool n3, .slice o3 l3 c3, .bool n4, .slice o4 l4 c4] 43)).alloc (.cells #[.bool false, .slice none 0 0, .bool false, .slice none 0 0] 43)) [(43, #[.bool n1, .slice o1 l1 c1, .bool n2, .slice o2 l2 c2]), (43, #[.bool n3, .slice o3 l3 c3, .bool n4, .slice o4 l4 c4]), (43, #[.bool false, .slice none 0 0, .bool false, .slice none 0 0])] := (((Fr.nil W).alloc rfl _ _).alloc (by simp) _ _).alloc (by simp) _ _
  have hy0 : q * s ≠ 0 := Int.mul_ne_zero hq hs
  have HF := Lib.hid hf
  have HP_0 := Lib.hid (h1.keep hf.below)
  have HQ_0 := Lib.hid (h2.keep hf.below)
  have HR_0 := Lib.hid (h3.keep hf.below)
  have HS_0 := Lib.hid (h4.keep hf.below)
  clear hf h1 h2 h3 h4
  go_enter Tryz.func39, Tryz.ntmps39
  go_wp2_with fail
  obtain ⟨V, hV⟩ : ∃ V, V = (((W.alloc (.cells #[.bool n1, .slice o1 l1 c1, .bool n2, .slice o2 l2 c2] 43)).alloc (.cells #[.bool n3, .slice o3 l3 c3, .bool n4, .slice o4 l4 c4] 43)).alloc (.cells #[.bool false, .slice none 0 0, .bool false, .slice none 0 0] 43)) := ⟨_, rfl⟩
  rw [← hV] at HF HP_0 HQ_0 HR_0 HS_0 ⊢
  clear hV
  have qq0 : V.cell? ⟨W.heap.size, 0, none⟩ = some (.bool n1) := HF.out.cell 0 0 rfl rfl
  have qq1 : V.cell? ⟨W.heap.size, 1, none⟩ = some (.slice o1 l1 c1) := HF.out.cell 0 1 rfl rfl
  have qq2 : V.cell? ⟨W.heap.size, 2, none⟩ = some (.bool n2) := HF.out.cell 0 2 rfl rfl
  have qq3 : V.cell? ⟨W.heap.size, 3, none⟩ = some (.slice o2 l2 c2) := HF.out.cell 0 3 rfl rfl
  have qq4 : V.cell? ⟨W.heap.size + 1, 0, none⟩ = some (.bool n3) := HF.out.cell 1 0 rfl rfl
  have qq5 : V.cell? ⟨W.heap.size + 1, 1, none⟩ = some (.slice o3 l3 c3) := HF.out.cell 1 1 rfl rfl
  have qq6 : V.cell? ⟨W.heap.size + 1, 2, none⟩ = some (.bool n4) := HF.out.cell 1 2 rfl rfl
  have qq7 : V.cell? ⟨W.heap.size + 1, 3, none⟩ = some (.slice o4 l4 c4) := HF.out.cell 1 3 rfl rfl
  go_region_held3 (fun w' => w'.cell? ⟨W.heap.size, 0, none⟩ = some (.bool n1) ∧ w'.cell? ⟨W.heap.size, 1, none⟩ = some (.slice o1 l1 c1) ∧ w'.cell? ⟨W.heap.size, 2, none⟩ = some (.bool n2) ∧ w'.cell? ⟨W.heap.size, 3, none⟩ = some (.slice o2 l2 c2) ∧ w'.cell? ⟨W.heap.size + 1, 0, none⟩ = some (.bool n3) ∧ w'.cell? ⟨W.heap.size + 1, 1, none⟩ = some (.slice o3 l3 c3) ∧ w'.cell? ⟨W.heap.size + 1, 2, none⟩ = some (.bool n4) ∧ w'.cell? ⟨W.heap.size + 1, 3, none⟩ = some (.slice o4 l4 c4)) (first | (go_keep; done) | ((try dsimp only); (repeat' apply And.intro) <;> (first | (go_keep; done) | (rw [cell_set4 _ _ _ _ _ _ _ _ (by omega)]; assumption) | (rw [cell_set3 _ _ _ _ _ _ _ (by omega)]; assumption) | (rw [cell_set2 _ _ _ _ _ _ (by omega)]; assumption))))
    (first | (go_at_call 17; refine (low_B _ _ _ _ _ _ _ _ (p * s - r * q) (q * s) _ HXs3.out HY0.out (by omega) (by omega) hc7 hm7 hc8 hm8 hy0).mono ?_; rintro e sw4 ⟨m1, u1, k1, d1, m2, u2, k2, d2, rfl, hB1, hB2, hk1, hd1, hk2, hd2, hz, hy, hb⟩; have hbb := hb; have FPs4 := Lib.hid (FPs3.out.later hbb); have HPs4 := Lib.hid (HPs3.out.keep hbb); have HQs4 := Lib.hid (HQs3.out.keep hbb); have HRs4 := Lib.hid (HRs3.out.keep hbb); have HSs4 := Lib.hid (HSs3.out.keep hbb); have HAs4 := Lib.hid (HAs3.out.keep hbb); have HBs4 := Lib.hid (HBs3.out.keep hbb); have HXs4 := Lib.hid (HXs3.out.keep hbb); have HYs4 := Lib.hid (HY0.out.keep hbb); have HZ0 := Lib.hid hz; have HU0 := Lib.hid hy; clear hz hy; clear hb hbb; have s4c0 : sw4.cell? ⟨W.heap.size, 0, none⟩ = some (.bool n1) := FPs4.out.cell 0 0 rfl rfl; have s4c1 : sw4.cell? ⟨W.heap.size, 1, none⟩ = some (.slice o1 l1 c1) := FPs4.out.cell 0 1 rfl rfl; have s4c2 : sw4.cell? ⟨W.heap.size, 2, none⟩ = some (.bool n2) := FPs4.out.cell 0 2 rfl rfl; have s4c3 : sw4.cell? ⟨W.heap.size, 3, none⟩ = some (.slice o2 l2 c2) := FPs4.out.cell 0 3 rfl rfl; have s4c4 : sw4.cell? ⟨W.heap.size + 1, 0, none⟩ = some (.bool n3) := FPs4.out.cell 1 0 rfl rfl; have s4c5 : sw4.cell? ⟨W.heap.size + 1, 1, none⟩ = some (.slice o3 l3 c3) := FPs4.out.cell 1 1 rfl rfl; have s4c6 : sw4.cell? ⟨W.heap.size + 1, 2, none⟩ = some (.bool n4) := FPs4.out.cell 1 2 rfl rfl; have s4c7 : sw4.cell? ⟨W.heap.size + 1, 3, none⟩ = some (.slice o4 l4 c4) := FPs4.out.cell 1 3 rfl rfl; have sz0 : sw4.cell? ⟨W.heap.size + 2, 0, none⟩ = some (.bool false) := FPs4.out.cell 2 0 rfl rfl; have sz1 : sw4.cell? ⟨W.heap.size + 2, 1, none⟩ = some (.slice none 0 0) := FPs4.out.cell 2 1 rfl rfl; have sz2 : sw4.cell? ⟨W.heap.size + 2, 2, none⟩ = some (.bool false) := FPs4.out.cell 2 2 rfl rfl; have sz3 : sw4.cell? ⟨W.heap.size + 2, 3, none⟩ = some (.slice none 0 0) := FPs4.out.cell 2 3 rfl rfl; have szf0 : sw4.frozen? ⟨W.heap.size + 2, 0, none⟩ = false := FPs4.out.frozen 2 0 rfl; have szf1 : sw4.frozen? ⟨W.heap.size + 2, 1, none⟩ = false := FPs4.out.frozen 2 1 rfl; have szf2 : sw4.frozen? ⟨W.heap.size + 2, 2, none⟩ = false := FPs4.out.frozen 2 2 rfl; have szf3 : sw4.frozen? ⟨W.heap.size + 2, 3, none⟩ = false := FPs4.out.frozen 2 3 rfl) | (go_at_call 80; refine (mulJ_L _ _ _ _ _ _ _ _ (q) (s) _ HQs2.out HSs2.out (by omega) (by omega)).mono ?_; rintro e sw3 ⟨n8, o8, l8, c8, rfl, hl8, hc8, hm8, hz, hb⟩; have hbb := hb; have FPs3 := Lib.hid (FPs2.out.later hbb); have HPs3 := Lib.hid (HPs2.out.keep hbb); have HQs3 := Lib.hid (HQs2.out.keep hbb); have HRs3 := Lib.hid (HRs2.out.keep hbb); have HSs3 := Lib.hid (HSs2.out.keep hbb); have HAs3 := Lib.hid (HAs2.out.keep hbb); have HBs3 := Lib.hid (HBs2.out.keep hbb); have HXs3 := Lib.hid (HX0.out.keep hbb); have HY0 := Lib.hid hz; clear hz; clear hb hbb; have s3c0 : sw3.cell? ⟨W.heap.size, 0, none⟩ = some (.bool n1) := FPs3.out.cell 0 0 rfl rfl; have s3c1 : sw3.cell? ⟨W.heap.size, 1, none⟩ = some (.slice o1 l1 c1) := FPs3.out.cell 0 1 rfl rfl; have s3c2 : sw3.cell? ⟨W.heap.size, 2, none⟩ = some (.bool n2) := FPs3.out.cell 0 2 rfl rfl; have s3c3 : sw3.cell? ⟨W.heap.size, 3, none⟩ = some (.slice o2 l2 c2) := FPs3.out.cell 0 3 rfl rfl; have s3c4 : sw3.cell? ⟨W.heap.size + 1, 0, none⟩ = some (.bool n3) := FPs3.out.cell 1 0 rfl rfl; have s3c5 : sw3.cell? ⟨W.heap.size + 1, 1, none⟩ = some (.slice o3 l3 c3) := FPs3.out.cell 1 1 rfl rfl; have s3c6 : sw3.cell? ⟨W.heap.size + 1, 2, none⟩ = some (.bool n4) := FPs3.out.cell 1 2 rfl rfl; have s3c7 : sw3.cell? ⟨W.heap.size + 1, 3, none⟩ = some (.slice o4 l4 c4) := FPs3.out.cell 1 3 rfl rfl) | (go_at_call 82; refine (subJ_L _ _ _ _ _ _ _ _ (p * s) (r * q) _ HAs1.out HB0.out (by omega) (by omega) hc6 hm6).mono ?_; rintro e sw2 ⟨n7, o7, l7, c7, rfl, hl7, hc7, hm7, hz, hb⟩; have hbb := hb; have FPs2 := Lib.hid (FPs1.out.later hbb); have HPs2 := Lib.hid (HPs1.out.keep hbb); have HQs2 := Lib.hid (HQs1.out.keep hbb); have HRs2 := Lib.hid (HRs1.out.keep hbb); have HSs2 := Lib.hid (HSs1.out.keep hbb); have HAs2 := Lib.hid (HAs1.out.keep hbb); have HBs2 := Lib.hid (HB0.out.keep hbb); have HX0 := Lib.hid hz; clear hz; clear hb hbb; have s2c0 : sw2.cell? ⟨W.heap.size, 0, none⟩ = some (.bool n1) := FPs2.out.cell 0 0 rfl rfl; have s2c1 : sw2.cell? ⟨W.heap.size, 1, none⟩ = some (.slice o1 l1 c1) := FPs2.out.cell 0 1 rfl rfl; have s2c2 : sw2.cell? ⟨W.heap.size, 2, none⟩ = some (.bool n2) := FPs2.out.cell 0 2 rfl rfl; have s2c3 : sw2.cell? ⟨W.heap.size, 3, none⟩ = some (.slice o2 l2 c2) := FPs2.out.cell 0 3 rfl rfl; have s2c4 : sw2.cell? ⟨W.heap.size + 1, 0, none⟩ = some (.bool n3) := FPs2.out.cell 1 0 rfl rfl; have s2c5 : sw2.cell? ⟨W.heap.size + 1, 1, none⟩ = some (.slice o3 l3 c3) := FPs2.out.cell 1 1 rfl rfl; have s2c6 : sw2.cell? ⟨W.heap.size + 1, 2, none⟩ = some (.bool n4) := FPs2.out.cell 1 2 rfl rfl; have s2c7 : sw2.cell? ⟨W.heap.size + 1, 3, none⟩ = some (.slice o4 l4 c4) := FPs2.out.cell 1 3 rfl rfl) | (go_at_call 80; refine (mulJ_L _ _ _ _ _ _ _ _ (r) (q) _ HRs0.out HQs0.out (by omega) (by omega)).mono ?_; rintro e sw1 ⟨n6, o6, l6, c6, rfl, hl6, hc6, hm6, hz, hb⟩; have hbb := hb; have FPs1 := Lib.hid (FPs0.out.later hbb); have HPs1 := Lib.hid (HPs0.out.keep hbb); have HQs1 := Lib.hid (HQs0.out.keep hbb); have HRs1 := Lib.hid (HRs0.out.keep hbb); have HSs1 := Lib.hid (HSs0.out.keep hbb); have HAs1 := Lib.hid (HA0.out.keep hbb); have HB0 := Lib.hid hz; clear hz; clear hb hbb; have s1c0 : sw1.cell? ⟨W.heap.size, 0, none⟩ = some (.bool n1) := FPs1.out.cell 0 0 rfl rfl; have s1c1 : sw1.cell? ⟨W.heap.size, 1, none⟩ = some (.slice o1 l1 c1) := FPs1.out.cell 0 1 rfl rfl; have s1c2 : sw1.cell? ⟨W.heap.size, 2, none⟩ = some (.bool n2) := FPs1.out.cell 0 2 rfl rfl; have s1c3 : sw1.cell? ⟨W.heap.size, 3, none⟩ = some (.slice o2 l2 c2) := FPs1.out.cell 0 3 rfl rfl; have s1c4 : sw1.cell? ⟨W.heap.size + 1, 0, none⟩ = some (.bool n3) := FPs1.out.cell 1 0 rfl rfl; have s1c5 : sw1.cell? ⟨W.heap.size + 1, 1, none⟩ = some (.slice o3 l3 c3) := FPs1.out.cell 1 1 rfl rfl; have s1c6 : sw1.cell? ⟨W.heap.size + 1, 2, none⟩ = some (.bool n4) := FPs1.out.cell 1 2 rfl rfl; have s1c7 : sw1.cell? ⟨W.heap.size + 1, 3, none⟩ = some (.slice o4 l4 c4) := FPs1.out.cell 1 3 rfl rfl) | (go_at_call 80; refine (mulJ_L _ _ _ _ _ _ _ _ (p) (s) V.drew (HP_0.out.keep (Below.refl _ _).drew) (HS_0.out.keep (Below.refl _ _).drew) (by omega) (by omega)).mono ?_; rintro e sw0 ⟨n5, o5, l5, c5, rfl, hl5, hc5, hm5, hz, hb⟩; have hbb := below_of_drew hb; have FPs0 := Lib.hid (HF.out.later hbb); have HPs0 := Lib.hid (HP_0.out.keep hbb); have HQs0 := Lib.hid (HQ_0.out.keep hbb); have HRs0 := Lib.hid (HR_0.out.keep hbb); have HSs0 := Lib.hid (HS_0.out.keep hbb); have HA0 := Lib.hid hz; clear hz; clear hb hbb; have s0c0 : sw0.cell? ⟨W.heap.size, 0, none⟩ = some (.bool n1) := FPs0.out.cell 0 0 rfl rfl; have s0c1 : sw0.cell? ⟨W.heap.size, 1, none⟩ = some (.slice o1 l1 c1) := FPs0.out.cell 0 1 rfl rfl; have s0c2 : sw0.cell? ⟨W.heap.size, 2, none⟩ = some (.bool n2) := FPs0.out.cell 0 2 rfl rfl; have s0c3 : sw0.cell? ⟨W.heap.size, 3, none⟩ = some (.slice o2 l2 c2) := FPs0.out.cell 0 3 rfl rfl; have s0c4 : sw0.cell? ⟨W.heap.size + 1, 0, none⟩ = some (.bool n3) := FPs0.out.cell 1 0 rfl rfl; have s0c5 : sw0.cell? ⟨W.heap.size + 1, 1, none⟩ = some (.slice o3 l3 c3) := FPs0.out.cell 1 1 rfl rfl; have s0c6 : sw0.cell? ⟨W.heap.size + 1, 2, none⟩ = some (.bool n4) := FPs0.out.cell 1 2 rfl rfl; have s0c7 : sw0.cell? ⟨W.heap.size + 1, 3, none⟩ = some (.slice o4 l4 c4) := FPs0.out.cell 1 3 rfl rfl))
  go_wp2
  obtain ⟨e0, e1, e2, e3, k_1, k_2, hbel⟩ := FPs4.out.finK (c1 := d1) (c2 := d2) 2 rfl HZ0.out HU0.out
  exact bodyPost_ret (v := .agg #[.bool m1, .slice u1 k1 d1, .bool m2, .slice u2 k2 d2]) (by simp [results, Tryz.results39, go_sem, e0, e1, e2, e3]) rfl ⟨m1, u1, k1, d1, m2, u2, k2, d2, rfl, hB1, hB2, hk1, hd1, hk2, hd2, k_1, k_2, hbel⟩

set_option maxRecDepth 4000 in
set_option maxHeartbeats 2000000 in
theorem refQuo_any (n1 n2 n3 n4 : Bool) (o1 o2 o3 o4 : Option Addr) (l1 l2 l3 l4 c1 c2 c3 c4 : Nat) (p q r s : Int) (W : World) (h1 : Z16 W n1 o1 l1 p) (h2 : Z16 W n2 o2 l2 q) (h3 : Z16 W n3 o3 l3 r) (h4 : Z16 W n4 o4 l4 s) (b1 : l1 ≤ 10000) (b2 : l2 ≤ 10000) (b3 : l3 ≤ 10000) (b4 : l4 ≤ 10000) (hq : q ≠ 0) (hr : r ≠ 0) :
    Calls Tryz.prog 41 #[.agg #[.bool n1, .slice o1 l1 c1, .bool n2, .slice o2 l2 c2], .agg #[.bool n3, .slice o3 l3 c3, .bool n4, .slice o4 l4 c4]] W (OutKB W (lowP (p * s) (q * r)) (lowQ (p * s) (q * r) : Int)) := by
  have hf : Fr W (((W.alloc (.cells #[.bool n1, .slice o1 l1 c1, .bool n2, .slice o2 l2 c2] 43)).alloc (.cells #[.bool n3, .slice o3 l3 c3, .bool n4, .slice o4 l4 c4] 43)).alloc (.cells #[.bool false, .slice none 0 0, .bool false, .slice none 0 0] 43)) [(43, #[.bool n1, .slice o1 l1 c1, .bool n2, .slice o2 l2 c2]), (43, #[.bool n3, .slice o3 l3 c3, .bool n4, .slice o4 l4 c4]), (43, #[.bool false, .slice none 0 0, .bool false, .slice none 0 0])] := (((Fr.nil W).alloc rfl _ _).alloc (by simp) _ _).alloc (by simp) _ _
  have hy0 : q * r ≠ 0 := Int.mul_ne_zero hq hr
  have HF := Lib.hid hf
  have HP_0 := Lib.hid (h1.keep hf.below)
  have HQ_0 := Lib.hid (h2.keep hf.below)
  have HR_0 := Lib.hid (h3.keep hf.below)
  have HS_0 := Lib.hid (h4.keep hf.below)
  clear hf h1 h2 h3 h4
  go_enter Tryz.func41, Tryz.ntmps41
  go_wp2_with fail
  obtain ⟨V, hV⟩ : ∃ V, V = (((W.alloc (.cells #[.bool n1, .slice o1 l1 c1, .bool n2, .slice o2 l2 c2] 43)).alloc (.cells #[.bool n3, .slice o3 l3 c3, .bool n4, .slice o4 l4 c4] 43)).alloc (.cells #[.bool false, .slice none 0 0, .bool false, .slice none 0 0] 43)) := ⟨_, rfl⟩
  rw [← hV] at HF HP_0 HQ_0 HR_0 HS_0 ⊢
  clear hV
  have qq0 : V.cell? ⟨W.heap.size, 0, none⟩ = some (.bool n1) := HF.out.cell 0 0 rfl rfl
  have qq1 : V.cell? ⟨W.heap.size, 1, none⟩ = some (.slice o1 l1 c1) := HF.out.cell 0 1 rfl rfl
  have qq2 : V.cell? ⟨W.heap.size, 2, none⟩ = some (.bool n2) := HF.out.cell 0 2 rfl rfl
  have qq3 : V.cell? ⟨W.heap.size, 3, none⟩ = some (.slice o2 l2 c2) := HF.out.cell 0 3 rfl rfl
  have qq4 : V.cell? ⟨W.heap.size + 1, 0, none⟩ = some (.bool n3) := HF.out.cell 1 0 rfl rfl
  have qq5 : V.cell? ⟨W.heap.size + 1, 1, none⟩ = some (.slice o3 l3 c3) := HF.out.cell 1 1 rfl rfl
  have qq6 : V.cell? ⟨W.heap.size + 1, 2, none⟩ = some (.bool n4) := HF.out.cell 1 2 rfl rfl
  have qq7 : V.cell? ⟨W.heap.size + 1, 3, none⟩ = some (.slice o4 l4 c4) := HF.out.cell 1 3 rfl rfl
  go_region_held3 (fun w' => w'.cell? ⟨W.heap.size, 0, none⟩ = some (.bool n1) ∧ w'.cell? ⟨W.heap.size, 1, none⟩ = some (.slice o1 l1 c1) ∧ w'.cell? ⟨W.heap.size, 2, none⟩ = some (.bool n2) ∧ w'.cell? ⟨W.heap.size, 3, none⟩ = some (.slice o2 l2 c2) ∧ w'.cell? ⟨W.heap.size + 1, 0, none⟩ = some (.bool n3) ∧ w'.cell? ⟨W.heap.size + 1, 1, none⟩ = some (.slice o3 l3 c3) ∧ w'.cell? ⟨W.heap.size + 1, 2, none⟩ = some (.bool n4) ∧ w'.cell? ⟨W.heap.size + 1, 3, none⟩ = some (.slice o4 l4 c4)) (first | (go_keep; done) | ((try dsimp only); (repeat' apply And.intro) <;> (first | (go_keep; done) | (rw [cell_set4 _ _ _ _ _ _ _ _ (by omega)]; assumption) | (rw [cell_set3 _ _ _ _ _ _ _ (by omega)]; assumption) | (rw [cell_set2 _ _ _ _ _ _ (by omega)]; assumption))))
    (first | (go_at_call 17; refine (low_B _ _ _ _ _ _ _ _ (p * s) (q * r) _ HXq1.out HY0.out (by omega) (by omega) hc5 hm5 hc6 hm6 hy0).mono ?_; rintro e qw2 ⟨m1, u1, k1, d1, m2, u2, k2, d2, rfl, hB1, hB2, hk1, hd1, hk2, hd2, hz, hy, hb⟩; have hbb := hb; have FPq2 := Lib.hid (FPq1.out.later hbb); have HPq2 := Lib.hid (HPq1.out.keep hbb); have HQq2 := Lib.hid (HQq1.out.keep hbb); have HRq2 := Lib.hid (HRq1.out.keep hbb); have HSq2 := Lib.hid (HSq1.out.keep hbb); have HXq2 := Lib.hid (HXq1.out.keep hbb); have HYq2 := Lib.hid (HY0.out.keep hbb); have HZ0 := Lib.hid hz; have HU0 := Lib.hid hy; clear hz hy; clear hb hbb; have q2c0 : qw2.cell? ⟨W.heap.size, 0, none⟩ = some (.bool n1) := FPq2.out.cell 0 0 rfl rfl; have q2c1 : qw2.cell? ⟨W.heap.size, 1, none⟩ = some (.slice o1 l1 c1) := FPq2.out.cell 0 1 rfl rfl; have q2c2 : qw2.cell? ⟨W.heap.size, 2, none⟩ = some (.bool n2) := FPq2.out.cell 0 2 rfl rfl; have q2c3 : qw2.cell? ⟨W.heap.size, 3, none⟩ = some (.slice o2 l2 c2) := FPq2.out.cell 0 3 rfl rfl; have q2c4 : qw2.cell? ⟨W.heap.size + 1, 0, none⟩ = some (.bool n3) := FPq2.out.cell 1 0 rfl rfl; have q2c5 : qw2.cell? ⟨W.heap.size + 1, 1, none⟩ = some (.slice o3 l3 c3) := FPq2.out.cell 1 1 rfl rfl; have q2c6 : qw2.cell? ⟨W.heap.size + 1, 2, none⟩ = some (.bool n4) := FPq2.out.cell 1 2 rfl rfl; have q2c7 : qw2.cell? ⟨W.heap.size + 1, 3, none⟩ = some (.slice o4 l4 c4) := FPq2.out.cell 1 3 rfl rfl; have qz0 : qw2.cell? ⟨W.heap.size + 2, 0, none⟩ = some (.bool false) := FPq2.out.cell 2 0 rfl rfl; have qz1 : qw2.cell? ⟨W.heap.size + 2, 1, none⟩ = some (.slice none 0 0) := FPq2.out.cell 2 1 rfl rfl; have qz2 : qw2.cell? ⟨W.heap.size + 2, 2, none⟩ = some (.bool false) := FPq2.out.cell 2 2 rfl rfl; have qz3 : qw2.cell? ⟨W.heap.size + 2, 3, none⟩ = some (.slice none 0 0) := FPq2.out.cell 2 3 rfl rfl; have qzf0 : qw2.frozen? ⟨W.heap.size + 2, 0, none⟩ = false := FPq2.out.frozen 2 0 rfl; have qzf1 : qw2.frozen? ⟨W.heap.size + 2, 1, none⟩ = false := FPq2.out.frozen 2 1 rfl; have qzf2 : qw2.frozen? ⟨W.heap.size + 2, 2, none⟩ = false := FPq2.out.frozen 2 2 rfl; have qzf3 : qw2.frozen? ⟨W.heap.size + 2, 3, none⟩ = false := FPq2.out.frozen 2 3 rfl) | (go_at_call 80; refine (mulJ_L _ _ _ _ _ _ _ _ (q) (r) _ HQq0.out HRq0.out (by omega) (by omega)).mono ?_; rintro e qw1 ⟨n6, o6, l6, c6, rfl, hl6, hc6, hm6, hz, hb⟩; have hbb := hb; have FPq1 := Lib.hid (FPq0.out.later hbb); have HPq1 := Lib.hid (HPq0.out.keep hbb); have HQq1 := Lib.hid (HQq0.out.keep hbb); have HRq1 := Lib.hid (HRq0.out.keep hbb); have HSq1 := Lib.hid (HSq0.out.keep hbb); have HXq1 := Lib.hid (HX0.out.keep hbb); have HY0 := Lib.hid hz; clear hz; clear hb hbb; have q1c0 : qw1.cell? ⟨W.heap.size, 0, none⟩ = some (.bool n1) := FPq1.out.cell 0 0 rfl rfl; have q1c1 : qw1.cell? ⟨W.heap.size, 1, none⟩ = some (.slice o1 l1 c1) := FPq1.out.cell 0 1 rfl rfl; have q1c2 : qw1.cell? ⟨W.heap.size, 2, none⟩ = some (.bool n2) := FPq1.out.cell 0 2 rfl rfl; have q1c3 : qw1.cell? ⟨W.heap.size, 3, none⟩ = some (.slice o2 l2 c2) := FPq1.out.cell 0 3 rfl rfl; have q1c4 : qw1.cell? ⟨W.heap.size + 1, 0, none⟩ = some (.bool n3) := FPq1.out.cell 1 0 rfl rfl; have q1c5 : qw1.cell? ⟨W.heap.size + 1, 1, none⟩ = some (.slice o3 l3 c3) := FPq1.out.cell 1 1 rfl rfl; have q1c6 : qw1.cell? ⟨W.heap.size + 1, 2, none⟩ = some (.bool n4) := FPq1.out.cell 1 2 rfl rfl; have q1c7 : qw1.cell? ⟨W.heap.size + 1, 3, none⟩ = some (.slice o4 l4 c4) := FPq1.out.cell 1 3 rfl rfl) | (go_at_call 80; refine (mulJ_L _ _ _ _ _ _ _ _ (p) (s) V.drew (HP_0.out.keep (Below.refl _ _).drew) (HS_0.out.keep (Below.refl _ _).drew) (by omega) (by omega)).mono ?_; rintro e qw0 ⟨n5, o5, l5, c5, rfl, hl5, hc5, hm5, hz, hb⟩; have hbb := below_of_drew hb; have FPq0 := Lib.hid (HF.out.later hbb); have HPq0 := Lib.hid (HP_0.out.keep hbb); have HQq0 := Lib.hid (HQ_0.out.keep hbb); have HRq0 := Lib.hid (HR_0.out.keep hbb); have HSq0 := Lib.hid (HS_0.out.keep hbb); have HX0 := Lib.hid hz; clear hz; clear hb hbb; have q0c0 : qw0.cell? ⟨W.heap.size, 0, none⟩ = some (.bool n1) := FPq0.out.cell 0 0 rfl rfl; have q0c1 : qw0.cell? ⟨W.heap.size, 1, none⟩ = some (.slice o1 l1 c1) := FPq0.out.cell 0 1 rfl rfl; have q0c2 : qw0.cell? ⟨W.heap.size, 2, none⟩ = some (.bool n2) := FPq0.out.cell 0 2 rfl rfl; have q0c3 : qw0.cell? ⟨W.heap.size, 3, none⟩ = some (.slice o2 l2 c2) := FPq0.out.cell 0 3 rfl rfl; have q0c4 : qw0.cell? ⟨W.heap.size + 1, 0, none⟩ = some (.bool n3) := FPq0.out.cell 1 0 rfl rfl; have q0c5 : qw0.cell? ⟨W.heap.size + 1, 1, none⟩ = some (.slice o3 l3 c3) := FPq0.out.cell 1 1 rfl rfl; have q0c6 : qw0.cell? ⟨W.heap.size + 1, 2, none⟩ = some (.bool n4) := FPq0.out.cell 1 2 rfl rfl; have q0c7 : qw0.cell? ⟨W.heap.size + 1, 3, none⟩ = some (.slice o4 l4 c4) := FPq0.out.cell 1 3 rfl rfl))
  go_wp2
  obtain ⟨e0, e1, e2, e3, k_1, k_2, hbel⟩ := FPq2.out.finK (c1 := d1) (c2 := d2) 2 rfl HZ0.out HU0.out
  exact bodyPost_ret (v := .agg #[.bool m1, .slice u1 k1 d1, .bool m2, .slice u2 k2 d2]) (by simp [results, Tryz.results41, go_sem, e0, e1, e2, e3]) rfl ⟨m1, u1, k1, d1, m2, u2, k2, d2, rfl, hB1, hB2, hk1, hd1, hk2, hd2, k_1, k_2, hbel⟩

set_option maxRecDepth 4000 in
set_option maxHeartbeats 2000000 in
theorem refCmp_any (n1 n2 n3 n4 : Bool) (o1 o2 o3 o4 : Option Addr) (l1 l2 l3 l4 c1 c2 c3 c4 : Nat) (p q r s : Int) (W : World) (h1 : Z16 W n1 o1 l1 p) (h2 : Z16 W n2 o2 l2 q) (h3 : Z16 W n3 o3 l3 r) (h4 : Z16 W n4 o4 l4 s) (b1 : l1 ≤ 10000) (b2 : l2 ≤ 10000) (b3 : l3 ≤ 10000) (b4 : l4 ≤ 10000) :
    Calls Tryz.prog 37 #[.agg #[.bool n1, .slice o1 l1 c1, .bool n2, .slice o2 l2 c2], .agg #[.bool n3, .slice o3 l3 c3, .bool n4, .slice o4 l4 c4]] W (fun e w' => e = .returned (.int .i64 (p * s - r * q).sign) ∧ Below W.heap.size W w') := by
  have hf : Fr W ((W.alloc (.cells #[.bool n1, .slice o1 l1 c1, .bool n2, .slice o2 l2 c2] 43)).alloc (.cells #[.bool n3, .slice o3 l3 c3, .bool n4, .slice o4 l4 c4] 43)) [(43, #[.bool n1, .slice o1 l1 c1, .bool n2, .slice o2 l2 c2]), (43, #[.bool n3, .slice o3 l3 c3, .bool n4, .slice o4 l4 c4])] := ((Fr.nil W).alloc rfl _ _).alloc (by simp) _ _
  have HF := Lib.hid hf
  have HP_0 := Lib.hid (h1.keep hf.below)
  have HQ_0 := Lib.hid (h2.keep hf.below)
  have HR_0 := Lib.hid (h3.keep hf.below)
  have HS_0 := Lib.hid (h4.keep hf.below)
  clear hf h1 h2 h3 h4
  go_enter Tryz.func37, Tryz.ntmps37
  go_wp2_with fail
  obtain ⟨V, hV⟩ : ∃ V, V = ((W.alloc (.cells #[.bool n1, .slice o1 l1 c1, .bool n2, .slice o2 l2 c2] 43)).alloc (.cells #[.bool n3, .slice o3 l3 c3, .bool n4, .slice o4 l4 c4] 43)) := ⟨_, rfl⟩
  rw [← hV] at HF HP_0 HQ_0 HR_0 HS_0 ⊢
  clear hV
  have qq0 : V.cell? ⟨W.heap.size, 0, none⟩ = some (.bool n1) := HF.out.cell 0 0 rfl rfl
  have qq1 : V.cell? ⟨W.heap.size, 1, none⟩ = some (.slice o1 l1 c1) := HF.out.cell 0 1 rfl rfl
  have qq2 : V.cell? ⟨W.heap.size, 2, none⟩ = some (.bool n2) := HF.out.cell 0 2 rfl rfl
  have qq3 : V.cell? ⟨W.heap.size, 3, none⟩ = some (.slice o2 l2 c2) := HF.out.cell 0 3 rfl rfl
  have qq4 : V.cell? ⟨W.heap.size + 1, 0, none⟩ = some (.bool n3) := HF.out.cell 1 0 rfl rfl
  have qq5 : V.cell? ⟨W.heap.size + 1, 1, none⟩ = some (.slice o3 l3 c3) := HF.out.cell 1 1 rfl rfl
  have qq6 : V.cell? ⟨W.heap.size + 1, 2, none⟩ = some (.bool n4) := HF.out.cell 1 2 rfl rfl
  have qq7 : V.cell? ⟨W.heap.size + 1, 3, none⟩ = some (.slice o4 l4 c4) := HF.out.cell 1 3 rfl rfl
  go_region_held3 (fun w' => w'.cell? ⟨W.heap.size, 0, none⟩ = some (.bool n1) ∧ w'.cell? ⟨W.heap.size, 1, none⟩ = some (.slice o1 l1 c1) ∧ w'.cell? ⟨W.heap.size, 2, none⟩ = some (.bool n2) ∧ w'.cell? ⟨W.heap.size, 3, none⟩ = some (.slice o2 l2 c2) ∧ w'.cell? ⟨W.heap.size + 1, 0, none⟩ = some (.bool n3) ∧ w'.cell? ⟨W.heap.size + 1, 1, none⟩ = some (.slice o3 l3 c3) ∧ w'.cell? ⟨W.heap.size + 1, 2, none⟩ = some (.bool n4) ∧ w'.cell? ⟨W.heap.size + 1, 3, none⟩ = some (.slice o4 l4 c4)) (first | (go_keep; done) | ((try dsimp only); (repeat' apply And.intro) <;> (first | (go_keep; done) | (rw [cell_set4 _ _ _ _ _ _ _ _ (by omega)]; assumption) | (rw [cell_set3 _ _ _ _ _ _ _ (by omega)]; assumption) | (rw [cell_set2 _ _ _ _ _ _ (by omega)]; assumption))))
    (first | (go_at_call 65; refine (cmpZ16_any _ _ _ _ _ _ _ _ (p * s) (r * q) _ HAk1.out HB0.out (by omega) (by omega) hc6 hm6).mono ?_; rintro e kw2 ⟨rfl, hb⟩; have hbb := hb; have FPk2 := Lib.hid (FPk1.out.later hbb); have HPk2 := Lib.hid (HPk1.out.keep hbb); have HQk2 := Lib.hid (HQk1.out.keep hbb); have HRk2 := Lib.hid (HRk1.out.keep hbb); have HSk2 := Lib.hid (HSk1.out.keep hbb); have HAk2 := Lib.hid (HAk1.out.keep hbb); have HBk2 := Lib.hid (HB0.out.keep hbb); clear hb hbb; have k2c0 : kw2.cell? ⟨W.heap.size, 0, none⟩ = some (.bool n1) := FPk2.out.cell 0 0 rfl rfl; have k2c1 : kw2.cell? ⟨W.heap.size, 1, none⟩ = some (.slice o1 l1 c1) := FPk2.out.cell 0 1 rfl rfl; have k2c2 : kw2.cell? ⟨W.heap.size, 2, none⟩ = some (.bool n2) := FPk2.out.cell 0 2 rfl rfl; have k2c3 : kw2.cell? ⟨W.heap.size, 3, none⟩ = some (.slice o2 l2 c2) := FPk2.out.cell 0 3 rfl rfl; have k2c4 : kw2.cell? ⟨W.heap.size + 1, 0, none⟩ = some (.bool n3) := FPk2.out.cell 1 0 rfl rfl; have k2c5 : kw2.cell? ⟨W.heap.size + 1, 1, none⟩ = some (.slice o3 l3 c3) := FPk2.out.cell 1 1 rfl rfl; have k2c6 : kw2.cell? ⟨W.heap.size + 1, 2, none⟩ = some (.bool n4) := FPk2.out.cell 1 2 rfl rfl; have k2c7 : kw2.cell? ⟨W.heap.size + 1, 3, none⟩ = some (.slice o4 l4 c4) := FPk2.out.cell 1 3 rfl rfl) | (go_at_call 80; refine (mulJ_L _ _ _ _ _ _ _ _ (r) (q) _ HRk0.out HQk0.out (by omega) (by omega)).mono ?_; rintro e kw1 ⟨n6, o6, l6, c6, rfl, hl6, hc6, hm6, hz, hb⟩; have hbb := hb; have FPk1 := Lib.hid (FPk0.out.later hbb); have HPk1 := Lib.hid (HPk0.out.keep hbb); have HQk1 := Lib.hid (HQk0.out.keep hbb); have HRk1 := Lib.hid (HRk0.out.keep hbb); have HSk1 := Lib.hid (HSk0.out.keep hbb); have HAk1 := Lib.hid (HA0.out.keep hbb); have HB0 := Lib.hid hz; clear hz; clear hb hbb; have k1c0 : kw1.cell? ⟨W.heap.size, 0, none⟩ = some (.bool n1) := FPk1.out.cell 0 0 rfl rfl; have k1c1 : kw1.cell? ⟨W.heap.size, 1, none⟩ = some (.slice o1 l1 c1) := FPk1.out.cell 0 1 rfl rfl; have k1c2 : kw1.cell? ⟨W.heap.size, 2, none⟩ = some (.bool n2) := FPk1.out.cell 0 2 rfl rfl; have k1c3 : kw1.cell? ⟨W.heap.size, 3, none⟩ = some (.slice o2 l2 c2) := FPk1.out.cell 0 3 rfl rfl; have k1c4 : kw1.cell? ⟨W.heap.size + 1, 0, none⟩ = some (.bool n3) := FPk1.out.cell 1 0 rfl rfl; have k1c5 : kw1.cell? ⟨W.heap.size + 1, 1, none⟩ = some (.slice o3 l3 c3) := FPk1.out.cell 1 1 rfl rfl; have k1c6 : kw1.cell? ⟨W.heap.size + 1, 2, none⟩ = some (.bool n4) := FPk1.out.cell 1 2 rfl rfl; have k1c7 : kw1.cell? ⟨W.heap.size + 1, 3, none⟩ = some (.slice o4 l4 c4) := FPk1.out.cell 1 3 rfl rfl) | (go_at_call 80; refine (mulJ_L _ _ _ _ _ _ _ _ (p) (s) V.drew (HP_0.out.keep (Below.refl _ _).drew) (HS_0.out.keep (Below.refl _ _).drew) (by omega) (by omega)).mono ?_; rintro e kw0 ⟨n5, o5, l5, c5, rfl, hl5, hc5, hm5, hz, hb⟩; have hbb := below_of_drew hb; have FPk0 := Lib.hid (HF.out.later hbb); have HPk0 := Lib.hid (HP_0.out.keep hbb); have HQk0 := Lib.hid (HQ_0.out.keep hbb); have HRk0 := Lib.hid (HR_0.out.keep hbb); have HSk0 := Lib.hid (HS_0.out.keep hbb); have HA0 := Lib.hid hz; clear hz; clear hb hbb; have k0c0 : kw0.cell? ⟨W.heap.size, 0, none⟩ = some (.bool n1) := FPk0.out.cell 0 0 rfl rfl; have k0c1 : kw0.cell? ⟨W.heap.size, 1, none⟩ = some (.slice o1 l1 c1) := FPk0.out.cell 0 1 rfl rfl; have k0c2 : kw0.cell? ⟨W.heap.size, 2, none⟩ = some (.bool n2) := FPk0.out.cell 0 2 rfl rfl; have k0c3 : kw0.cell? ⟨W.heap.size, 3, none⟩ = some (.slice o2 l2 c2) := FPk0.out.cell 0 3 rfl rfl; have k0c4 : kw0.cell? ⟨W.heap.size + 1, 0, none⟩ = some (.bool n3) := FPk0.out.cell 1 0 rfl rfl; have k0c5 : kw0.cell? ⟨W.heap.size + 1, 1, none⟩ = some (.slice o3 l3 c3) := FPk0.out.cell 1 1 rfl rfl; have k0c6 : kw0.cell? ⟨W.heap.size + 1, 2, none⟩ = some (.bool n4) := FPk0.out.cell 1 2 rfl rfl; have k0c7 : kw0.cell? ⟨W.heap.size + 1, 3, none⟩ = some (.slice o4 l4 c4) := FPk0.out.cell 1 3 rfl rfl))
  go_wp2
  go_ret
  exact ⟨rfl, FPk2.out.below⟩
end Go.Proofs.YtbihgllfllkkaaaGreat

/- The laws' helper same. -/
set_option linter.unusedVariables false
set_option linter.unusedSimpArgs false
namespace Go.Proofs.YtbihgllfllkkaaaGreat
open Go.RowKit Go.Proofs

theorem fits_cast (q : Nat) : Fits (q : Int) ↔ blen q ≤ 16384 := by unfold Fits; rw [Int.natAbs_natCast]

set_option maxHeartbeats 1000000 in
theorem refFitsQ_any (s1 s2 : Bool) (o1 o2 : Option Addr) (l1 l2 c1 c2 : Nat) (p : Int) (q : Nat) (W : World) (h1 : Z16 W s1 o1 l1 p) (h2 : Z16 W s2 o2 l2 (q : Int)) (hl1 : l1 ≤ 1000000) (hl2 : l2 ≤ 1000000) :
    Calls Tryz.prog 60 #[.agg #[.bool s1, .slice o1 l1 c1, .bool s2, .slice o2 l2 c2]] W (fun e w' => ((FitsQ p q ∧ e = .returned (.bool true)) ∨ (¬ FitsQ p q ∧ e = .returned (.bool false))) ∧ Below W.heap.size W w') := by
  have hf : Fr W (W.alloc (.cells #[.bool s1, .slice o1 l1 c1, .bool s2, .slice o2 l2 c2] 43)) [(43, #[.bool s1, .slice o1 l1 c1, .bool s2, .slice o2 l2 c2])] := (Fr.nil W).alloc rfl _ _
  have HF := Lib.hid hf
  have HP := Lib.hid (h1.keep hf.below)
  have HQ := Lib.hid (h2.keep hf.below)
  clear hf h1 h2
  go_enter Tryz.func60, Tryz.ntmps60
  go_wp2_with fail
  refine (fits16_any _ _ _ _ p _ HP.out (by omega)).mono ?_
  rintro e w1 ⟨⟨hfp, rfl⟩ | ⟨hfp, rfl⟩, hb⟩
  · have HF1 := Lib.hid (HF.out.later hb)
    have HQ1 := Lib.hid (HQ.out.keep hb)
    have HFP := Lib.hid hfp
    clear hb hfp
    have c2' : w1.cell? ⟨W.heap.size, 2, none⟩ = some (.bool s2) := HF1.out.cell 0 2 rfl rfl
    have c3' : w1.cell? ⟨W.heap.size, 3, none⟩ = some (.slice o2 l2 c2) := HF1.out.cell 0 3 rfl rfl
    go_wp2_with fail
    refine (fits16_any _ _ _ _ (q : Int) _ HQ1.out (by omega)).mono ?_
    rintro e w2 ⟨⟨hfq, rfl⟩ | ⟨hfq, rfl⟩, hb⟩
    · have HB := Lib.hid (below_then HF1.out.below hb)
      have HFQ := Lib.hid hfq
      clear hb hfq
      go_wp2
      go_ret
      exact ⟨.inl ⟨⟨HFP.out, (fits_cast q).1 HFQ.out⟩, rfl⟩, HB.out⟩
    · have HB := Lib.hid (below_then HF1.out.below hb)
      have HFQ := Lib.hid hfq
      clear hb hfq
      go_wp2
      go_ret
      exact ⟨.inr ⟨fun h => HFQ.out ((fits_cast q).2 h.2), rfl⟩, HB.out⟩
  · have HB := Lib.hid (below_then HF.out.below hb)
    have HFP := Lib.hid hfp
    clear hb hfp
    go_wp2
    go_ret
    exact ⟨.inr ⟨fun h => HFP.out h.1, rfl⟩, HB.out⟩

set_option maxHeartbeats 1000000 in
theorem refSignQ_any (s1 s2 : Bool) (o1 o2 : Option Addr) (l1 l2 c1 c2 : Nat) (p : Int) (W : World) (h1 : Z16 W s1 o1 l1 p) :
    Calls Tryz.prog 24 #[.agg #[.bool s1, .slice o1 l1 c1, .bool s2, .slice o2 l2 c2]] W (fun e w' => e = .returned (.int .i64 p.sign) ∧ Below W.heap.size W w') := by
  have hf : Fr W (W.alloc (.cells #[.bool s1, .slice o1 l1 c1, .bool s2, .slice o2 l2 c2] 43)) [(43, #[.bool s1, .slice o1 l1 c1, .bool s2, .slice o2 l2 c2])] := (Fr.nil W).alloc rfl _ _
  have HF := Lib.hid hf
  have HP := Lib.hid (h1.keep hf.below)
  clear hf h1
  go_enter Tryz.func24, Tryz.ntmps24
  go_wp2_with fail
  refine (sign16_any _ _ _ _ p _ HP.out).mono ?_
  rintro e w1 ⟨rfl, hb⟩
  have HB := Lib.hid (below_then HF.out.below hb)
  clear hb
  go_wp2
  go_ret
  exact ⟨rfl, HB.out⟩

theorem textQ_zero : textQ 0 1 = [48] := by unfold textQ; rw [if_pos rfl]; rfl

set_option maxHeartbeats 2000000 in
theorem same_any (na s1 s2 : Bool) (ao bo o1 o2 : Option Addr) (la lb l1 l2 ca cb c1 c2 : Nat) (p er P : Int) (q Q : Nat) (W : World) (hf0 : Q32 W na ao la bo lb P Q) (hla : la ≤ 512) (hlb : lb ≤ 512) (h1 : Z16 W s1 o1 l1 p) (h2 : Z16 W s2 o2 l2 (q : Int)) (hl1 : l1 ≤ 1000000) (hl2 : l2 ≤ 1000000) (ht : ToldQ p q er P Q) :
    Calls Tryz.prog 19 #[.agg #[.bool na, .slice ao la ca, .slice bo lb cb], .int .i64 er, .agg #[.bool s1, .slice o1 l1 c1, .bool s2, .slice o2 l2 c2]] W (fun e w' => e = .returned (.bool true) ∧ Below W.heap.size W w') := by
  have hf : Fr W ((W.alloc (.cells #[.bool na, .slice ao la ca, .slice bo lb cb] 35)).alloc (.cells #[.bool s1, .slice o1 l1 c1, .bool s2, .slice o2 l2 c2] 43))
      [(35, #[.bool na, .slice ao la ca, .slice bo lb cb]), (43, #[.bool s1, .slice o1 l1 c1, .bool s2, .slice o2 l2 c2])] := ((Fr.nil W).alloc rfl _ _).alloc (by simp) _ _
  have HF := Lib.hid hf
  have HX := Lib.hid (hf0.keep hf.below)
  have HP := Lib.hid (h1.keep hf.below)
  have HQ := Lib.hid (h2.keep hf.below)
  clear hf h1 h2 hf0
  rcases ht with ⟨hfit, rfl, rfl, rfl⟩ | ⟨hfit, rfl, rfl, rfl⟩
  · have HFIT := Lib.hid hfit
    clear hfit
    go_enter Tryz.func19, Tryz.ntmps19
    go_wp2_with fail
    refine ((refFitsQ_any _ _ _ _ _ _ _ _ P Q _ HP.out HQ.out hl1 hl2).mono fun e w h => (⟨(h.1.resolve_right fun k => k.1 HFIT.out).2, h.2⟩ : e = .returned (.bool true) ∧ _)).mono ?_
    rintro e w1 ⟨rfl, hb⟩
    have HF1 := Lib.hid (HF.out.later hb)
    have HX1 := Lib.hid (HX.out.keep hb)
    have HP1 := Lib.hid (HP.out.keep hb)
    have HQ1 := Lib.hid (HQ.out.keep hb)
    clear hb
    have qq0 : w1.cell? ⟨W.heap.size, 0, none⟩ = some (.bool na) := HF1.out.cell 0 0 rfl rfl
    have qq1 : w1.cell? ⟨W.heap.size, 1, none⟩ = some (.slice ao la ca) := HF1.out.cell 0 1 rfl rfl
    have qq2 : w1.cell? ⟨W.heap.size, 2, none⟩ = some (.slice bo lb cb) := HF1.out.cell 0 2 rfl rfl
    have qq3 : w1.cell? ⟨W.heap.size + 1, 0, none⟩ = some (.bool s1) := HF1.out.cell 1 0 rfl rfl
    have qq4 : w1.cell? ⟨W.heap.size + 1, 1, none⟩ = some (.slice o1 l1 c1) := HF1.out.cell 1 1 rfl rfl
    have qq5 : w1.cell? ⟨W.heap.size + 1, 2, none⟩ = some (.bool s2) := HF1.out.cell 1 2 rfl rfl
    have qq6 : w1.cell? ⟨W.heap.size + 1, 3, none⟩ = some (.slice o2 l2 c2) := HF1.out.cell 1 3 rfl rfl
    go_wp2_with fail
    go_region_held3 (fun w' => w'.cell? ⟨W.heap.size, 0, none⟩ = some (.bool na) ∧ w'.cell? ⟨W.heap.size, 1, none⟩ = some (.slice ao la ca) ∧ w'.cell? ⟨W.heap.size, 2, none⟩ = some (.slice bo lb cb) ∧ w'.cell? ⟨W.heap.size + 1, 0, none⟩ = some (.bool s1) ∧ w'.cell? ⟨W.heap.size + 1, 1, none⟩ = some (.slice o1 l1 c1) ∧ w'.cell? ⟨W.heap.size + 1, 2, none⟩ = some (.bool s2) ∧ w'.cell? ⟨W.heap.size + 1, 3, none⟩ = some (.slice o2 l2 c2)) (go_keep)
      (first | (go_at_call 26; refine (text16Q_any _ _ _ _ _ _ _ _ P Q _ HPr0.out HQr0.out (by omega) (by omega)).mono ?_; rintro e rw1 ⟨rfl, hb⟩; have hbb := hb; have FPr1 := Lib.hid (FPr0.out.later hbb); have HXr1 := Lib.hid (HXr0.out.keep hbb); have HPr1 := Lib.hid (HPr0.out.keep hbb); have HQr1 := Lib.hid (HQr0.out.keep hbb); clear hb hbb; have r1c0 : rw1.cell? ⟨W.heap.size, 0, none⟩ = some (.bool na) := FPr1.out.cell 0 0 rfl rfl; have r1c1 : rw1.cell? ⟨W.heap.size, 1, none⟩ = some (.slice ao la ca) := FPr1.out.cell 0 1 rfl rfl; have r1c2 : rw1.cell? ⟨W.heap.size, 2, none⟩ = some (.slice bo lb cb) := FPr1.out.cell 0 2 rfl rfl; have r1c3 : rw1.cell? ⟨W.heap.size + 1, 0, none⟩ = some (.bool s1) := FPr1.out.cell 1 0 rfl rfl; have r1c4 : rw1.cell? ⟨W.heap.size + 1, 1, none⟩ = some (.slice o1 l1 c1) := FPr1.out.cell 1 1 rfl rfl; have r1c5 : rw1.cell? ⟨W.heap.size + 1, 2, none⟩ = some (.bool s2) := FPr1.out.cell 1 2 rfl rfl; have r1c6 : rw1.cell? ⟨W.heap.size + 1, 3, none⟩ = some (.slice o2 l2 c2) := FPr1.out.cell 1 3 rfl rfl) | (go_at_call 15; refine (ratString_any _ _ _ _ _ _ _ P Q w1.drew (HX1.out.keep (Below.refl _ _).drew) (by omega) (by omega)).mono ?_; rintro e rw0 ⟨rfl, hb⟩; have hbb := below_of_drew hb; have FPr0 := Lib.hid (HF1.out.later hbb); have HXr0 := Lib.hid (HX1.out.keep hbb); have HPr0 := Lib.hid (HP1.out.keep hbb); have HQr0 := Lib.hid (HQ1.out.keep hbb); clear hb hbb; have r0c0 : rw0.cell? ⟨W.heap.size, 0, none⟩ = some (.bool na) := FPr0.out.cell 0 0 rfl rfl; have r0c1 : rw0.cell? ⟨W.heap.size, 1, none⟩ = some (.slice ao la ca) := FPr0.out.cell 0 1 rfl rfl; have r0c2 : rw0.cell? ⟨W.heap.size, 2, none⟩ = some (.slice bo lb cb) := FPr0.out.cell 0 2 rfl rfl; have r0c3 : rw0.cell? ⟨W.heap.size + 1, 0, none⟩ = some (.bool s1) := FPr0.out.cell 1 0 rfl rfl; have r0c4 : rw0.cell? ⟨W.heap.size + 1, 1, none⟩ = some (.slice o1 l1 c1) := FPr0.out.cell 1 1 rfl rfl; have r0c5 : rw0.cell? ⟨W.heap.size + 1, 2, none⟩ = some (.bool s2) := FPr0.out.cell 1 2 rfl rfl; have r0c6 : rw0.cell? ⟨W.heap.size + 1, 3, none⟩ = some (.slice o2 l2 c2) := FPr0.out.cell 1 3 rfl rfl))
    go_wp2
    go_ret
    exact ⟨rfl, FPr1.out.below⟩
  · have HFIT := Lib.hid hfit
    clear hfit
    go_enter Tryz.func19, Tryz.ntmps19
    go_wp2_with fail
    refine ((refFitsQ_any _ _ _ _ _ _ _ _ p q _ HP.out HQ.out hl1 hl2).mono fun e w h => (⟨(h.1.resolve_left fun k => HFIT.out k.1).2, h.2⟩ : e = .returned (.bool false) ∧ _)).mono ?_
    rintro e w1 ⟨rfl, hb⟩
    have HF1 := Lib.hid (HF.out.later hb)
    have HX1 := Lib.hid (HX.out.keep hb)
    clear hb
    have c0 : w1.cell? ⟨W.heap.size, 0, none⟩ = some (.bool na) := HF1.out.cell 0 0 rfl rfl
    have c1' : w1.cell? ⟨W.heap.size, 1, none⟩ = some (.slice ao la ca) := HF1.out.cell 0 1 rfl rfl
    have c2' : w1.cell? ⟨W.heap.size, 2, none⟩ = some (.slice bo lb cb) := HF1.out.cell 0 2 rfl rfl
    go_wp2_with fail
    refine ((ratString_any _ _ _ _ _ _ _ 0 1 _ HX1.out (by omega) (by omega)).mono fun e w h => (textQ_zero ▸ h : StrPost [48] w1 e w)).mono ?_
    rintro e w2 ⟨rfl, hb⟩
    have HB := Lib.hid (below_then HF1.out.below hb)
    clear hb
    go_wp2
    go_ret
    exact ⟨rfl, HB.out⟩
end Go.Proofs.YtbihgllfllkkaaaGreat
