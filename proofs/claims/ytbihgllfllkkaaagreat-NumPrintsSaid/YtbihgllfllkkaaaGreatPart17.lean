/- Part 17 of the contracts: RatG, QuoAny, BackF, Ten16, DecA, DecB, Dec16, PrintF. -/
import Derived.Deep.Cut
import Derived.Deep.CutRange
import Derived.Test.YtbihgllfllkkaaaGreatPart16

/- Sub of fractions. -/
set_option linter.unusedVariables false
namespace Go.Proofs.YtbihgllfllkkaaaGreat
open Go.RowKit Go.Proofs

set_option maxRecDepth 4000 in
set_option maxHeartbeats 2000000 in
theorem ratSub_any (na nc : Bool) (ao bo co d_o : Option Addr) (la lb lc ld ca cb cc cd : Nat) (p r : Int) (q s : Nat) (W : World) (hf0 : Q32 W na ao la bo lb p q) (hg0 : Q32 W nc co lc d_o ld r s) (hla : la ≤ 100000) (hlb : lb ≤ 100000) (hlc : lc ≤ 100000) (hld : ld ≤ 100000) :
    Calls Tryz.prog 33 #[.agg #[.bool na, .slice ao la ca, .slice bo lb cb], .agg #[.bool nc, .slice co lc cc, .slice d_o ld cd]] W (OutTQ W (lowP (p * (s : Int) - r * (q : Int)) ((q : Int) * (s : Int))) (lowQ (p * (s : Int) - r * (q : Int)) ((q : Int) * (s : Int)))) := by
  have hf : Fr W (((W.alloc (.cells #[.bool na, .slice ao la ca, .slice bo lb cb] 35)).alloc (.cells #[.bool nc, .slice co lc cc, .slice d_o ld cd] 35)).alloc (.cells #[.bool false, .slice none 0 0, .slice none 0 0] 35)) [(35, #[.bool na, .slice ao la ca, .slice bo lb cb]), (35, #[.bool nc, .slice co lc cc, .slice d_o ld cd]), (35, #[.bool false, .slice none 0 0, .slice none 0 0])] := (((Fr.nil W).alloc rfl _ _).alloc (by simp) _ _).alloc (by simp) _ _
  have he : p * (s : Int) + -r * (q : Int) = p * (s : Int) - r * (q : Int) := by rw [Int.neg_mul, Int.sub_eq_add_neg]
  have HE := Lib.hid he
  clear he
  have HF := Lib.hid hf
  have HF_0 := Lib.hid (hf0.keep hf.below)
  have HG_0 := Lib.hid (hg0.keep hf.below)
  clear hf hf0 hg0
  go_enter Tryz.func33, Tryz.ntmps33
  go_wp2_with fail
  obtain ⟨V, hV⟩ : ∃ V, V = (((W.alloc (.cells #[.bool na, .slice ao la ca, .slice bo lb cb] 35)).alloc (.cells #[.bool nc, .slice co lc cc, .slice d_o ld cd] 35)).alloc (.cells #[.bool false, .slice none 0 0, .slice none 0 0] 35)) := ⟨_, rfl⟩
  rw [← hV] at HF HF_0 HG_0 ⊢
  clear hV
  have qq0 : V.cell? ⟨W.heap.size, 0, none⟩ = some (.bool na) := HF.out.cell 0 0 rfl rfl
  have qq1 : V.cell? ⟨W.heap.size, 1, none⟩ = some (.slice ao la ca) := HF.out.cell 0 1 rfl rfl
  have qq2 : V.cell? ⟨W.heap.size, 2, none⟩ = some (.slice bo lb cb) := HF.out.cell 0 2 rfl rfl
  have qq3 : V.cell? ⟨W.heap.size + 1, 0, none⟩ = some (.bool nc) := HF.out.cell 1 0 rfl rfl
  have qq4 : V.cell? ⟨W.heap.size + 1, 1, none⟩ = some (.slice co lc cc) := HF.out.cell 1 1 rfl rfl
  have qq5 : V.cell? ⟨W.heap.size + 1, 2, none⟩ = some (.slice d_o ld cd) := HF.out.cell 1 2 rfl rfl
  go_region_held3 (fun w' => w'.cell? ⟨W.heap.size, 0, none⟩ = some (.bool na) ∧ w'.cell? ⟨W.heap.size, 1, none⟩ = some (.slice ao la ca) ∧ w'.cell? ⟨W.heap.size, 2, none⟩ = some (.slice bo lb cb) ∧ w'.cell? ⟨W.heap.size + 1, 0, none⟩ = some (.bool nc) ∧ w'.cell? ⟨W.heap.size + 1, 1, none⟩ = some (.slice co lc cc) ∧ w'.cell? ⟨W.heap.size + 1, 2, none⟩ = some (.slice d_o ld cd)) (first | (go_keep; done) | ((try dsimp only); (repeat' apply And.intro) <;> (first | (go_keep; done) | (rw [cell_set3 _ _ _ _ _ _ _ (by omega)]; assumption) | (rw [cell_set2 _ _ _ _ _ _ (by omega)]; assumption))))
    (first | (go_at_call 32; refine ((ratAdd_any _ _ _ _ _ _ _ _ _ _ _ _ _ _ p (-r) q s _ HFs0.out HN0.out (by omega) (by omega) (by omega) (by omega)).mono fun e w h => (show OutTQ _ (lowP (p * (s : Int) - r * (q : Int)) ((q : Int) * (s : Int))) (lowQ (p * (s : Int) - r * (q : Int)) ((q : Int) * (s : Int))) e w from HE.out ▸ h)).mono ?_; rintro e sw1 ⟨n8, o8, l8, c8, u8, m8, d8, e8, P8, Q8, rfl, hl8, hm8, hz, hb, ht⟩; have hbb := hb; have FPs1 := Lib.hid (FPs0.out.later hbb); have HFs1 := Lib.hid (HFs0.out.keep hbb); have HGs1 := Lib.hid (HGs0.out.keep hbb); have HNs1 := Lib.hid (HN0.out.keep hbb); have HZ0 := Lib.hid hz; have HT := Lib.hid ht; clear hz ht; clear hb hbb; have s1c0 : sw1.cell? ⟨W.heap.size, 0, none⟩ = some (.bool na) := FPs1.out.cell 0 0 rfl rfl; have s1c1 : sw1.cell? ⟨W.heap.size, 1, none⟩ = some (.slice ao la ca) := FPs1.out.cell 0 1 rfl rfl; have s1c2 : sw1.cell? ⟨W.heap.size, 2, none⟩ = some (.slice bo lb cb) := FPs1.out.cell 0 2 rfl rfl; have s1c3 : sw1.cell? ⟨W.heap.size + 1, 0, none⟩ = some (.bool nc) := FPs1.out.cell 1 0 rfl rfl; have s1c4 : sw1.cell? ⟨W.heap.size + 1, 1, none⟩ = some (.slice co lc cc) := FPs1.out.cell 1 1 rfl rfl; have s1c5 : sw1.cell? ⟨W.heap.size + 1, 2, none⟩ = some (.slice d_o ld cd) := FPs1.out.cell 1 2 rfl rfl; have sz0 : sw1.cell? ⟨W.heap.size + 2, 0, none⟩ = some (.bool false) := FPs1.out.cell 2 0 rfl rfl; have sz1 : sw1.cell? ⟨W.heap.size + 2, 1, none⟩ = some (.slice none 0 0) := FPs1.out.cell 2 1 rfl rfl; have sz2 : sw1.cell? ⟨W.heap.size + 2, 2, none⟩ = some (.slice none 0 0) := FPs1.out.cell 2 2 rfl rfl; have szf0 : sw1.frozen? ⟨W.heap.size + 2, 0, none⟩ = false := FPs1.out.frozen 2 0 rfl; have szf1 : sw1.frozen? ⟨W.heap.size + 2, 1, none⟩ = false := FPs1.out.frozen 2 1 rfl; have szf2 : sw1.frozen? ⟨W.heap.size + 2, 2, none⟩ = false := FPs1.out.frozen 2 2 rfl) | (go_at_call 25; refine (ratNeg_any _ _ _ _ _ _ _ r s V.drew (HG_0.out.keep (Below.refl _ _).drew) (by omega) (by omega)).mono ?_; rintro e sw0 ⟨n1, o1, l1, c1, u1, m1, d1, rfl, hl1, hm1, hz, hb⟩; have hbb := below_of_drew hb; have FPs0 := Lib.hid (HF.out.later hbb); have HFs0 := Lib.hid (HF_0.out.keep hbb); have HGs0 := Lib.hid (HG_0.out.keep hbb); have HN0 := Lib.hid hz; clear hz; clear hb hbb; have s0c0 : sw0.cell? ⟨W.heap.size, 0, none⟩ = some (.bool na) := FPs0.out.cell 0 0 rfl rfl; have s0c1 : sw0.cell? ⟨W.heap.size, 1, none⟩ = some (.slice ao la ca) := FPs0.out.cell 0 1 rfl rfl; have s0c2 : sw0.cell? ⟨W.heap.size, 2, none⟩ = some (.slice bo lb cb) := FPs0.out.cell 0 2 rfl rfl; have s0c3 : sw0.cell? ⟨W.heap.size + 1, 0, none⟩ = some (.bool nc) := FPs0.out.cell 1 0 rfl rfl; have s0c4 : sw0.cell? ⟨W.heap.size + 1, 1, none⟩ = some (.slice co lc cc) := FPs0.out.cell 1 1 rfl rfl; have s0c5 : sw0.cell? ⟨W.heap.size + 1, 2, none⟩ = some (.slice d_o ld cd) := FPs0.out.cell 1 2 rfl rfl))
  go_wp2
  obtain ⟨e0, e1, e2, hq, hbel⟩ := FPs1.out.finQ (cap := c8) (bc := d8) 2 rfl HZ0.out
  exact bodyPost_ret (v := .tuple #[.agg #[.bool n8, .slice o8 l8 c8, .slice u8 m8 d8], .int .i64 e8]) (by simp [results, Tryz.results33, go_sem, e0, e1, e2]) rfl ⟨n8, o8, l8, c8, u8, m8, d8, e8, P8, Q8, rfl, hl8, hm8, hq, hbel, HT.out⟩
end Go.Proofs.YtbihgllfllkkaaaGreat

/- Facts for the laws of fractions. -/
set_option linter.unusedVariables false
namespace Go.Proofs.YtbihgllfllkkaaaGreat
open Go.RowKit Go.Proofs

def HalfOut2 (W : World) (Y : Int) (e : Ending) (w' : World) : Prop :=
  ∃ na ao la ca bo lb cb s1 o1 l1 c1 s2 o2 l2 c2 P Q ok, e = .returned (.tuple #[.agg #[.bool na, .slice ao la ca, .slice bo lb cb], .agg #[.bool s1, .slice o1 l1 c1, .bool s2, .slice o2 l2 c2], .bool ok]) ∧ la ≤ 512 ∧ lb ≤ 512 ∧ Q32 w' na ao la bo lb P Q ∧
    (ok = true → l1 ≤ 1024 ∧ l2 ≤ 1024 ∧ Z16 w' s1 o1 l1 P ∧ Z16 w' s2 o2 l2 (Q : Int)) ∧ Below W.heap.size W w'

theorem HalfOut.two {X Y : Int} {W w' : World} {e : Ending} (h : HalfOut X Y W e w') : HalfOut2 W Y e w' := by
  obtain ⟨na, ao, la, ca, bo, lb, cb, s1, o1, l1, c1, s2, o2, l2, c2, P, Q, rfl, h1, h2, h3, h4, h5⟩ := h
  exact ⟨na, ao, la, ca, bo, lb, cb, s1, o1, l1, c1, s2, o2, l2, c2, P, Q, _, rfl, h1, h2, h3, fun h => ⟨(h4 (of_decide_eq_true h)).2.2.1, (h4 (of_decide_eq_true h)).2.2.2.1, (h4 (of_decide_eq_true h)).2.2.2.2.1, (h4 (of_decide_eq_true h)).2.2.2.2.2⟩, h5⟩

def OutTQ0 (W : World) (p : Int) (q : Nat) (r : Int) (e : Ending) (w' : World) : Prop :=
  ∃ na ao la ca bo lb cb er P Q, e = .returned (.tuple #[.agg #[.bool na, .slice ao la ca, .slice bo lb cb], .int .i64 er]) ∧ la ≤ 512 ∧ lb ≤ 512 ∧ Q32 w' na ao la bo lb P Q ∧ Below W.heap.size W w' ∧ (r ≠ 0 → ToldQ p q er P Q) ∧ (r = 0 → er = 10 ∧ P = 0 ∧ Q = 1)

theorem ratQuo_all (na nc : Bool) (ao bo co d_o : Option Addr) (la lb lc ld ca cb cc cd : Nat) (p r : Int) (q s : Nat) (W : World) (hf0 : Q32 W na ao la bo lb p q) (hg0 : Q32 W nc co lc d_o ld r s) (hla : la ≤ 100000) (hlb : lb ≤ 100000) (hlc : lc ≤ 100000) (hld : ld ≤ 100000) :
    Calls Tryz.prog 35 #[.agg #[.bool na, .slice ao la ca, .slice bo lb cb], .agg #[.bool nc, .slice co lc cc, .slice d_o ld cd]] W (OutTQ0 W (lowP (p * (s : Int)) ((q : Int) * r)) (lowQ (p * (s : Int)) ((q : Int) * r)) r) := by
  by_cases hr : r = 0
  · subst hr
    refine (ratQuo_zero na nc ao bo co d_o la lb lc ld ca cb cc cd s W hg0).mono fun e w h => ?_
    exact ⟨false, none, 0, 0, none, 0, 0, 10, 0, 1, h.1, by omega, by omega, ⟨Z32.nil _, .inl ⟨rfl, rfl⟩⟩, h.2, fun h => absurd rfl h, fun _ => ⟨rfl, rfl, rfl⟩⟩
  · refine (ratQuo_any na nc ao bo co d_o la lb lc ld ca cb cc cd p r q s W hf0 hg0 hla hlb hlc hld hr).mono fun e w h => ?_
    obtain ⟨n, o, l, c, b, m, d, er, P, Q, rfl, h1, h2, h3, h4, h5⟩ := h
    exact ⟨n, o, l, c, b, m, d, er, P, Q, rfl, h1, h2, h3, h4, fun _ => h5, fun h => absurd h hr⟩
end Go.Proofs.YtbihgllfllkkaaaGreat

/- Facts for NumBack: Div by 0, Parse of a numeral. -/
set_option linter.unusedVariables false
namespace Go.Proofs.YtbihgllfllkkaaaGreat
open Go.RowKit Go.Proofs

def DivNone (W : World) (e : Ending) (w' : World) : Prop :=
  e = .returned (.tuple #[.agg #[.bool false, .slice none 0 0], .agg #[.bool false, .slice none 0 0], .int .i64 10]) ∧ Below W.heap.size W w'

set_option maxHeartbeats 1000000 in
theorem div_zero (na nb : Bool) (ao bo : Option Addr) (la ca cb : Nat) (W : World) :
    Calls Tryz.prog 55 #[.agg #[.bool na, .slice ao la ca], .agg #[.bool nb, .slice bo 0 cb]] W (DivNone W) := by
  have hf : Fr W ((((W.alloc (.cells #[.bool na, .slice ao la ca] 31)).alloc (.cells #[.bool nb, .slice bo 0 cb] 31)).alloc (.cells #[.bool false, .slice none 0 0] 31)).alloc (.cells #[.bool false, .slice none 0 0] 31))
      [(31, #[.bool na, .slice ao la ca]), (31, #[.bool nb, .slice bo 0 cb]), (31, #[.bool false, .slice none 0 0]), (31, #[.bool false, .slice none 0 0])] :=
    ((((Fr.nil W).alloc rfl _ _).alloc (by simp) _ _).alloc (by simp) _ _).alloc (by simp) _ _
  have HF := Lib.hid hf
  clear hf
  go_enter Tryz.func55, Tryz.ntmps55
  go_wp2
  exact bodyPost_ret (v := .tuple #[.agg #[.bool false, .slice none 0 0], .agg #[.bool false, .slice none 0 0], .int .i64 10]) (by simp [results, Tryz.results55, go_sem]) rfl ⟨rfl, HF.out.below⟩

theorem parse_back (x : Int) (W : World) (hf : Fits x) : Calls Tryz.prog 103 #[.string ⟨(numeralZ x).toArray⟩] W (OutE W x) := by
  obtain ⟨k, hk⟩ : ∃ k, k = 1024 := ⟨_, rfl⟩
  have hlt : x.natAbs < B32 ^ k := by
    have h2 : blen x.natAbs ≤ 32 * k := Nat.le_trans hf (by omega)
    rw [B32_pow]
    exact blen_le.1 h2
  have hnl := numeralZ_len hlt
  refine ((parse_any (numeralZ x) W (by omega)).mono fun e w h => h.one).mono ?_
  rintro e w ⟨na, po, la, ca, er, z', rfl, hz2, hb2, hx⟩
  rw [numZ_numeralZ] at hx
  rcases hx with ⟨h1, _⟩ | ⟨_, h2, _⟩ | ⟨_, h2, rfl, rfl⟩
  · rw [isNum_numeralZ] at h1; cases h1
  · exact absurd hf h2
  · exact ⟨na, po, la, ca, rfl, fits_len hz2 hf, hz2, hb2⟩

theorem bl_div {x y : Int} {k : Nat} (h : Bl k x) : Bl k (x / y) := by
  unfold Bl at *
  rw [blen_le] at *
  exact Nat.lt_of_le_of_lt (Int.natAbs_ediv_le_natAbs x y) h
theorem bl_mod {x y : Int} {k : Nat} (h : Bl k y) (hy : y ≠ 0) : Bl k (x % y) := by
  unfold Bl at *
  rw [blen_le] at *
  have h1 := Int.emod_nonneg x hy
  have h2 := Int.emod_lt x hy
  omega
theorem bl_back {x y : Int} {k : Nat} (hx : Bl k x) (hy : Bl k y) (h0 : y ≠ 0) : Bl (k + 1) (x / y * y) := by
  have e : x / y * y = x - x % y := by
    have := Int.ediv_mul_add_emod x y
    omega
  rw [e]
  exact hx.sub (bl_mod hy h0)

/-- stores into an own block without numbers leave an integer -/
theorem Z32.setFrom {w : World} {g T : Nat} {c : Array Value} {neg : Bool} {ao : Option Addr} {len : Nat} {z : Int} (h : Z32 w neg ao len z) (us : List Value) (hu : ∀ u ∈ us, isInt u = false) (hb : Box w g T c) (hc : noInts c = true) :
    Z32 (setFrom w g 0 us) neg ao len z := (Stable.z32 0 neg ao len z).setFrom (Nat.zero_le _) us hu w 0 c h hb hc
end Go.Proofs.YtbihgllfllkkaaaGreat

/- The specification's ten. -/
set_option linter.unusedVariables false
namespace Go.Proofs.YtbihgllfllkkaaaGreat
open Go.RowKit Go.Proofs

theorem Z16.setFrom {w : World} {g T : Nat} {c : Array Value} {neg : Bool} {ao : Option Addr} {len : Nat} {z : Int} (h : Z16 w neg ao len z) (us : List Value) (hu : ∀ u ∈ us, isInt u = false) (hb : Box w g T c) (hc : noInts c = true) :
    Z16 (setFrom w g 0 us) neg ao len z := (Stable.z16 0 neg ao len z).setFrom (Nat.zero_le _) us hu w 0 c h hb hc

theorem Fr.farTen {W w : World} {bs : List (Nat × Array Value)} (h : Fr W w bs) {g : Nat} (us : List Value) (hg : W.heap.size + bs.length ≤ g) : Fr W (setFrom w g 0 us) bs := by
  refine ⟨setFrom_below (by omega) us _ _ _ h.below, by rw [setFrom_size]; exact h.size, fun i T c hi => ?_⟩
  have hl := (List.getElem?_eq_some_iff.1 hi).1
  exact (setFrom_other (by omega) us w 0).trans (h.box i T c hi)

theorem ten_lt {i : Nat} (hi : i ≤ 64) : (((10 ^ i : Nat) : Int)).natAbs < B16 ^ 14 := by
  rw [Int.natAbs_natCast]
  have h1 : 10 ^ i ≤ 10 ^ 64 := Nat.pow_le_pow_right (by decide) hi
  have h2 : 10 ^ 64 < B16 ^ 14 := by decide
  omega

def Ten16Rel (n g : Nat) (W : World) (iv : Value) (wr : World) : Prop :=
  ∃ (i : Nat) (s : Bool) (o : Option Addr) (l c : Nat), iv = .int .i64 ((i : Nat) : Int) ∧ i ≤ n ∧ l ≤ c ∧ c ≤ 9223372036854775807 ∧ Box wr g 27 #[.bool s, .slice o l c] ∧ Z16 wr s o l ((10 ^ i : Nat) : Int) ∧ Fr W wr [(27, #[.bool false, .slice none 0 0])]

set_option maxRecDepth 4000 in
set_option maxHeartbeats 2000000 in
theorem ten_any (N : Int) (n : Nat) (W : World) (hN : N = (n : Int)) (hn : n ≤ 64) :
    Calls Tryz.prog 89 #[.int .i64 N] W (OutJ W ((10 ^ n : Nat) : Int)) := by
  subst hN
  have hf : Fr W (W.alloc (.cells #[.bool false, .slice none 0 0] 27)) [(27, #[.bool false, .slice none 0 0])] := (Fr.nil W).alloc rfl _ _
  have HF := Lib.hid hf
  clear hf
  go_enter Tryz.func89, Tryz.ntmps89
  go_wp2_with fail
  refine (refOf_any 1 _ (by omega) (by omega)).mono ?_
  rintro e w1 ⟨s1, o1, l1, c1, rfl, hl1, hc1, hz1, hb1⟩
  have hb2 : Below w1.heap.size w1 (w1.alloc (.cells #[.bool s1, .slice o1 l1 c1] 27)) := box_below _ _ _
  have hbx : Box (w1.alloc (.cells #[.bool s1, .slice o1 l1 c1] 27)) w1.heap.size 27 #[.bool s1, .slice o1 l1 c1] := Box.new _ _ _
  have HF1 := Lib.hid ((HF.out.later hb1).later hb2)
  have HST : Hid (Ten16Rel n w1.heap.size W (.int .i64 0) (w1.alloc (.cells #[.bool s1, .slice o1 l1 c1] 27))) := ⟨0, s1, o1, l1, c1, rfl, Nat.zero_le _, hl1, hc1, hbx, hz1.keep hb2, HF1.out⟩
  have hg : W.heap.size + 1 ≤ w1.heap.size := by have := (HF.out.later hb1).size; simpa using this
  clear hb1 hb2 hbx hz1 HF HF1
  go_wp2_with fail
  go_loopw [4] (fun iv wr => Ten16Rel n w1.heap.size W iv wr) (fun iv _ => n - (intOf iv).toNat)
  case atStart => exact HST.out
  case round =>
    clear HST
    obtain ⟨i, s, o, l, c, rfl, hi, hlc, hcm, hbx, hz, hfr⟩ := hrel
    have hl : l ≤ 14 := hz.n16.len_le (ten_lt (by omega))
    have HB := Lib.hid hbx
    have HZ := Lib.hid hz
    have HF := Lib.hid hfr
    clear hbx hz hfr
    have c0 : wr.cell? ⟨w1.heap.size, 0, none⟩ = some (.bool s) := HB.out.cell 0
    have c1' : wr.cell? ⟨w1.heap.size, 1, none⟩ = some (.slice o l c) := HB.out.cell 1
    by_cases hin : i < n
    · have t1 : (i : Int) < (n : Int) := by omega
      go_upto_region 5 with fail
      go_region_with
        (first | (go_at_call 56; refine (refOf_any 10 wr.drew (by omega) (by omega)).mono ?_; rintro e w2 ⟨s2, o2, l2, c2, rfl, hl2, hc2, hz2, hb⟩; have hbb := below_of_drew hb; have HB2 := Lib.hid (HB.out.below hbb HB.out.lt); have HZ2 := Lib.hid (HZ.out.keep hbb); have HF2 := Lib.hid (HF.out.later hbb); have HT2 := Lib.hid hz2; have hlt2 : l2 ≤ 1 := hz2.n16.len_le (by decide); clear hb hbb hz2; have d0 : w2.cell? ⟨w1.heap.size, 0, none⟩ = some (.bool s) := HB2.out.cell 0; have d1 : w2.cell? ⟨w1.heap.size, 1, none⟩ = some (.slice o l c) := HB2.out.cell 1) | (go_at_call 80; refine (mulJ_L _ _ _ _ _ _ _ _ ((10 ^ i : Nat) : Int) 10 _ HZ2.out HT2.out (by omega) (by omega)).mono ?_; rintro e w3 ⟨s3, o3, l3, c3, rfl, hl3, hlc3, hcm3, hz3, hb⟩; have HB3 := Lib.hid (HB2.out.below hb HB2.out.lt); have HF3 := Lib.hid (HF2.out.later hb); have HZ3 := Lib.hid hz3; clear hb hz3; have f0 : w3.cell? ⟨w1.heap.size, 0, none⟩ = some (.bool s) := HB3.out.cell 0; have f1 : w3.cell? ⟨w1.heap.size, 1, none⟩ = some (.slice o l c) := HB3.out.cell 1; have f2 : w3.frozen? ⟨w1.heap.size, 0, none⟩ = false := HB3.out.frozen 0; have f3 : w3.frozen? ⟨w1.heap.size, 1, none⟩ = false := HB3.out.frozen 1))
      all_goals
        obtain ⟨V, hV⟩ : ∃ V, V = setFrom w3 w1.heap.size 0 [.bool s3, .slice o3 l3 c3] := ⟨_, rfl⟩
        have hui : ∀ u ∈ [Value.bool s3, Value.slice o3 l3 c3], isInt u = false := by simp [isInt]
        have hVf : Fr W V [(27, #[.bool false, .slice none 0 0])] := by rw [hV]; exact HF3.out.farTen _ (by simpa using hg)
        have hVz : Z16 V s3 o3 l3 (((10 ^ i : Nat) : Int) * 10) := by rw [hV]; exact HZ3.out.setFrom _ hui HB3.out rfl
        have hVb : Box V w1.heap.size 27 #[.bool s3, .slice o3 l3 c3] := by rw [hV]; exact setFrom_box0 _ HB3.out rfl
        simp only [setFrom] at hV
        have hpw : ((10 ^ i : Nat) : Int) * 10 = ((10 ^ (i + 1) : Nat) : Int) := by rw [Nat.pow_succ, Int.natCast_mul]; rfl
        rw [hpw] at hVz
        go_wp2_with fail
        try rw [← hV]
        go_roundw
        case rel => exact ⟨i + 1, s3, o3, l3, c3, by go_num, by omega, hlc3, hcm3, hVb, hVz, hVf⟩
        case measure => simp only [intOf]; omega
    · have t1 : ¬ (i : Int) < (n : Int) := by omega
      have hin2 : i = n := by omega
      have HI := Lib.hid hin2
      clear hin2
      have g0 : wr.cell? ⟨W.heap.size, 0, none⟩ = some (.bool false) := HF.out.cell 0 0 rfl rfl
      have g1 : wr.cell? ⟨W.heap.size, 1, none⟩ = some (.slice none 0 0) := HF.out.cell 0 1 rfl rfl
      have g2 : wr.frozen? ⟨W.heap.size, 0, none⟩ = false := HF.out.frozen 0 0 rfl
      have g3 : wr.frozen? ⟨W.heap.size, 1, none⟩ = false := HF.out.frozen 0 1 rfl
      go_wp2
      obtain ⟨e0, e1, hz, hbel, _⟩ := HF.out.finJ (cap := c) 0 rfl HZ.out
      exact bodyPost_ret (v := .agg #[.bool s, .slice o l c]) (by simp only [Nat.add_zero] at e0 e1; simp [results, Tryz.results89, go_sem, e0, e1]) rfl ⟨s, o, l, c, rfl, hlc, hcm, by rw [← HI.out]; exact hz, hbel⟩
end Go.Proofs.YtbihgllfllkkaaaGreat

/- withPoint, for every number of places. -/
set_option linter.unusedVariables false
namespace Go.Proofs.YtbihgllfllkkaaaGreat
open Go.RowKit

/-- with zeros ahead, so that a digit stands before the point -/
def padded (l : List UInt8) (k : Nat) : List UInt8 := List.replicate (k + 1 - l.length) 48 ++ l
def pointedZ (l : List UInt8) (k : Nat) : List UInt8 := if k = 0 then l else pointed (padded l k) k

theorem repeat48 (c : Nat) : Lib.repeatL [48] c = List.replicate c (48 : UInt8) := by
  induction c with
  | zero => rfl
  | succ c ih => rw [List.replicate_succ, ← ih]; rfl

theorem padded_long {l : List UInt8} {k : Nat} (h : k < l.length) : padded l k = l := by
  unfold padded
  rw [show k + 1 - l.length = 0 by omega]; rfl

theorem padded_len (l : List UInt8) (k : Nat) : (padded l k).length ≤ l.length + k + 1 := by
  unfold padded; simp; omega

theorem pointedZ_len (l : List UInt8) (k : Nat) : (pointedZ l k).length ≤ l.length + k + 2 := by
  unfold pointedZ
  by_cases h : k = 0
  · rw [if_pos h]; omega
  · rw [if_neg h]
    have h1 := padded_len l k
    unfold pointed
    rw [if_neg h]
    simp
    omega

set_option maxHeartbeats 1000000 in
theorem withPoint_all (l : List UInt8) (K : Int) (k : Nat) (W : World) (hK : K = (k : Int)) (hk : k ≤ 64) (hl : l.length ≤ 1000000000000) :
    Calls Tryz.prog 95 #[.string ⟨l.toArray⟩, .int .i64 K] W (fun e w' => e = .returned (.string ⟨(pointedZ l k).toArray⟩) ∧ Below W.heap.size W w') := by
  by_cases h0 : k = 0
  · refine (withPoint_any l K k W hK (.inl h0) hl).mono fun e w h => ⟨?_, h.2.below⟩
    rw [h.1]
    unfold pointedZ pointed
    rw [if_pos h0, if_pos h0]
  by_cases h1 : k < l.length
  · refine (withPoint_any l K k W hK (.inr h1) hl).mono fun e w h => ⟨?_, h.2.below⟩
    rw [h.1]
    unfold pointedZ
    rw [if_neg h0, padded_long h1]
  subst hK
  obtain ⟨c, hc⟩ : ∃ c, c = k + 1 - l.length := ⟨_, rfl⟩
  have hc1 : 1 ≤ c := by omega
  have hc2 : c ≤ 65 := by omega
  have e1 : (k : Int) + 1 - (l.length : Int) = (c : Int) := by omega
  have b0 : ((k : Int) == 0) = false := by simp; omega
  have b1 : (l.length : Int) ≤ (k : Int) := by omega
  obtain ⟨p, hp⟩ : ∃ p, p = padded l k := ⟨_, rfl⟩
  have hpl : p.length = k + 1 := by rw [hp]; unfold padded; simp; omega
  have HE : Hid (pointedZ l k = p.take 1 ++ [46] ++ p.drop 1) := by
    show _ = _
    unfold pointedZ
    rw [if_neg h0, ← hp]
    unfold pointed
    rw [if_neg h0, hpl, show k + 1 - k = 1 by omega]
  have happ : (⟨(Lib.repeatL [48] c).toArray⟩ ++ ⟨l.toArray⟩ : ByteArray) = ⟨p.toArray⟩ := by
    rw [bytes_append, repeat48, hp, hc]; rfl
  have hrl : (Lib.repeatL [48] c).length = c := by rw [repeat48]; simp
  have HP := Lib.hid hpl
  rw [HE.out]
  clear hc hp h0 h1
  go_enter Tryz.func95, Tryz.ntmps95
  go_wp2_with fail
  refine (Tryz.strings_Repeat ⟨#[48]⟩ c _ (by omega) (by show 1 * c ≤ _; omega)).mono ?_
  rintro e w1 ⟨rfl, hb⟩
  have HB := Lib.hid hb
  clear hb
  go_upto_region 5 with fail
  have ej : ((p.length : Int) - (k : Int)) = 1 := by have := HP.out; omega
  have c2 : (1 : Int) ≤ (p.length : Int) := by have := HP.out; omega
  have c3 : 1 ≤ p.length := by have := HP.out; omega
  have c4 : ¬ p.length < 1 := by omega
  go_wp2_with fail
  go_region
  go_wp2
  go_ret
  refine ⟨congrArg (fun x => Ending.returned (Value.string x)) ?_, HB.out.drew⟩
  rw [bytes_extract, bytes_extract]
  have h1 := bytes_append (List.take (1 - 0) (List.drop 0 p)) [46]
  have h2 := bytes_append (List.take (1 - 0) (List.drop 0 p) ++ [46]) (List.take (k + 1 - 1) (List.drop 1 p))
  rw [← h1] at h2
  refine h2.trans ?_
  rw [List.drop_zero, Nat.sub_zero, List.take_of_length_le (l := List.drop 1 p) (by have := HP.out; simp; omega)]
end Go.Proofs.YtbihgllfllkkaaaGreat

/- Decimal, for every number of places. -/
set_option linter.unusedVariables false
namespace Go.Proofs.YtbihgllfllkkaaaGreat
open Go.RowKit

/-- the decimal -/
def decTextZ (p : Int) (q k : Nat) : List UInt8 :=
  if p < 0 ∧ nearest (p.natAbs * 10 ^ k) q ≠ 0 then 45 :: pointedZ (numeral (nearest (p.natAbs * 10 ^ k) q)) k else pointedZ (numeral (nearest (p.natAbs * 10 ^ k) q)) k

theorem decTextZ_pos {m q k r : Nat} (_ : True) (_ : True) (h : nearest (m * 10 ^ k) q = r) : decTextZ (sgn false m) q k = pointedZ (numeral r) k := by
  unfold decTextZ
  rw [sgn_natAbs, h, if_neg]
  rintro ⟨h1, _⟩
  have : sgn false m = (m : Int) := rfl
  omega

theorem decTextZ_zero {m q k r : Nat} {s : Bool} (_ : True) (_ : True) (h : nearest (m * 10 ^ k) q = r) (hr : r = 0) : decTextZ (sgn s m) q k = pointedZ (numeral r) k := by
  unfold decTextZ
  rw [sgn_natAbs, h, if_neg]
  rintro ⟨_, h1⟩
  exact h1 hr

theorem decTextZ_neg {m q k r : Nat} (_ : True) (hm : m ≠ 0) (h : nearest (m * 10 ^ k) q = r) (hr : r ≠ 0) : decTextZ (sgn true m) q k = 45 :: pointedZ (numeral r) k := by
  unfold decTextZ
  rw [sgn_natAbs, h, if_pos]
  refine ⟨?_, hr⟩
  show -(m : Int) < 0
  omega

set_option maxRecDepth 100000 in
set_option maxHeartbeats 1600000 in
theorem decimal_all (na : Bool) (ao bo : Option Addr) (la lb ca cb : Nat) (p : Int) (q : Nat) (K : Int) (k : Nat) (W : World) (h : Q32 W na ao la bo lb p q) (hla : la ≤ 100000) (hlb : lb ≤ 100000) (hq0 : q ≠ 0) (hK : K = (k : Int)) (hk : k ≤ 64)
    (hD : DivOk (p.natAbs * 10 ^ k) q) :
    Calls Tryz.prog 44 #[.agg #[.bool na, .slice ao la ca, .slice bo lb cb], .int .i64 K] W (DecPost (decTextZ p q k) W) := by
  subst hK
  have hf : Fr W (W.alloc (.cells #[.bool na, .slice ao la ca, .slice bo lb cb] 35)) [(35, #[.bool na, .slice ao la ca, .slice bo lb cb])] := (Fr.nil W).alloc rfl _ _
  have hqlt : q < B32 ^ (lb + 1) := by
    rcases h.2 with ⟨h1, h2⟩ | ⟨h1, h2⟩
    · rw [h1, h2]; decide
    · exact Nat.lt_of_lt_of_le h1.lt (Nat.pow_le_pow_right B32_pos (by omega))
  have hbl : lb = 0 ∨ 0 < lb := by omega
  have HQ := Lib.hid h
  obtain ⟨⟨m, hm, rfl, hmn⟩, hden⟩ := h
  rw [sgn_natAbs] at hD
  have halt : m * 10 ^ k < B32 ^ (la + 64) := by
    rw [Nat.pow_add]
    have h1 := hm.lt
    have h2 : 10 ^ k < B32 ^ 64 := by
      have : 10 ^ k ≤ 10 ^ 64 := Nat.pow_le_pow_right (by decide) hk
      have h3 : 10 ^ 64 < B32 ^ 64 := by decide
      omega
    exact Nat.mul_lt_mul'' h1 h2
  obtain ⟨a, haq⟩ : ∃ a, a = m * 10 ^ k := ⟨_, rfl⟩
  have HM := Lib.hid hm
  have HMN := Lib.hid hmn
  rw [← haq] at hD halt
  have HAQ := Lib.hid haq
  have HALT := Lib.hid halt
  have HQLT := Lib.hid hqlt
  have HD := Lib.hid hD
  have HQ0 := Lib.hid hq0
  have i1 : ¬ ((k : Int) < 0) := by omega
  have i2 : ¬ (64 < (k : Int)) := by omega
  have hnl : nearest a q < B32 ^ (la + 65) := by
    have h1 : nearest a q ≤ a / q + 1 := by unfold nearest; split <;> omega
    have h2 := Nat.div_le_self a q
    have h3 : B32 ^ (la + 64) * 2 ≤ B32 ^ (la + 65) := by rw [Nat.pow_succ B32 (la + 64)]; exact Nat.mul_le_mul_left _ (by decide)
    omega
  have hln := numeral_len hnl
  have hln2 : (numeral (nearest a q)).length ≤ 1000000000000 := by omega
  have HLN := Lib.hid hln2
  have hpl : ¬ 9223372036854775807 < 1 + (pointedZ (numeral (nearest a q)) k).length := by
    have := pointedZ_len (numeral (nearest a q)) k
    omega
  have HPL := Lib.hid hpl
  have HUPL : Hid (a / q + 1 < B32 ^ (la + 65)) := by
    have h2 := Nat.div_le_self a q
    have h3 : B32 ^ (la + 64) * 2 ≤ B32 ^ (la + 65) := by rw [Nat.pow_succ B32 (la + 64)]; exact Nat.mul_le_mul_left _ (by decide)
    show _ < _
    omega
  clear hm hmn hD halt hqlt hden haq hq0 hnl hln hln2 hpl hbl
  have hfld := field_digits
  go_enter Tryz.func44, Tryz.ntmps44
  go_wp2_with fail
  obtain ⟨W1, hW1⟩ : ∃ W1, W1 = W.alloc (.cells #[.bool na, .slice ao la ca, .slice bo lb cb] 35) := ⟨_, rfl⟩
  rw [← hW1] at hf ⊢
  clear hW1
  have HF := Lib.hid hf
  clear hf
  have c0 : W1.cell? ⟨W.heap.size, 0, none⟩ = some (.bool na) := HF.out.cell 0 0 rfl rfl
  have c1 : W1.cell? ⟨W.heap.size, 1, none⟩ = some (.slice ao la ca) := HF.out.cell 0 1 rfl rfl
  have c2 : W1.cell? ⟨W.heap.size, 2, none⟩ = some (.slice bo lb cb) := HF.out.cell 0 2 rfl rfl
  refine (den_any na ao bo la lb ca cb _ q _ (HQ.out.keep HF.out.below) (by omega)).mono ?_
  rintro e w2 ⟨dneg, dp, dl, dc, rfl, hz2, hb2⟩
  have hd2 := hz2.n32
  rw [Int.natAbs_natCast] at hd2
  have hdl : dl ≤ 100001 := Nat.le_trans (hd2.len_le HQLT.out) (by omega)
  have HF2 := Lib.hid (HF.out.later hb2)
  have HD2 := Lib.hid hd2
  clear hb2 hz2 hd2
  go_wp2_with fail
  have d0 : w2.cell? ⟨W.heap.size, 0, none⟩ = some (.bool na) := HF2.out.cell 0 0 rfl rfl
  have d1 : w2.cell? ⟨W.heap.size, 1, none⟩ = some (.slice ao la ca) := HF2.out.cell 0 1 rfl rfl
  go_region_held3 (fun w' => w'.cell? ⟨W.heap.size, 0, none⟩ = some (.bool na) ∧ w'.cell? ⟨W.heap.size, 1, none⟩ = some (.slice ao la ca)) (go_keep)
    (first | (go_at_call 86; refine (powerOfTen_any _ k w2.drew rfl (by omega)).mono ?_; rintro e w3 ⟨to_, tl, tc, rfl, ht3, htl, hb3⟩; have HB3 := Lib.hid (below_of_drew hb3); have HT3 := Lib.hid ht3; have HF3 := Lib.hid (HF2.out.later HB3.out); clear hb3 ht3; have f0 : w3.cell? ⟨W.heap.size, 0, none⟩ = some (.bool na) := HF3.out.cell 0 0 rfl rfl; have f1 : w3.cell? ⟨W.heap.size, 1, none⟩ = some (.slice ao la ca) := HF3.out.cell 0 1 rfl rfl) | (go_at_call 91; refine (product_any _ _ _ _ _ _ m (10 ^ k) _ (HM.out.keep HF3.out.below) HT3.out (by omega) (by omega)).mono ?_; rintro e w4 ⟨po, pl, pc, rfl, hp4, hb4⟩; have HB4 := Lib.hid (below_then HB3.out hb4); have hp5 : N32 w4 po pl a := (by rw [HAQ.out]; exact hp4); have HP4 := Lib.hid hp5; have HF4 := Lib.hid (HF2.out.later HB4.out); have hpl4 := Nat.le_trans (hp5.len_le HALT.out) (show la + 64 ≤ 100064 by omega); clear hb4 hp4 hp5; have j0 : w4.cell? ⟨W.heap.size, 0, none⟩ = some (.bool na) := HF4.out.cell 0 0 rfl rfl; have j1 : w4.cell? ⟨W.heap.size, 1, none⟩ = some (.slice ao la ca) := HF4.out.cell 0 1 rfl rfl) | (go_at_call 90; refine (HD.out _ _ _ _ _ _ _ HP4.out (HD2.out.keep HB4.out) (by omega) (by omega)).mono ?_; rintro e w5 ⟨qo, ql, qc, ro, rl, rc, rfl, hq5, hr5, hb5⟩; have HB5 := Lib.hid (below_then HB4.out hb5); have HQ5 := Lib.hid hq5; have HR5 := Lib.hid hr5; have HF5 := Lib.hid (HF2.out.later HB5.out); clear hb5 hq5 hr5; have m0 : w5.cell? ⟨W.heap.size, 0, none⟩ = some (.bool na) := HF5.out.cell 0 0 rfl rfl; have m1 : w5.cell? ⟨W.heap.size, 1, none⟩ = some (.slice ao la ca) := HF5.out.cell 0 1 rfl rfl))
  have hql : ql ≤ 1000000000 := Nat.le_trans (HQ5.out.len_le (Nat.lt_of_le_of_lt (Nat.div_le_self _ _) HALT.out)) (by omega)
  have hrl : rl ≤ 1000000 := Nat.le_trans (HR5.out.len_le (Nat.lt_trans (Nat.mod_lt _ (Nat.pos_of_ne_zero HQ0.out)) HQLT.out)) (by omega)
  have HRLT := Lib.hid (Nat.lt_trans (Nat.mod_lt a (Nat.pos_of_ne_zero HQ0.out)) HQLT.out)
  clear c0 c1 c2 d0 d1 f0 f1 j0 j1
  go_wp2_with fail
  refine (sum_any _ _ _ _ _ _ (a % q) (a % q) _ HR5.out HR5.out (by omega) (by omega)).mono ?_
  rintro e w55 ⟨so5, sl5, sc5, rfl, hs5, hb55⟩
  have hsl5 : sl5 ≤ 1000000000 := by
    refine Nat.le_trans (hs5.len_le (k := lb + 2) ?_) (by omega)
    rw [Nat.pow_succ]
    have := HRLT.out
    have h3 : B32 ^ (lb + 1) * 2 ≤ B32 ^ (lb + 1) * B32 := Nat.mul_le_mul_left _ (by decide)
    omega
  have HS5 := Lib.hid hs5
  have HF55 := Lib.hid (HF5.out.later hb55)
  have HD55 := Lib.hid (HD2.out.keep (below_then HB5.out hb55))
  have HQ55 := Lib.hid (HQ5.out.keep hb55)
  clear hs5 hb55 m0 m1
  go_wp2_with fail
  refine (compare_any _ _ _ _ _ _ (a % q + a % q) q _ HS5.out HD55.out hsl5 (by omega)).mono ?_
  rintro e w6 ⟨rfl, hd6⟩
  have HF6 := Lib.hid (HF55.out.later hd6.below)
  have HQ6 := Lib.hid (HQ55.out.keep hd6.below)
  clear hd6
  rcases Nat.lt_trichotomy (a % q + a % q) q with hlt | heq | hgt
  · have hnear : nearest a q = a / q := by unfold nearest; rw [if_neg (by omega)]
    rw [cmpN_lt hlt]
    rw [hnear] at HLN HPL
    have HNEAR : Hid (nearest (m * 10 ^ k) q = a / q) := by rw [← HAQ.out]; exact hnear
    clear hnear hlt
    have HNR := Lib.hid HQ6.out
    have hnrl := hql

    go_wp2_with fail
    refine (writeDigits_any _ _ _ (a / q) _ HNR.out hnrl).mono ?_
    rintro e w9 ⟨rfl, hb9⟩
    have HF9 := Lib.hid (HF6.out.later hb9)
    clear hb9
    go_wp2_with fail
    refine (withPoint_all _ _ k _ rfl hk HLN.out).mono ?_
    rintro e w10 ⟨rfl, hd10⟩
    have HF10 := Lib.hid (HF9.out.later hd10)
    clear hd10
    have z0 : w10.cell? ⟨W.heap.size, 0, none⟩ = some (.bool na) := HF10.out.cell 0 0 rfl rfl
    have hnz := HNR.out.zero
    have HNZ := Lib.hid hnz
    clear hnz hnrl hql hrl hsl5 hpl4 htl hdl hla hlb hk i1 i2 HALT HQLT HUPL HRLT HLN
    cases na with
    | false =>
      go_wp2
      go_ret2
      exact ⟨by rw [decTextZ_pos trivial trivial HNEAR.out]; rfl, HF10.out.below⟩
    | true =>
      by_cases hnl0 : ql = 0
      · have hz := Lib.hid (HNZ.out.2 hnl0)
        have q1 : ¬ (0 : Int) < (ql : Int) := by omega
        have q3 : decide (0 < ql) = false := by simp; omega
        clear hnl0
        go_wp2
        go_ret2
        exact ⟨by rw [decTextZ_zero trivial trivial HNEAR.out hz.out]; rfl, HF10.out.below⟩
      · have hz : Hid ((a / q) ≠ 0) := fun h => hnl0 (HNZ.out.1 h)
        have q1 : (0 : Int) < (ql : Int) := by omega
        have q3 : decide (0 < ql) = true := by simp; omega
        clear hnl0
        have q2 := HPL.out
        go_wp2
        go_ret2
        refine ⟨?_, HF10.out.below⟩
        rw [decTextZ_neg trivial (HMN.out trivial) HNEAR.out hz.out]
        have := bytes_append [45] (pointedZ (numeral (a / q)) k)
        exact congrArg (fun x => Ending.returned (.tuple #[Value.string x, .int .i64 0])) this
  · by_cases hodd : (a / q) % 2 = 1
    · have hnear : nearest a q = a / q + 1 := by unfold nearest; rw [if_pos (by omega)]
      rw [cmpN_eq heq]
      rw [hnear] at HLN HPL
      have HNEAR : Hid (nearest (m * 10 ^ k) q = a / q + 1) := by rw [← HAQ.out]; exact hnear
      have hob : ((a / q) % 2 == 1) = true := by simp [hodd]
      clear hnear heq
      go_wp2_with fail
      refine (isOdd_any _ _ _ (a / q) _ HQ6.out).mono ?_
      rw [hob]
      clear hob hodd
      rintro e w7 ⟨rfl, rfl⟩
      have HONE := Lib.hid (one_slice w6)
      have HF6a := Lib.hid (HF6.out.later (box_below w6 107 #[.int .u32 1]))
      go_wp2_with fail
      refine (sum_any _ _ _ _ _ _ (a / q) 1 _ (HQ6.out.keep (box_below _ _ _)) HONE.out hql (by omega)).mono ?_
      rintro e w8 ⟨so, sl, sc, rfl, hs8, hb8⟩
      have HF8 := Lib.hid (HF6a.out.later hb8)
      have HNR := Lib.hid hs8
      have hnrl : sl ≤ 1000000000 := Nat.le_trans (hs8.len_le HUPL.out) (by omega)
      clear hs8 hb8

      go_wp2_with fail
      refine (writeDigits_any _ _ _ (a / q + 1) _ HNR.out hnrl).mono ?_
      rintro e w9 ⟨rfl, hb9⟩
      have HF9 := Lib.hid (HF8.out.later hb9)
      clear hb9
      go_wp2_with fail
      refine (withPoint_all _ _ k _ rfl hk HLN.out).mono ?_
      rintro e w10 ⟨rfl, hd10⟩
      have HF10 := Lib.hid (HF9.out.later hd10)
      clear hd10
      have z0 : w10.cell? ⟨W.heap.size, 0, none⟩ = some (.bool na) := HF10.out.cell 0 0 rfl rfl
      have hnz := HNR.out.zero
      have HNZ := Lib.hid hnz
      clear hnz hnrl hql hrl hsl5 hpl4 htl hdl hla hlb hk i1 i2 HALT HQLT HUPL HRLT HLN
      cases na with
      | false =>
        go_wp2
        go_ret2
        exact ⟨by rw [decTextZ_pos trivial trivial HNEAR.out]; rfl, HF10.out.below⟩
      | true =>
        by_cases hnl0 : sl = 0
        · have hz := Lib.hid (HNZ.out.2 hnl0)
          have q1 : ¬ (0 : Int) < (sl : Int) := by omega
          have q3 : decide (0 < sl) = false := by simp; omega
          clear hnl0
          go_wp2
          go_ret2
          exact ⟨by rw [decTextZ_zero trivial trivial HNEAR.out hz.out]; rfl, HF10.out.below⟩
        · have hz : Hid ((a / q + 1) ≠ 0) := fun h => hnl0 (HNZ.out.1 h)
          have q1 : (0 : Int) < (sl : Int) := by omega
          have q3 : decide (0 < sl) = true := by simp; omega
          clear hnl0
          have q2 := HPL.out
          go_wp2
          go_ret2
          refine ⟨?_, HF10.out.below⟩
          rw [decTextZ_neg trivial (HMN.out trivial) HNEAR.out hz.out]
          have := bytes_append [45] (pointedZ (numeral (a / q + 1)) k)
          exact congrArg (fun x => Ending.returned (.tuple #[Value.string x, .int .i64 0])) this
    · have hnear : nearest a q = a / q := by unfold nearest; rw [if_neg (by omega)]
      rw [cmpN_eq heq]
      rw [hnear] at HLN HPL
      have HNEAR : Hid (nearest (m * 10 ^ k) q = a / q) := by rw [← HAQ.out]; exact hnear
      have hob : ((a / q) % 2 == 1) = false := by simp [hodd]
      clear hnear heq
      go_wp2_with fail
      refine (isOdd_any _ _ _ (a / q) _ HQ6.out).mono ?_
      rw [hob]
      clear hob hodd
      rintro e w7 ⟨rfl, rfl⟩
      have HNR := Lib.hid HQ6.out
      have hnrl := hql

      go_wp2_with fail
      refine (writeDigits_any _ _ _ (a / q) _ HNR.out hnrl).mono ?_
      rintro e w9 ⟨rfl, hb9⟩
      have HF9 := Lib.hid (HF6.out.later hb9)
      clear hb9
      go_wp2_with fail
      refine (withPoint_all _ _ k _ rfl hk HLN.out).mono ?_
      rintro e w10 ⟨rfl, hd10⟩
      have HF10 := Lib.hid (HF9.out.later hd10)
      clear hd10
      have z0 : w10.cell? ⟨W.heap.size, 0, none⟩ = some (.bool na) := HF10.out.cell 0 0 rfl rfl
      have hnz := HNR.out.zero
      have HNZ := Lib.hid hnz
      clear hnz hnrl hql hrl hsl5 hpl4 htl hdl hla hlb hk i1 i2 HALT HQLT HUPL HRLT HLN
      cases na with
      | false =>
        go_wp2
        go_ret2
        exact ⟨by rw [decTextZ_pos trivial trivial HNEAR.out]; rfl, HF10.out.below⟩
      | true =>
        by_cases hnl0 : ql = 0
        · have hz := Lib.hid (HNZ.out.2 hnl0)
          have q1 : ¬ (0 : Int) < (ql : Int) := by omega
          have q3 : decide (0 < ql) = false := by simp; omega
          clear hnl0
          go_wp2
          go_ret2
          exact ⟨by rw [decTextZ_zero trivial trivial HNEAR.out hz.out]; rfl, HF10.out.below⟩
        · have hz : Hid ((a / q) ≠ 0) := fun h => hnl0 (HNZ.out.1 h)
          have q1 : (0 : Int) < (ql : Int) := by omega
          have q3 : decide (0 < ql) = true := by simp; omega
          clear hnl0
          have q2 := HPL.out
          go_wp2
          go_ret2
          refine ⟨?_, HF10.out.below⟩
          rw [decTextZ_neg trivial (HMN.out trivial) HNEAR.out hz.out]
          have := bytes_append [45] (pointedZ (numeral (a / q)) k)
          exact congrArg (fun x => Ending.returned (.tuple #[Value.string x, .int .i64 0])) this
  · have hnear : nearest a q = a / q + 1 := by unfold nearest; rw [if_pos (by omega)]
    rw [cmpN_gt hgt]
    rw [hnear] at HLN HPL
    have HNEAR : Hid (nearest (m * 10 ^ k) q = a / q + 1) := by rw [← HAQ.out]; exact hnear
    clear hnear hgt
    have HONE := Lib.hid (one_slice w6)
    have HF6a := Lib.hid (HF6.out.later (box_below w6 107 #[.int .u32 1]))
    go_wp2_with fail
    refine (sum_any _ _ _ _ _ _ (a / q) 1 _ (HQ6.out.keep (box_below _ _ _)) HONE.out hql (by omega)).mono ?_
    rintro e w8 ⟨so, sl, sc, rfl, hs8, hb8⟩
    have HF8 := Lib.hid (HF6a.out.later hb8)
    have HNR := Lib.hid hs8
    have hnrl : sl ≤ 1000000000 := Nat.le_trans (hs8.len_le HUPL.out) (by omega)
    clear hs8 hb8

    go_wp2_with fail
    refine (writeDigits_any _ _ _ (a / q + 1) _ HNR.out hnrl).mono ?_
    rintro e w9 ⟨rfl, hb9⟩
    have HF9 := Lib.hid (HF8.out.later hb9)
    clear hb9
    go_wp2_with fail
    refine (withPoint_all _ _ k _ rfl hk HLN.out).mono ?_
    rintro e w10 ⟨rfl, hd10⟩
    have HF10 := Lib.hid (HF9.out.later hd10)
    clear hd10
    have z0 : w10.cell? ⟨W.heap.size, 0, none⟩ = some (.bool na) := HF10.out.cell 0 0 rfl rfl
    have hnz := HNR.out.zero
    have HNZ := Lib.hid hnz
    clear hnz hnrl hql hrl hsl5 hpl4 htl hdl hla hlb hk i1 i2 HALT HQLT HUPL HRLT HLN
    cases na with
    | false =>
      go_wp2
      go_ret2
      exact ⟨by rw [decTextZ_pos trivial trivial HNEAR.out]; rfl, HF10.out.below⟩
    | true =>
      by_cases hnl0 : sl = 0
      · have hz := Lib.hid (HNZ.out.2 hnl0)
        have q1 : ¬ (0 : Int) < (sl : Int) := by omega
        have q3 : decide (0 < sl) = false := by simp; omega
        clear hnl0
        go_wp2
        go_ret2
        exact ⟨by rw [decTextZ_zero trivial trivial HNEAR.out hz.out]; rfl, HF10.out.below⟩
      · have hz : Hid ((a / q + 1) ≠ 0) := fun h => hnl0 (HNZ.out.1 h)
        have q1 : (0 : Int) < (sl : Int) := by omega
        have q3 : decide (0 < sl) = true := by simp; omega
        clear hnl0
        have q2 := HPL.out
        go_wp2
        go_ret2
        refine ⟨?_, HF10.out.below⟩
        rw [decTextZ_neg trivial (HMN.out trivial) HNEAR.out hz.out]
        have := bytes_append [45] (pointedZ (numeral (a / q + 1)) k)
        exact congrArg (fun x => Ending.returned (.tuple #[Value.string x, .int .i64 0])) this
end Go.Proofs.YtbihgllfllkkaaaGreat

/- The specification's Decimal. -/
set_option linter.unusedVariables false
namespace Go.Proofs.YtbihgllfllkkaaaGreat
open Go.RowKit Go.Proofs

theorem field_digits16 (b : Bool) (ao : Option Addr) (l c : Nat) (w : World) : (Instr.field 27 (.agg #[.bool b, .slice ao l c]) 1).run Tryz.prog w = .ok (.slice ao l c) w := by kernel_rfl

/-- one more unit -/
def roundUp (a q : Nat) : Bool := decide (q < 2 * (a % q) ∨ (2 * (a % q) = q ∧ (a / q) % 2 = 1))
theorem nearest_up {a q : Nat} (h : roundUp a q = true) : nearest a q = a / q + 1 := by unfold nearest; rw [if_pos (of_decide_eq_true h)]
theorem nearest_down {a q : Nat} (h : roundUp a q = false) : nearest a q = a / q := by unfold nearest; rw [if_neg (of_decide_eq_false h)]

def strLen16 (k : Nat) : Value → Nat
  | .string b => k + 1 - b.size
  | _ => 0

theorem dec16_len {n k : Nat} (h : n < B16 ^ k) : (numeral n).length ≤ 16 * k + 17 := by
  have h1 : n < B32 ^ ((k + 1) / 2) := by
    rw [B32_pow]
    rw [B16_pow] at h
    exact Nat.lt_of_lt_of_le h (Nat.pow_le_pow_right (by decide) (by omega))
  have := numeral_len h1
  omega

theorem numeral_len1 (n : Nat) : 1 ≤ (numeral n).length := by
  obtain ⟨x, t, h, _⟩ := numeral_head (n := n)
  rw [h]; simp

def Dec16Rel (k : Nat) (l : List UInt8) (v : Value) : Prop := ∃ j, v = .string ⟨(List.replicate j (48 : UInt8) ++ l).toArray⟩ ∧ (j = 0 ∨ j + l.length ≤ k + 1)

theorem dec16_end {k j : Nat} {l : List UInt8} (h1 : j = 0 ∨ j + l.length ≤ k + 1) (h2 : k < j + l.length) : List.replicate j (48 : UInt8) ++ l = padded l k := by
  unfold padded
  rw [show k + 1 - l.length = j by omega]

set_option maxRecDepth 100000 in
set_option maxHeartbeats 4000000 in
theorem dec16_any (s1 s2 : Bool) (o1 o2 : Option Addr) (l1 l2 c1 c2 : Nat) (p : Int) (q : Nat) (K : Int) (k : Nat) (W : World) (h1 : Z16 W s1 o1 l1 p) (h2 : Z16 W s2 o2 l2 (q : Int)) (hl1 : l1 ≤ 100000) (hl2 : l2 ≤ 100000) (hq0 : 0 < q) (hK : K = (k : Int)) (hk : k ≤ 64) :
    Calls Tryz.prog 45 #[.agg #[.bool s1, .slice o1 l1 c1, .bool s2, .slice o2 l2 c2], .int .i64 K] W (StrPost (decTextZ p q k) W) := by
  subst hK
  have hf : Fr W (W.alloc (.cells #[.bool s1, .slice o1 l1 c1, .bool s2, .slice o2 l2 c2] 43)) [(43, #[.bool s1, .slice o1 l1 c1, .bool s2, .slice o2 l2 c2])] := (Fr.nil W).alloc rfl _ _
  obtain ⟨m, hm⟩ : ∃ m, m = p.natAbs := ⟨_, rfl⟩
  obtain ⟨a, ha⟩ : ∃ a, a = m * 10 ^ k := ⟨_, rfl⟩
  have hne := h1.neg_eq
  have hzq := h1.zero
  have HM : Hid (N16 W o1 l1 m) := by rw [hm]; exact h1.n16
  have HN : Hid (N16 W o2 l2 q) := by have := h2.n16; rwa [Int.natAbs_natCast] at this
  have HA := Lib.hid ha
  have HMP := Lib.hid hm
  have HNE := Lib.hid hne
  have hfld := field_digits16
  obtain ⟨V, hV⟩ : ∃ V, V = W.alloc (.cells #[.bool s1, .slice o1 l1 c1, .bool s2, .slice o2 l2 c2] 43) := ⟨_, rfl⟩
  have HF : Hid (Fr W V [(43, #[.bool s1, .slice o1 l1 c1, .bool s2, .slice o2 l2 c2])]) := by rw [hV]; exact hf
  have HM0 : Hid (N16 V o1 l1 m) := by rw [hV]; exact HM.out.keep hf.below
  have HN0 : Hid (N16 V o2 l2 q) := by rw [hV]; exact HN.out.keep hf.below
  have hqlt := HN.out.lt
  have HQLT := Lib.hid hqlt
  clear hf hm ha hne hzq h1 h2 HM HN hqlt
  go_enter Tryz.func45, Tryz.ntmps45
  go_upto_region 1 with fail
  rw [← hV]
  clear hV
  have c0 : V.cell? ⟨W.heap.size, 0, none⟩ = some (.bool s1) := HF.out.cell 0 0 rfl rfl
  have c1' : V.cell? ⟨W.heap.size, 1, none⟩ = some (.slice o1 l1 c1) := HF.out.cell 0 1 rfl rfl
  have c3' : V.cell? ⟨W.heap.size, 3, none⟩ = some (.slice o2 l2 c2) := HF.out.cell 0 3 rfl rfl
  go_region_held3 (fun w' => w'.cell? ⟨W.heap.size, 1, none⟩ = some (.slice o1 l1 c1) ∧ w'.cell? ⟨W.heap.size, 3, none⟩ = some (.slice o2 l2 c2)) (go_keep)
    (first | (go_at_call 58; refine (divMod_any _ _ _ _ _ _ a q _ HP2.out HN2.out hq0 (by omega) (by omega)).mono ?_; rintro e w3 ⟨qo, ql, qc, ro, rl, rc, rfl, hqc, hqm, hrc, hrm, hq, hr, hb⟩; have HF3 := Lib.hid (HF2.out.later hb); have HN3 := Lib.hid (HN2.out.keep hb); have HQ3 := Lib.hid hq; have HR3 := Lib.hid hr; clear hb hq hr; have f1 : w3.cell? ⟨W.heap.size, 1, none⟩ = some (.slice o1 l1 c1) := HF3.out.cell 0 1 rfl rfl; have f3 : w3.cell? ⟨W.heap.size, 3, none⟩ = some (.slice o2 l2 c2) := HF3.out.cell 0 3 rfl rfl) | (go_at_call 96; refine (mul16_any _ _ _ _ _ _ m (10 ^ k) _ HM1.out HT1.out (by omega) (by omega)).mono ?_; rintro e w2 ⟨po, pl, pc, rfl, _, _, hp, hb⟩; have HF2 := Lib.hid (HF1.out.later hb); have HN2 := Lib.hid (HN1.out.keep hb); rw [← HA.out] at hp; have hpl : pl ≤ 200000 := (Nat.le_trans (hp.len_le (by rw [HA.out]; exact (show m * 10 ^ k < B16 ^ (l1 + 14) from by rw [Nat.pow_add]; exact Nat.mul_lt_mul'' HM1.out.lt (by have := ten_lt hk; rwa [Int.natAbs_natCast] at this)))) (by omega)); have HP2 := Lib.hid hp; clear hb hp; have e1 : w2.cell? ⟨W.heap.size, 1, none⟩ = some (.slice o1 l1 c1) := HF2.out.cell 0 1 rfl rfl; have e3 : w2.cell? ⟨W.heap.size, 3, none⟩ = some (.slice o2 l2 c2) := HF2.out.cell 0 3 rfl rfl) | (go_at_call 89; refine (ten_any _ k V.drew rfl hk).mono ?_; rintro e w1 ⟨t1, u1, k1, d1, rfl, hk1, hd1, hz, hb⟩; have hbb := below_of_drew hb; have HF1 := Lib.hid (HF.out.later hbb); have HM1 := Lib.hid (HM0.out.keep hbb); have HN1 := Lib.hid (HN0.out.keep hbb); have hkl : k1 ≤ 14 := hz.n16.len_le (ten_lt hk); have hz2 := hz.n16; rw [Int.natAbs_natCast] at hz2; have HT1 := Lib.hid hz2; clear hb hbb hz hz2; have g1 : w1.cell? ⟨W.heap.size, 1, none⟩ = some (.slice o1 l1 c1) := HF1.out.cell 0 1 rfl rfl; have g3 : w1.cell? ⟨W.heap.size, 3, none⟩ = some (.slice o2 l2 c2) := HF1.out.cell 0 3 rfl rfl))
  have hrl : rl ≤ 100000 := Nat.le_trans (HR3.out.len_le (Nat.lt_trans (Nat.mod_lt _ hq0) HQLT.out)) hl2
  have hql : ql ≤ 200000 := Nat.le_trans (HQ3.out.len_le (Nat.lt_of_le_of_lt (Nat.div_le_self _ _) HP2.out.lt)) hpl
  clear c0 c1' c3' g1 g3 e1 e3 f1
  go_upto_region 2 with fail
  go_region_held3 (fun w' => w'.cell? ⟨W.heap.size, 3, none⟩ = some (.slice o2 l2 c2)) (go_keep)
    (first | (go_at_call 97; refine (cmp16_any _ _ _ _ _ _ (a % q + a % q) q _ HS4.out HN4.out (by omega) (by omega)).mono ?_; rintro e w5 ⟨rfl, hd5⟩; have HF5 := Lib.hid (HF4.out.later hd5.below); have HQ5 := Lib.hid (HQ4.out.keep hd5.below); clear hd5; have j3 : w5.cell? ⟨W.heap.size, 3, none⟩ = some (.slice o2 l2 c2) := HF5.out.cell 0 3 rfl rfl) | (go_at_call 98; refine (add_any _ _ _ _ _ _ (a % q) (a % q) w3.drew (HR3.out.keep (Below.refl _ _).drew) (HR3.out.keep (Below.refl _ _).drew) (by omega) (by omega)).mono ?_; rintro e w4 ⟨so, sl, sc, rfl, _, _, hs, hb⟩; have hbb := below_of_drew hb; have HF4 := Lib.hid (HF3.out.later hbb); have HQ4 := Lib.hid (HQ3.out.keep hbb); have HN4 := Lib.hid (HN3.out.keep hbb); have hsl : sl ≤ 100001 := Nat.le_trans (hs.len_le (show a % q + a % q < B16 ^ (l2 + 1) by have h1 := Nat.mod_lt a hq0; have h2 := HQLT.out; rw [Nat.pow_succ, B16_eq]; rw [B16_eq] at h2; omega)) (by omega); have HS4 := Lib.hid hs; clear hb hbb hs; have i3 : w4.cell? ⟨W.heap.size, 3, none⟩ = some (.slice o2 l2 c2) := HF4.out.cell 0 3 rfl rfl))
  clear f3 i3 j3
  obtain ⟨up, hup⟩ : ∃ b, b = roundUp a q := ⟨_, rfl⟩
  have HUP := Lib.hid hup
  go_upto_region 3 with fail
  go_cut [7, 41] from 29 to 41 (fun v7 v wx => v = .bool up ∧ wx = w5)
  case first =>
    obtain ⟨cc, hcc⟩ : ∃ c, c = cmpN (a % q + a % q) q := ⟨_, rfl⟩
    rw [← hcc]
    rcases Nat.lt_trichotomy (a % q + a % q) q with h | h | h
    · have hu : up = false := by rw [hup]; unfold roundUp; exact decide_eq_false (by omega)
      have hc : cc = -1 := by rw [hcc]; exact cmpN_lt h
      subst hu hc
      clear hup hcc
      go_wp2_with fail
      go_meet
      case rel => exact ⟨rfl, rfl⟩
    · have hc : cc = 0 := by rw [hcc]; exact cmpN_eq h
      obtain ⟨xs, hxs, hxd, hxt, hxv⟩ := HQ5.out
      have hpar : xs[0]?.getD 0 % 2 = a / q % 2 := by
        have h5 := bit_of hxd 0
        rw [hxv] at h5
        simpa using h5.symm
      obtain ⟨x, hx⟩ : ∃ x, x = xs[0]?.getD 0 := ⟨_, rfl⟩
      have hxb := hxd.get B16_pos 0
      rw [← hx] at hpar hxb
      rw [B16_eq] at hxb
      have HXS := Lib.hid hxs
      have HX := Lib.hid hx
      subst hc
      clear hcc hxs hxd hxt hxv hx
      by_cases hodd : a / q % 2 = 1
      · have hu : up = true := by rw [hup]; unfold roundUp; exact decide_eq_true (.inr ⟨by omega, hodd⟩)
        have m2 : (x : Int) % 2 = 1 := by omega
        have m1 : (x : Int).tmod 2 = 1 := by rw [Int.tmod_eq_emod_of_nonneg (Int.natCast_nonneg _)]; exact m2
        subst hu
        clear hup
        go_wp2_with fail
        refine (at_any _ _ _ xs _ 0 _ HXS.out rfl).mono ?_
        rw [← HX.out]
        rintro e w6 ⟨rfl, rfl⟩
        go_wp2_with fail
        go_meet
        case rel => exact ⟨rfl, rfl⟩
      · have hu : up = false := by rw [hup]; unfold roundUp; exact decide_eq_false (by omega)
        have m2 : (x : Int) % 2 = 0 := by omega
        have m1 : (x : Int).tmod 2 = 0 := by rw [Int.tmod_eq_emod_of_nonneg (Int.natCast_nonneg _)]; exact m2
        subst hu
        clear hup
        go_wp2_with fail
        refine (at_any _ _ _ xs _ 0 _ HXS.out rfl).mono ?_
        rw [← HX.out]
        rintro e w6 ⟨rfl, rfl⟩
        go_wp2_with fail
        go_meet
        case rel => exact ⟨rfl, rfl⟩
    · have hu : up = true := by rw [hup]; unfold roundUp; exact decide_eq_true (.inl (by omega))
      have hc : cc = 1 := by rw [hcc]; exact cmpN_gt h
      subst hu hc
      clear hup hcc
      go_wp2_with fail
      go_meet
      case rel => exact ⟨rfl, rfl⟩
  case rest =>
    obtain ⟨rfl, rfl⟩ := hcut
    obtain ⟨R, hR⟩ : ∃ R, R = nearest a q := ⟨_, rfl⟩
    obtain ⟨M, hM⟩ : ∃ M, M = 200000 := ⟨_, rfl⟩
    have hRl : R < B16 ^ (M + 1) := by
      have h5 : a / q < B16 ^ M := Nat.lt_of_lt_of_le HQ5.out.lt (Nat.pow_le_pow_right B16_pos (by omega))
      have h6 : R ≤ a / q + 1 := by rw [hR]; unfold nearest; split <;> omega
      have h7 : 0 < B16 ^ M := Nat.pow_pos B16_pos
      rw [Nat.pow_succ, B16_eq]
      rw [B16_eq] at h5 h7
      omega
    have HR := Lib.hid hR
    have HRL := Lib.hid hRl
    clear hR hRl hup
    go_upto_if 41 with fail
    go_cut [5] from 42 to 44 (fun v5 wx => ∃ xo xl xc, v5 = .slice xo xl xc ∧ N16 wx xo xl R ∧ Fr W wx [(43, #[.bool s1, .slice o1 l1 c1, .bool s2, .slice o2 l2 c2])])
    case first =>
      cases up with
      | true =>
        go_wp2_with fail
        refine (of_any 1 1 _ rfl (by omega)).mono ?_
        rintro e w6 ⟨no, nl, nc, rfl, _, _, hn1, hb6⟩
        have hnl : nl ≤ 1 := hn1.len_le (by rw [B16_eq]; decide)
        have HF6 := Lib.hid (HF5.out.later hb6)
        have HQ6 := Lib.hid (HQ5.out.keep hb6)
        have HO6 := Lib.hid hn1
        clear hn1 hb6
        go_wp2_with fail
        refine (add_any _ _ _ _ _ _ (a / q) 1 _ HQ6.out HO6.out (by omega) (by omega)).mono ?_
        rintro e w7 ⟨xo, xl, xc, rfl, _, _, hx, hb7⟩
        have HF7 := Lib.hid (HF6.out.later hb7)
        rw [← nearest_up HUP.out.symm, ← HR.out] at hx
        have HX7 := Lib.hid hx
        clear hx hb7
        go_wp2_with fail
        go_meet
        case rel => exact ⟨xo, xl, xc, rfl, HX7.out, HF7.out⟩
      | false =>
        have hx5 := HQ5.out
        rw [← nearest_down HUP.out.symm, ← HR.out] at hx5
        have HX5 := Lib.hid hx5
        clear hx5
        go_wp2_with fail
        go_meet
        case rel => exact ⟨qo, ql, qc, rfl, HX5.out, HF5.out⟩
    case rest =>
      obtain ⟨xo, xl, xc, rfl, hx, hfr⟩ := hcut
      have hxl : xl ≤ M + 1 := hx.len_le HRL.out
      have HX := Lib.hid hx
      have HFR := Lib.hid hfr
      clear hx hfr
      go_wp2_with fail
      refine (text_any _ _ _ R _ HX.out (by omega)).mono ?_
      rintro e w8 ⟨rfl, hb8⟩
      have HF8 := Lib.hid (HFR.out.later hb8)
      have HX8 := Lib.hid (HX.out.zero)
      obtain ⟨l, hl⟩ : ∃ l, l = numeral R := ⟨_, rfl⟩
      rw [← hl]
      have HL := Lib.hid hl
      have hll : l.length ≤ 16 * (M + 1) + 17 := by rw [hl]; exact dec16_len HRL.out
      clear hb8 hl HQ5 HF5 HX HFR
      go_wp2_with fail
      go_loopw [8] (fun v wr => Dec16Rel k l v ∧ wr = w8) (fun v _ => strLen16 k v)
      case atStart => exact ⟨⟨0, rfl, .inl rfl⟩, rfl⟩
      case round =>
        obtain ⟨⟨j, rfl, hj⟩, rfl⟩ := hrel
        obtain ⟨s, hs⟩ : ∃ s, s = List.replicate j (48 : UInt8) ++ l := ⟨_, rfl⟩
        have hsl : s.length = j + l.length := by rw [hs]; simp
        rw [← hs]
        have HS := Lib.hid hs
        clear hs
        have hcap : ¬ 9223372036854775807 < 1 + s.length := by omega
        by_cases hle : s.length ≤ k
        · have t1 : (s.length : Int) ≤ (k : Int) := by omega
          have hap : (⟨#[48]⟩ ++ ⟨s.toArray⟩ : ByteArray) = ⟨(48 :: s).toArray⟩ := bytes_append [48] s
          have HJ := Lib.hid hj
          have HSL := Lib.hid hsl
          have HLE := Lib.hid hle
          clear hj hsl hll hxl hql hrl hpl hle
          go_wp2_with fail
          refine ⟨⟨⟨j + 1, congrArg (fun x : List UInt8 => Value.string ⟨x.toArray⟩) (by rw [HS.out, List.replicate_succ]; rfl), .inr (by have h1 := HSL.out; have h2 := HLE.out; omega)⟩, trivial⟩, ?_⟩
          have h1 := HLE.out
          show k + 1 - (48 :: s).length < k + 1 - s.length
          simp only [List.length_cons]
          omega
        · have t1 : ¬ (s.length : Int) ≤ (k : Int) := by omega
          obtain ⟨T, hT⟩ : ∃ T, T = pointedZ l k := ⟨_, rfl⟩
          have hT0 : k = 0 → T = s := fun h => by
            have hlen := numeral_len1 R
            rw [← HL.out] at hlen
            have hj0 : j = 0 := by rcases hj with h5 | h5 <;> omega
            rw [hT, HS.out, hj0]
            unfold pointedZ
            rw [if_pos h]; rfl
          have hT1 : 0 < k → T = pointed s k := fun h => by
            rw [hT]
            unfold pointedZ
            rw [if_neg (by omega), HS.out, dec16_end hj (by omega)]
          have HT := Lib.hid hT
          have HT0 := Lib.hid hT0
          have HT1 := Lib.hid hT1
          have hsk : k < s.length := by omega
          have hkp : k = 0 ∨ 0 < k := by omega
          have hcap2 : s.length ≤ 10000000 := by rcases hj with h5 | h5 <;> omega
          have HLL : Hid (l.length ≤ 10000000) := by show _ ≤ _; omega
          clear hj hsl hll hxl hql hrl hpl hcap hle hT hT0 hT1 hM
          go_upto_if 54 with fail
          go_cut [8] from 54 to 68 (fun v8 wx => v8 = .string ⟨T.toArray⟩ ∧ Fr W wx [(43, #[.bool s1, .slice o1 l1 c1, .bool s2, .slice o2 l2 c2])])
          case first =>
            rcases hkp with h0 | h0
            · have t2 : ¬ (0 : Int) < (k : Int) := by omega
              have he := HT0.out h0
              clear h0
              go_wp2_with fail
              go_meet
              case rel => exact ⟨by rw [he], HF8.out⟩
            · have t2 : (0 : Int) < (k : Int) := by omega
              have he := HT1.out h0
              obtain ⟨d, hd⟩ : ∃ d, d = s.length - k := ⟨_, rfl⟩
              have ed : (s.length : Int) - (k : Int) = (d : Int) := by omega
              have c1 : (0 : Int) ≤ (d : Int) := by omega
              have c2 : (d : Int) ≤ (s.length : Int) := by omega
              have c3 : d ≤ s.length := by omega
              have hcapd : ¬ 9223372036854775807 < d + 1 := by omega
              have hcape : ¬ 9223372036854775807 < d + 1 + (s.length - d) := by omega
              unfold pointed at he
              rw [if_neg (by omega), ← hd] at he
              have HE := Lib.hid he
              clear hd he h0 hsk
              go_upto_region 9 with fail
              go_region
              go_wp2_with fail
              go_meet
              case rel =>
                refine ⟨congrArg Value.string ?_, HF8.out.drew⟩
                rw [bytes_extract, bytes_extract]
                have h1 := bytes_append (List.take (d - 0) (List.drop 0 s)) [46]
                have h2 := bytes_append (List.take (d - 0) (List.drop 0 s) ++ [46]) (List.take (s.length - d) (List.drop d s))
                rw [← h1] at h2
                refine h2.trans ?_
                rw [HE.out, List.drop_zero, Nat.sub_zero, List.take_of_length_le (l := List.drop d s) (by simp)]
          case rest =>
            obtain ⟨rfl, hfr⟩ := hcut
            have HFR := Lib.hid hfr
            have c0 : wc.cell? ⟨W.heap.size, 0, none⟩ = some (.bool s1) := HFR.out.cell 0 0 rfl rfl
            have hcapT : ¬ 9223372036854775807 < 1 + T.length := by
              have h5 := pointedZ_len l k
              rw [← HT.out] at h5
              have h6 := HLL.out
              omega
            have hR0 : R = 0 ↔ xl = 0 := HX8.out
            cases s1 with
            | false =>
              have hdec : decTextZ p q k = T := by
                unfold decTextZ
                rw [← HMP.out, ← HA.out, ← HR.out, ← HL.out, ← HT.out, if_neg]
                intro h; have h7 := HNE.out; simp at h7; omega
              have HDEC := Lib.hid hdec
              clear hfr hR0 hdec hsk hkp hcap2
              go_wp2
              go_ret
              exact ⟨by rw [HDEC.out]; rfl, HFR.out.below⟩
            | true =>
              by_cases hx0 : xl = 0
              · have q1 : ¬ (0 : Int) < (xl : Int) := by omega
                have q3 : decide (0 < xl) = false := by simp; omega
                have hdec : decTextZ p q k = T := by
                  unfold decTextZ
                  rw [← HMP.out, ← HA.out, ← HR.out, ← HL.out, ← HT.out, if_neg]
                  intro h; exact h.2 (hR0.2 hx0)
                have HDEC := Lib.hid hdec
                clear hfr hR0 hdec hx0 hsk hkp hcap2
                go_wp2
                go_ret
                exact ⟨by rw [HDEC.out]; rfl, HFR.out.below⟩
              · have q1 : (0 : Int) < (xl : Int) := by omega
                have q3 : decide (0 < xl) = true := by simp; omega
                have hdec : decTextZ p q k = 45 :: T := by
                  unfold decTextZ
                  rw [← HMP.out, ← HA.out, ← HR.out, ← HL.out, ← HT.out, if_pos]
                  exact ⟨by have h7 := HNE.out; simpa using h7.symm, fun h => hx0 (hR0.1 h)⟩
                have HDEC := Lib.hid hdec
                clear hfr hR0 hdec hx0 hsk hkp hcap2
                go_wp2
                go_ret
                refine ⟨?_, HFR.out.below⟩
                rw [HDEC.out]
                exact congrArg (fun x => Ending.returned (Value.string x)) (bytes_append [45] T)
end Go.Proofs.YtbihgllfllkkaaaGreat

/- Facts for NumPrints. -/
set_option linter.unusedVariables false
namespace Go.Proofs.YtbihgllfllkkaaaGreat
open Go.RowKit Go.Proofs

set_option maxHeartbeats 1000000 in
theorem decimal_bad (na : Bool) (ao bo : Option Addr) (la lb ca cb : Nat) (K : Int) (W : World) (h : K < 0 ∨ 64 < K) :
    Calls Tryz.prog 44 #[.agg #[.bool na, .slice ao la ca, .slice bo lb cb], .int .i64 K] W (fun e w' => e = .returned (.tuple #[.string { data := #[] }, .int .i64 2]) ∧ Below W.heap.size W w') := by
  have hb := box_below W 35 #[.bool na, .slice ao la ca, .slice bo lb cb]
  have HB := Lib.hid hb
  clear hb
  by_cases h1 : K < 0
  · clear h
    go_enter Tryz.func44, Tryz.ntmps44
    go_wp2
    go_ret2
    exact ⟨rfl, HB.out⟩
  · have h2 : 64 < K := by omega
    clear h
    go_enter Tryz.func44, Tryz.ntmps44
    go_wp2
    go_ret2
    exact ⟨rfl, HB.out⟩
end Go.Proofs.YtbihgllfllkkaaaGreat
