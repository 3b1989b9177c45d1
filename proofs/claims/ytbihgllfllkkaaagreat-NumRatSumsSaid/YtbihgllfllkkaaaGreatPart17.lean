/- Part 17 of the contracts: RatG, QuoAny. -/
import Derived.Test.YtbihgllfllkkaaaGreatPart16

/- Sub of fractions. -/
set_option linter.unusedVariables false
namespace Go.Proofs.YtbihgllfllkkaaaGreat
open Go.RowKit Go.Proofs

set_option maxRecDepth 4000 in
set_option maxHeartbeats 2000000 in
theorem ratSub_any (na nc : Bool) (ao bo co d_o : Option Addr) (la lb lc ld ca cb cc cd : Nat) (p r : Int) (q s : Nat) (W : World) (hf0 : Q32 W na ao la bo lb p q) (hg0 : Q32 W nc co lc d_o ld r s) (hla : la ≤ 100000) (hlb : lb ≤ 100000) (hlc : lc ≤ 100000) (hld : ld ≤ 100000) :
    Calls Tryz.prog 33 #[.agg #[.bool na, .slice ao la ca, .slice bo lb cb], .agg #[.bool nc, .slice co lc cc, .slice d_o ld cd]] W (OutTQ W (lowP (p * (s : Int) - r * (q : Int)) ((q : Int) * (s : Int))) (lowQ (p * (s : Int) - r * (q : Int)) ((q : Int) * (s : Int)))) := by
  have hf : Fr W (((W.alloc (.cells #[.bool na, .slice ao la ca, .slice bo lb cb] 35)).alloc (.cells #[.bool nc, .slice co lc cc, .slice d_o ld cd] 35)).alloc (.cells #[.bool false, .slice none 0 0, .slice none 0 0] 35)) [(35, #[.bool na, .slice ao la ca, .slice bo lb cb]), (35, #[.bool nc, .slice co lc cc, .slice d_o ld cd]), (35, #[.bool false, .slice none 0 0, .slice none 0 0])] := (((Fr.nil W).alloc rfl _ _).alloc (by simp) _ _).alloc (by simp) _ _
  have he : p * (s : Int) + -r * (q : Int) = p * (s : Int) - r * (q : Int) := by rw [Int.neg_mul, Int.sub_eq_add_neg]
  have HE := Lib.hid he
  clear he
  have HF := Lib.hid hf
  have HF_0 := Lib.hid (hf0.keep hf.below)
  have HG_0 := Lib.hid (hg0.keep hf.below)
  clear hf hf0 hg0
  go_enter Tryz.func33, Tryz.ntmps33
  go_wp2_with fail
  obtain ⟨V, hV⟩ : ∃ V, V = (((W.alloc (.cells #[.bool na, .slice ao la ca, .slice bo lb cb] 35)).alloc (.cells #[.bool nc, .slice co lc cc, .slice d_o ld cd] 35)).alloc (.cells #[.bool false, .slice none 0 0, .slice none 0 0] 35)) := ⟨_, rfl⟩
  rw [← hV] at HF HF_0 HG_0 ⊢
  clear hV
  have qq0 : V.cell? ⟨W.heap.size, 0, none⟩ = some (.bool na) := HF.out.cell 0 0 rfl rfl
  have qq1 : V.cell? ⟨W.heap.size, 1, none⟩ = some (.slice ao la ca) := HF.out.cell 0 1 rfl rfl
  have qq2 : V.cell? ⟨W.heap.size, 2, none⟩ = some (.slice bo lb cb) := HF.out.cell 0 2 rfl rfl
  have qq3 : V.cell? ⟨W.heap.size + 1, 0, none⟩ = some (.bool nc) := HF.out.cell 1 0 rfl rfl
  have qq4 : V.cell? ⟨W.heap.size + 1, 1, none⟩ = some (.slice co lc cc) := HF.out.cell 1 1 rfl rfl
  have qq5 : V.cell? ⟨W.heap.size + 1, 2, none⟩ = some (.slice d_o ld cd) := HF.out.cell 1 2 rfl rfl
  go_region_held3 (fun w' => w'.cell? ⟨W.heap.size, 0, none⟩ = some (.bool na) ∧ w'.cell? ⟨W.heap.size, 1, none⟩ = some (.slice ao la ca) ∧ w'.cell? ⟨W.heap.size, 2, none⟩ = some (.slice bo lb cb) ∧ w'.cell? ⟨W.heap.size + 1, 0, none⟩ = some (.bool nc) ∧ w'.cell? ⟨W.heap.size + 1, 1, none⟩ = some (.slice co lc cc) ∧ w'.cell? ⟨W.heap.size + 1, 2, none⟩ = some (.slice d_o ld cd)) (first | (go_keep; done) | ((try dsimp only); (repeat' apply And.intro) <;> (first | (go_keep; done) | (rw [cell_set3 _ _ _ _ _ _ _ (by omega)]; assumption) | (rw [cell_set2 _ _ _ _ _ _ (by omega)]; assumption))))
    (first | (go_at_call 32; refine ((ratAdd_any _ _ _ _ _ _ _ _ _ _ _ _ _ _ p (-r) q s _ HFs0.out HN0.out (by omega) (by omega) (by omega) (by omega)).mono fun e w h => (show OutTQ _ (lowP (p * (s : Int) - r * (q : Int)) ((q : Int) * (s : Int))) (lowQ (p * (s : Int) - r * (q : Int)) ((q : Int) * (s : Int))) e w from HE.out ▸ h)).mono ?_; rintro e sw1 ⟨n8, o8, l8, c8, u8, m8, d8, e8, P8, Q8, rfl, hl8, hm8, hz, hb, ht⟩; have hbb := hb; have FPs1 := Lib.hid (FPs0.out.later hbb); have HFs1 := Lib.hid (HFs0.out.keep hbb); have HGs1 := Lib.hid (HGs0.out.keep hbb); have HNs1 := Lib.hid (HN0.out.keep hbb); have HZ0 := Lib.hid hz; have HT := Lib.hid ht; clear hz ht; clear hb hbb; have s1c0 : sw1.cell? ⟨W.heap.size, 0, none⟩ = some (.bool na) := FPs1.out.cell 0 0 rfl rfl; have s1c1 : sw1.cell? ⟨W.heap.size, 1, none⟩ = some (.slice ao la ca) := FPs1.out.cell 0 1 rfl rfl; have s1c2 : sw1.cell? ⟨W.heap.size, 2, none⟩ = some (.slice bo lb cb) := FPs1.out.cell 0 2 rfl rfl; have s1c3 : sw1.cell? ⟨W.heap.size + 1, 0, none⟩ = some (.bool nc) := FPs1.out.cell 1 0 rfl rfl; have s1c4 : sw1.cell? ⟨W.heap.size + 1, 1, none⟩ = some (.slice co lc cc) := FPs1.out.cell 1 1 rfl rfl; have s1c5 : sw1.cell? ⟨W.heap.size + 1, 2, none⟩ = some (.slice d_o ld cd) := FPs1.out.cell 1 2 rfl rfl; have sz0 : sw1.cell? ⟨W.heap.size + 2, 0, none⟩ = some (.bool false) := FPs1.out.cell 2 0 rfl rfl; have sz1 : sw1.cell? ⟨W.heap.size + 2, 1, none⟩ = some (.slice none 0 0) := FPs1.out.cell 2 1 rfl rfl; have sz2 : sw1.cell? ⟨W.heap.size + 2, 2, none⟩ = some (.slice none 0 0) := FPs1.out.cell 2 2 rfl rfl; have szf0 : sw1.frozen? ⟨W.heap.size + 2, 0, none⟩ = false := FPs1.out.frozen 2 0 rfl; have szf1 : sw1.frozen? ⟨W.heap.size + 2, 1, none⟩ = false := FPs1.out.frozen 2 1 rfl; have szf2 : sw1.frozen? ⟨W.heap.size + 2, 2, none⟩ = false := FPs1.out.frozen 2 2 rfl) | (go_at_call 25; refine (ratNeg_any _ _ _ _ _ _ _ r s V.drew (HG_0.out.keep (Below.refl _ _).drew) (by omega) (by omega)).mono ?_; rintro e sw0 ⟨n1, o1, l1, c1, u1, m1, d1, rfl, hl1, hm1, hz, hb⟩; have hbb := below_of_drew hb; have FPs0 := Lib.hid (HF.out.later hbb); have HFs0 := Lib.hid (HF_0.out.keep hbb); have HGs0 := Lib.hid (HG_0.out.keep hbb); have HN0 := Lib.hid hz; clear hz; clear hb hbb; have s0c0 : sw0.cell? ⟨W.heap.size, 0, none⟩ = some (.bool na) := FPs0.out.cell 0 0 rfl rfl; have s0c1 : sw0.cell? ⟨W.heap.size, 1, none⟩ = some (.slice ao la ca) := FPs0.out.cell 0 1 rfl rfl; have s0c2 : sw0.cell? ⟨W.heap.size, 2, none⟩ = some (.slice bo lb cb) := FPs0.out.cell 0 2 rfl rfl; have s0c3 : sw0.cell? ⟨W.heap.size + 1, 0, none⟩ = some (.bool nc) := FPs0.out.cell 1 0 rfl rfl; have s0c4 : sw0.cell? ⟨W.heap.size + 1, 1, none⟩ = some (.slice co lc cc) := FPs0.out.cell 1 1 rfl rfl; have s0c5 : sw0.cell? ⟨W.heap.size + 1, 2, none⟩ = some (.slice d_o ld cd) := FPs0.out.cell 1 2 rfl rfl))
  go_wp2
  obtain ⟨e0, e1, e2, hq, hbel⟩ := FPs1.out.finQ (cap := c8) (bc := d8) 2 rfl HZ0.out
  exact bodyPost_ret (v := .tuple #[.agg #[.bool n8, .slice o8 l8 c8, .slice u8 m8 d8], .int .i64 e8]) (by simp [results, Tryz.results33, go_sem, e0, e1, e2]) rfl ⟨n8, o8, l8, c8, u8, m8, d8, e8, P8, Q8, rfl, hl8, hm8, hq, hbel, HT.out⟩
end Go.Proofs.YtbihgllfllkkaaaGreat

/- Facts for the laws of fractions. -/
set_option linter.unusedVariables false
namespace Go.Proofs.YtbihgllfllkkaaaGreat
open Go.RowKit Go.Proofs

def HalfOut2 (W : World) (Y : Int) (e : Ending) (w' : World) : Prop :=
  ∃ na ao la ca bo lb cb s1 o1 l1 c1 s2 o2 l2 c2 P Q ok, e = .returned (.tuple #[.agg #[.bool na, .slice ao la ca, .slice bo lb cb], .agg #[.bool s1, .slice o1 l1 c1, .bool s2, .slice o2 l2 c2], .bool ok]) ∧ la ≤ 512 ∧ lb ≤ 512 ∧ Q32 w' na ao la bo lb P Q ∧
    (ok = true → l1 ≤ 1024 ∧ l2 ≤ 1024 ∧ Z16 w' s1 o1 l1 P ∧ Z16 w' s2 o2 l2 (Q : Int)) ∧ Below W.heap.size W w'

theorem HalfOut.two {X Y : Int} {W w' : World} {e : Ending} (h : HalfOut X Y W e w') : HalfOut2 W Y e w' := by
  obtain ⟨na, ao, la, ca, bo, lb, cb, s1, o1, l1, c1, s2, o2, l2, c2, P, Q, rfl, h1, h2, h3, h4, h5⟩ := h
  exact ⟨na, ao, la, ca, bo, lb, cb, s1, o1, l1, c1, s2, o2, l2, c2, P, Q, _, rfl, h1, h2, h3, fun h => ⟨(h4 (of_decide_eq_true h)).2.2.1, (h4 (of_decide_eq_true h)).2.2.2.1, (h4 (of_decide_eq_true h)).2.2.2.2.1, (h4 (of_decide_eq_true h)).2.2.2.2.2⟩, h5⟩

def OutTQ0 (W : World) (p : Int) (q : Nat) (r : Int) (e : Ending) (w' : World) : Prop :=
  ∃ na ao la ca bo lb cb er P Q, e = .returned (.tuple #[.agg #[.bool na, .slice ao la ca, .slice bo lb cb], .int .i64 er]) ∧ la ≤ 512 ∧ lb ≤ 512 ∧ Q32 w' na ao la bo lb P Q ∧ Below W.heap.size W w' ∧ (r ≠ 0 → ToldQ p q er P Q) ∧ (r = 0 → er = 10 ∧ P = 0 ∧ Q = 1)

theorem ratQuo_all (na nc : Bool) (ao bo co d_o : Option Addr) (la lb lc ld ca cb cc cd : Nat) (p r : Int) (q s : Nat) (W : World) (hf0 : Q32 W na ao la bo lb p q) (hg0 : Q32 W nc co lc d_o ld r s) (hla : la ≤ 100000) (hlb : lb ≤ 100000) (hlc : lc ≤ 100000) (hld : ld ≤ 100000) :
    Calls Tryz.prog 35 #[.agg #[.bool na, .slice ao la ca, .slice bo lb cb], .agg #[.bool nc, .slice co lc cc, .slice d_o ld cd]] W (OutTQ0 W (lowP (p * (s : Int)) ((q : Int) * r)) (lowQ (p * (s : Int)) ((q : Int) * r)) r) := by
  by_cases hr : r = 0
  · subst hr
    refine (ratQuo_zero na nc ao bo co d_o la lb lc ld ca cb cc cd s W hg0).mono fun e w h => ?_
    exact ⟨false, none, 0, 0, none, 0, 0, 10, 0, 1, h.1, by omega, by omega, ⟨Z32.nil _, .inl ⟨rfl, rfl⟩⟩, h.2, fun h => absurd rfl h, fun _ => ⟨rfl, rfl, rfl⟩⟩
  · refine (ratQuo_any na nc ao bo co d_o la lb lc ld ca cb cc cd p r q s W hf0 hg0 hla hlb hlc hld hr).mono fun e w h => ?_
    obtain ⟨n, o, l, c, b, m, d, er, P, Q, rfl, h1, h2, h3, h4, h5⟩ := h
    exact ⟨n, o, l, c, b, m, d, er, P, Q, rfl, h1, h2, h3, h4, fun _ => h5, fun h => absurd h hr⟩
end Go.Proofs.YtbihgllfllkkaaaGreat
