/- Part 16 of the contracts: RatG, QuoAny, OrderF, DecF. -/
import Derived.Test.YtcgnmihabkgecaaGreatPart15

/- Sub of fractions. -/
set_option linter.unusedVariables false
namespace Go.Proofs.YtcgnmihabkgecaaGreat
open Go.RowKit Go.Proofs

set_option maxRecDepth 4000 in
set_option maxHeartbeats 2000000 in
theorem ratSub_any (na nc : Bool) (ao bo co d_o : Option Addr) (la lb lc ld ca cb cc cd : Nat) (p r : Int) (q s : Nat) (W : World) (hf0 : Q32 W na ao la bo lb p q) (hg0 : Q32 W nc co lc d_o ld r s) (hla : la ≤ 100000) (hlb : lb ≤ 100000) (hlc : lc ≤ 100000) (hld : ld ≤ 100000) :
    Calls Tryz.prog 17 #[.agg #[.bool na, .slice ao la ca, .slice bo lb cb], .agg #[.bool nc, .slice co lc cc, .slice d_o ld cd]] W (OutTQ W (lowP (p * (s : Int) - r * (q : Int)) ((q : Int) * (s : Int))) (lowQ (p * (s : Int) - r * (q : Int)) ((q : Int) * (s : Int)))) := by
  have hf : Fr W (((W.alloc (.cells #[.bool na, .slice ao la ca, .slice bo lb cb] 27)).alloc (.cells #[.bool nc, .slice co lc cc, .slice d_o ld cd] 27)).alloc (.cells #[.bool false, .slice none 0 0, .slice none 0 0] 27)) [(27, #[.bool na, .slice ao la ca, .slice bo lb cb]), (27, #[.bool nc, .slice co lc cc, .slice d_o ld cd]), (27, #[.bool false, .slice none 0 0, .slice none 0 0])] := (((Fr.nil W).alloc rfl _ _).alloc (by simp) _ _).alloc (by simp) _ _
  have he : p * (s : Int) + -r * (q : Int) = p * (s : Int) - r * (q : Int) := by rw [Int.neg_mul, Int.sub_eq_add_neg]
  have HE := Lib.hid he
  clear he
  have HF := Lib.hid hf
  have HF_0 := Lib.hid (hf0.keep hf.below)
  have HG_0 := Lib.hid (hg0.keep hf.below)
  clear hf hf0 hg0
  go_enter Tryz.func17, Tryz.ntmps17
  go_wp2_with fail
  obtain ⟨V, hV⟩ : ∃ V, V = (((W.alloc (.cells #[.bool na, .slice ao la ca, .slice bo lb cb] 27)).alloc (.cells #[.bool nc, .slice co lc cc, .slice d_o ld cd] 27)).alloc (.cells #[.bool false, .slice none 0 0, .slice none 0 0] 27)) := ⟨_, rfl⟩
  rw [← hV] at HF HF_0 HG_0 ⊢
  clear hV
  have qq0 : V.cell? ⟨W.heap.size, 0, none⟩ = some (.bool na) := HF.out.cell 0 0 rfl rfl
  have qq1 : V.cell? ⟨W.heap.size, 1, none⟩ = some (.slice ao la ca) := HF.out.cell 0 1 rfl rfl
  have qq2 : V.cell? ⟨W.heap.size, 2, none⟩ = some (.slice bo lb cb) := HF.out.cell 0 2 rfl rfl
  have qq3 : V.cell? ⟨W.heap.size + 1, 0, none⟩ = some (.bool nc) := HF.out.cell 1 0 rfl rfl
  have qq4 : V.cell? ⟨W.heap.size + 1, 1, none⟩ = some (.slice co lc cc) := HF.out.cell 1 1 rfl rfl
  have qq5 : V.cell? ⟨W.heap.size + 1, 2, none⟩ = some (.slice d_o ld cd) := HF.out.cell 1 2 rfl rfl
  go_region_held3 (fun w' => w'.cell? ⟨W.heap.size, 0, none⟩ = some (.bool na) ∧ w'.cell? ⟨W.heap.size, 1, none⟩ = some (.slice ao la ca) ∧ w'.cell? ⟨W.heap.size, 2, none⟩ = some (.slice bo lb cb) ∧ w'.cell? ⟨W.heap.size + 1, 0, none⟩ = some (.bool nc) ∧ w'.cell? ⟨W.heap.size + 1, 1, none⟩ = some (.slice co lc cc) ∧ w'.cell? ⟨W.heap.size + 1, 2, none⟩ = some (.slice d_o ld cd)) (first | (go_keep; done) | ((try dsimp only); (repeat' apply And.intro) <;> (first | (go_keep; done) | (rw [cell_set3 _ _ _ _ _ _ _ (by omega)]; assumption) | (rw [cell_set2 _ _ _ _ _ _ (by omega)]; assumption))))
    (first | (go_at_call 15; refine ((ratAdd_any _ _ _ _ _ _ _ _ _ _ _ _ _ _ p (-r) q s _ HFs0.out HN0.out (by omega) (by omega) (by omega) (by omega)).mono fun e w h => (show OutTQ _ (lowP (p * (s : Int) - r * (q : Int)) ((q : Int) * (s : Int))) (lowQ (p * (s : Int) - r * (q : Int)) ((q : Int) * (s : Int))) e w from HE.out ▸ h)).mono ?_; rintro e sw1 ⟨n8, o8, l8, c8, u8, m8, d8, e8, P8, Q8, rfl, hl8, hm8, hz, hb, ht⟩; have hbb := hb; have FPs1 := Lib.hid (FPs0.out.later hbb); have HFs1 := Lib.hid (HFs0.out.keep hbb); have HGs1 := Lib.hid (HGs0.out.keep hbb); have HNs1 := Lib.hid (HN0.out.keep hbb); have HZ0 := Lib.hid hz; have HT := Lib.hid ht; clear hz ht; clear hb hbb; have s1c0 : sw1.cell? ⟨W.heap.size, 0, none⟩ = some (.bool na) := FPs1.out.cell 0 0 rfl rfl; have s1c1 : sw1.cell? ⟨W.heap.size, 1, none⟩ = some (.slice ao la ca) := FPs1.out.cell 0 1 rfl rfl; have s1c2 : sw1.cell? ⟨W.heap.size, 2, none⟩ = some (.slice bo lb cb) := FPs1.out.cell 0 2 rfl rfl; have s1c3 : sw1.cell? ⟨W.heap.size + 1, 0, none⟩ = some (.bool nc) := FPs1.out.cell 1 0 rfl rfl; have s1c4 : sw1.cell? ⟨W.heap.size + 1, 1, none⟩ = some (.slice co lc cc) := FPs1.out.cell 1 1 rfl rfl; have s1c5 : sw1.cell? ⟨W.heap.size + 1, 2, none⟩ = some (.slice d_o ld cd) := FPs1.out.cell 1 2 rfl rfl; have sz0 : sw1.cell? ⟨W.heap.size + 2, 0, none⟩ = some (.bool false) := FPs1.out.cell 2 0 rfl rfl; have sz1 : sw1.cell? ⟨W.heap.size + 2, 1, none⟩ = some (.slice none 0 0) := FPs1.out.cell 2 1 rfl rfl; have sz2 : sw1.cell? ⟨W.heap.size + 2, 2, none⟩ = some (.slice none 0 0) := FPs1.out.cell 2 2 rfl rfl; have szf0 : sw1.frozen? ⟨W.heap.size + 2, 0, none⟩ = false := FPs1.out.frozen 2 0 rfl; have szf1 : sw1.frozen? ⟨W.heap.size + 2, 1, none⟩ = false := FPs1.out.frozen 2 1 rfl; have szf2 : sw1.frozen? ⟨W.heap.size + 2, 2, none⟩ = false := FPs1.out.frozen 2 2 rfl) | (go_at_call 24; refine (ratNeg_any _ _ _ _ _ _ _ r s V.drew (HG_0.out.keep (Below.refl _ _).drew) (by omega) (by omega)).mono ?_; rintro e sw0 ⟨n1, o1, l1, c1, u1, m1, d1, rfl, hl1, hm1, hz, hb⟩; have hbb := below_of_drew hb; have FPs0 := Lib.hid (HF.out.later hbb); have HFs0 := Lib.hid (HF_0.out.keep hbb); have HGs0 := Lib.hid (HG_0.out.keep hbb); have HN0 := Lib.hid hz; clear hz; clear hb hbb; have s0c0 : sw0.cell? ⟨W.heap.size, 0, none⟩ = some (.bool na) := FPs0.out.cell 0 0 rfl rfl; have s0c1 : sw0.cell? ⟨W.heap.size, 1, none⟩ = some (.slice ao la ca) := FPs0.out.cell 0 1 rfl rfl; have s0c2 : sw0.cell? ⟨W.heap.size, 2, none⟩ = some (.slice bo lb cb) := FPs0.out.cell 0 2 rfl rfl; have s0c3 : sw0.cell? ⟨W.heap.size + 1, 0, none⟩ = some (.bool nc) := FPs0.out.cell 1 0 rfl rfl; have s0c4 : sw0.cell? ⟨W.heap.size + 1, 1, none⟩ = some (.slice co lc cc) := FPs0.out.cell 1 1 rfl rfl; have s0c5 : sw0.cell? ⟨W.heap.size + 1, 2, none⟩ = some (.slice d_o ld cd) := FPs0.out.cell 1 2 rfl rfl))
  go_wp2
  obtain ⟨e0, e1, e2, hq, hbel⟩ := FPs1.out.finQ (cap := c8) (bc := d8) 2 rfl HZ0.out
  exact bodyPost_ret (v := .tuple #[.agg #[.bool n8, .slice o8 l8 c8, .slice u8 m8 d8], .int .i64 e8]) (by simp [results, Tryz.results17, go_sem, e0, e1, e2]) rfl ⟨n8, o8, l8, c8, u8, m8, d8, e8, P8, Q8, rfl, hl8, hm8, hq, hbel, HT.out⟩
end Go.Proofs.YtcgnmihabkgecaaGreat

/- Facts for the laws of fractions. -/
set_option linter.unusedVariables false
namespace Go.Proofs.YtcgnmihabkgecaaGreat
open Go.RowKit Go.Proofs

def HalfOut2 (W : World) (Y : Int) (e : Ending) (w' : World) : Prop :=
  ∃ na ao la ca bo lb cb s1 o1 l1 c1 s2 o2 l2 c2 P Q ok, e = .returned (.tuple #[.agg #[.bool na, .slice ao la ca, .slice bo lb cb], .agg #[.bool s1, .slice o1 l1 c1, .bool s2, .slice o2 l2 c2], .bool ok]) ∧ la ≤ 512 ∧ lb ≤ 512 ∧ Q32 w' na ao la bo lb P Q ∧
    (ok = true → l1 ≤ 1024 ∧ l2 ≤ 1024 ∧ Z16 w' s1 o1 l1 P ∧ Z16 w' s2 o2 l2 (Q : Int)) ∧ Below W.heap.size W w'

theorem HalfOut.two {X Y : Int} {W w' : World} {e : Ending} (h : HalfOut X Y W e w') : HalfOut2 W Y e w' := by
  obtain ⟨na, ao, la, ca, bo, lb, cb, s1, o1, l1, c1, s2, o2, l2, c2, P, Q, rfl, h1, h2, h3, h4, h5⟩ := h
  exact ⟨na, ao, la, ca, bo, lb, cb, s1, o1, l1, c1, s2, o2, l2, c2, P, Q, _, rfl, h1, h2, h3, fun h => ⟨(h4 (of_decide_eq_true h)).2.2.1, (h4 (of_decide_eq_true h)).2.2.2.1, (h4 (of_decide_eq_true h)).2.2.2.2.1, (h4 (of_decide_eq_true h)).2.2.2.2.2⟩, h5⟩

def OutTQ0 (W : World) (p : Int) (q : Nat) (r : Int) (e : Ending) (w' : World) : Prop :=
  ∃ na ao la ca bo lb cb er P Q, e = .returned (.tuple #[.agg #[.bool na, .slice ao la ca, .slice bo lb cb], .int .i64 er]) ∧ la ≤ 512 ∧ lb ≤ 512 ∧ Q32 w' na ao la bo lb P Q ∧ Below W.heap.size W w' ∧ (r ≠ 0 → ToldQ p q er P Q) ∧ (r = 0 → er = 10 ∧ P = 0 ∧ Q = 1)

theorem ratQuo_all (na nc : Bool) (ao bo co d_o : Option Addr) (la lb lc ld ca cb cc cd : Nat) (p r : Int) (q s : Nat) (W : World) (hf0 : Q32 W na ao la bo lb p q) (hg0 : Q32 W nc co lc d_o ld r s) (hla : la ≤ 100000) (hlb : lb ≤ 100000) (hlc : lc ≤ 100000) (hld : ld ≤ 100000) :
    Calls Tryz.prog 20 #[.agg #[.bool na, .slice ao la ca, .slice bo lb cb], .agg #[.bool nc, .slice co lc cc, .slice d_o ld cd]] W (OutTQ0 W (lowP (p * (s : Int)) ((q : Int) * r)) (lowQ (p * (s : Int)) ((q : Int) * r)) r) := by
  by_cases hr : r = 0
  · subst hr
    refine (ratQuo_zero na nc ao bo co d_o la lb lc ld ca cb cc cd s W hg0).mono fun e w h => ?_
    exact ⟨false, none, 0, 0, none, 0, 0, 10, 0, 1, h.1, by omega, by omega, ⟨Z32.nil _, .inl ⟨rfl, rfl⟩⟩, h.2, fun h => absurd rfl h, fun _ => ⟨rfl, rfl, rfl⟩⟩
  · refine (ratQuo_any na nc ao bo co d_o la lb lc ld ca cb cc cd p r q s W hf0 hg0 hla hlb hlc hld hr).mono fun e w h => ?_
    obtain ⟨n, o, l, c, b, m, d, er, P, Q, rfl, h1, h2, h3, h4, h5⟩ := h
    exact ⟨n, o, l, c, b, m, d, er, P, Q, rfl, h1, h2, h3, h4, fun _ => h5, fun h => absurd h hr⟩
end Go.Proofs.YtcgnmihabkgecaaGreat

/- Facts for NumOrder: fractions in lowest terms. No function of the program is walked here. -/
set_option linter.unusedVariables false
namespace Go.Proofs.YtcgnmihabkgecaaGreat
open Go.RowKit Go.Proofs

theorem low_back {x y : Int} (hy : 0 < y) : ∃ g : Nat, 0 < g ∧ lowP x y * (g : Int) = x ∧ (lowQ x y : Int) * (g : Int) = y := by
  have hy0 : 0 < y.natAbs := by omega
  have h1 := Nat.div_mul_cancel (Nat.gcd_dvd_left x.natAbs y.natAbs)
  have h2 := Nat.div_mul_cancel (Nat.gcd_dvd_right x.natAbs y.natAbs)
  refine ⟨Nat.gcd x.natAbs y.natAbs, Nat.gcd_pos_of_pos_right _ hy0, ?_, ?_⟩
  · unfold lowP
    rw [decide_eq_false (show ¬ y < 0 by omega)]
    by_cases hx : x < 0
    · rw [decide_eq_true hx]
      show -((x.natAbs / Nat.gcd x.natAbs y.natAbs : Nat) : Int) * _ = x
      rw [Int.neg_mul, ← Int.natCast_mul, h1]; omega
    · rw [decide_eq_false hx]
      show ((x.natAbs / Nat.gcd x.natAbs y.natAbs : Nat) : Int) * _ = x
      rw [← Int.natCast_mul, h1]; omega
  · unfold lowQ
    rw [← Int.natCast_mul, h2]; omega

theorem cross_low {x y x' y' : Int} (hy : 0 < y) (hy' : 0 < y') : (lowP x y * (lowQ x' y' : Int) - lowP x' y' * (lowQ x y : Int)).sign = (x * y' - x' * y).sign := by
  obtain ⟨g, hg, h1, h2⟩ := low_back (x := x) hy
  obtain ⟨k, hk, h3, h4⟩ := low_back (x := x') hy'
  generalize lowP x y = a at *
  generalize (lowQ x y : Int) = b at *
  generalize lowP x' y' = c at *
  generalize (lowQ x' y' : Int) = d at *
  have e : x * y' - x' * y = (a * d - c * b) * ((g : Int) * (k : Int)) := by
    rw [← h1, ← h2, ← h3, ← h4]; grind
  rw [e, Int.sign_mul, Int.sign_eq_one_of_pos (Int.mul_pos (by omega) (by omega)), Int.mul_one]

theorem sign_low {x y : Int} (hy : 0 < y) : (lowP x y).sign = x.sign := by
  obtain ⟨g, hg, h1, _⟩ := low_back (x := x) hy
  conv => rhs; rw [← h1, Int.sign_mul, Int.sign_eq_one_of_pos (show (0 : Int) < (g : Int) by omega), Int.mul_one]

theorem low_coprime {x y : Int} (hy : y ≠ 0) : Nat.gcd (lowP x y).natAbs (lowQ x y) = 1 := by
  unfold lowP lowQ
  rw [sgn_natAbs]
  exact Nat.gcd_div_gcd_div_gcd_of_pos_right (by omega)

theorem low_unique {p r : Int} {q s : Nat} (hq : 0 < q) (hs : 0 < s) (h1 : Nat.gcd p.natAbs q = 1) (h2 : Nat.gcd r.natAbs s = 1) (h : p * (s : Int) - r * (q : Int) = 0) : p = r ∧ q = s := by
  have e : p * (s : Int) = r * (q : Int) := by omega
  have en : p.natAbs * s = r.natAbs * q := by
    have := congrArg Int.natAbs e
    rwa [Int.natAbs_mul, Int.natAbs_mul, Int.natAbs_natCast, Int.natAbs_natCast] at this
  have d1 : q ∣ s := by
    have : q ∣ p.natAbs * s := ⟨r.natAbs, by rw [en, Nat.mul_comm]⟩
    exact Nat.Coprime.dvd_of_dvd_mul_left (show Nat.Coprime q p.natAbs by unfold Nat.Coprime; rw [Nat.gcd_comm]; exact h1) this
  have d2 : s ∣ q := by
    have : s ∣ r.natAbs * q := ⟨p.natAbs, by rw [← en, Nat.mul_comm]⟩
    exact Nat.Coprime.dvd_of_dvd_mul_left (show Nat.Coprime s r.natAbs by unfold Nat.Coprime; rw [Nat.gcd_comm]; exact h2) this
  have hqs : q = s := Nat.dvd_antisymm d1 d2
  subst hqs
  exact ⟨Int.eq_of_mul_eq_mul_right (by omega) e, rfl⟩

theorem split47 {a b c d : List UInt8} (ha : (47 : UInt8) ∉ a) (hc : (47 : UInt8) ∉ c) (h : a ++ 47 :: b = c ++ 47 :: d) : a = c ∧ b = d := by
  induction a generalizing c with
  | nil =>
    cases c with
    | nil => simpa using h
    | cons x c => simp at h; exact absurd h.1 (fun e => hc (by rw [← e]; simp))
  | cons x a ih =>
    cases c with
    | nil => simp at h; exact absurd h.1 (fun e => ha (by rw [e]; simp))
    | cons y c =>
      simp at h
      have := ih (c := c) (fun m => ha (List.mem_cons_of_mem _ m)) (fun m => hc (List.mem_cons_of_mem _ m)) h.2
      exact ⟨by rw [h.1, this.1], this.2⟩

theorem numeralZ_inj {x y : Int} (h : numeralZ x = numeralZ y) : x = y := by
  have := congrArg numZ h
  rwa [numZ_numeralZ, numZ_numeralZ] at this

theorem numeral_no47 (n : Nat) : (47 : UInt8) ∉ numeral n := by
  intro hm
  by_cases h : n = 0
  · rw [h] at hm; exact absurd hm (by decide)
  · have h1 := numeral_pos h
    unfold isPos hasDigs at h1
    simp only [Bool.and_eq_true] at h1
    exact absurd (List.all_eq_true.1 h1.1.1 47 hm) (by decide)

theorem numeralZ_no47 (z : Int) : (47 : UInt8) ∉ numeralZ z := by
  unfold numeralZ
  by_cases h : z < 0
  · rw [if_pos h]
    intro hm
    rcases List.mem_cons.1 hm with h1 | h1
    · exact absurd h1 (by decide)
    · exact numeral_no47 _ h1
  · rw [if_neg h]; exact numeral_no47 _

theorem textQ_inj {p r : Int} {q s : Nat} (h : textQ p q = textQ r s) : p = r ∧ q = s := by
  unfold textQ at h
  have hmem : ∀ (z : Int) (n : Nat), (47 : UInt8) ∈ numeralZ z ++ [47] ++ numeral n := fun z n => by simp
  by_cases h1 : q = 1
  · rw [if_pos h1] at h
    by_cases h2 : s = 1
    · rw [if_pos h2] at h; exact ⟨numeralZ_inj h, by omega⟩
    · rw [if_neg h2] at h; exact absurd (h ▸ hmem r s) (numeralZ_no47 p)
  · rw [if_neg h1] at h
    by_cases h2 : s = 1
    · rw [if_pos h2] at h; exact absurd (h ▸ hmem p q) (numeralZ_no47 r)
    · rw [if_neg h2, List.append_assoc, List.append_assoc] at h
      have h3 := split47 (numeralZ_no47 p) (numeralZ_no47 r) h
      exact ⟨numeralZ_inj h3.1, by rw [← dec_numeral q, ← dec_numeral s, (show numeral q = numeral s from h3.2)]⟩

/-- the texts of two fractions in lowest terms are the same if and only if they are equal -/
theorem text_cross {p r : Int} {q s : Nat} (hq : 0 < q) (hs : 0 < s) (h1 : Nat.gcd p.natAbs q = 1) (h2 : Nat.gcd r.natAbs s = 1) :
    ((p * (s : Int) - r * (q : Int)).sign == 0) = decide (textQ p q = textQ r s) := by
  by_cases h : textQ p q = textQ r s
  · obtain ⟨rfl, rfl⟩ := textQ_inj h
    rw [decide_eq_true rfl, Int.sub_self]; rfl
  · rw [decide_eq_false h, beq_eq_false_iff_ne]
    intro h0
    have := low_unique hq hs h1 h2 (Int.sign_eq_zero_iff_zero.1 h0)
    exact h (by rw [this.1, this.2])

/-- an order: what holds of three fractions -/
theorem cross_trans {p r m : Int} {q s n : Nat} (hq : 0 < q) (hs : 0 < s) (hn : 0 < n) (h1 : (p * (s : Int) - r * (q : Int)).sign ≤ 0) (h2 : (r * (n : Int) - m * (s : Int)).sign ≤ 0) : (p * (n : Int) - m * (q : Int)).sign ≤ 0 := by
  have e1 : p * (s : Int) - r * (q : Int) ≤ 0 := Int.not_lt.1 fun h => by have := Int.sign_eq_one_of_pos h; omega
  have e2 : r * (n : Int) - m * (s : Int) ≤ 0 := Int.not_lt.1 fun h => by have := Int.sign_eq_one_of_pos h; omega
  have f1 : (p * (s : Int) - r * (q : Int)) * (n : Int) ≤ 0 := Int.mul_nonpos_of_nonpos_of_nonneg e1 (by omega)
  have f2 : (r * (n : Int) - m * (s : Int)) * (q : Int) ≤ 0 := Int.mul_nonpos_of_nonpos_of_nonneg e2 (by omega)
  have f3 : (p * (n : Int) - m * (q : Int)) * (s : Int) = (p * (s : Int) - r * (q : Int)) * (n : Int) + (r * (n : Int) - m * (s : Int)) * (q : Int) := by grind
  apply Int.not_lt.1
  intro h
  have h0 : 0 < p * (n : Int) - m * (q : Int) := by
    rcases Int.lt_trichotomy (p * (n : Int) - m * (q : Int)) 0 with h4 | h4 | h4
    · have := Int.sign_eq_neg_one_of_neg h4; omega
    · rw [h4] at h; exact absurd h (by decide)
    · exact h4
  have := Int.mul_pos h0 (show (0 : Int) < (s : Int) by omega)
  omega

theorem cross_anti (p r : Int) (q s : Nat) : (r * (q : Int) - p * (s : Int)).sign = -(p * (s : Int) - r * (q : Int)).sign := by
  rw [← Int.sign_neg]; congr 1; omega
theorem cross_neg (p r : Int) (q s : Nat) : (-p * (s : Int) - -r * (q : Int)).sign = -(p * (s : Int) - r * (q : Int)).sign := by
  rw [← Int.sign_neg]; congr 1; rw [Int.neg_mul, Int.neg_mul]; omega

theorem cross_add {p r m : Int} {q s n : Nat} (hq : 0 < q) (hs : 0 < s) (hn : 0 < n) :
    (lowP (p * (n : Int) + m * (q : Int)) ((q : Int) * (n : Int)) * (lowQ (r * (n : Int) + m * (s : Int)) ((s : Int) * (n : Int)) : Int) - lowP (r * (n : Int) + m * (s : Int)) ((s : Int) * (n : Int)) * (lowQ (p * (n : Int) + m * (q : Int)) ((q : Int) * (n : Int)) : Int)).sign
      = (p * (s : Int) - r * (q : Int)).sign := by
  rw [cross_low (Int.mul_pos (by omega) (by omega)) (Int.mul_pos (by omega) (by omega))]
  have e : (p * (n : Int) + m * (q : Int)) * ((s : Int) * (n : Int)) - (r * (n : Int) + m * (s : Int)) * ((q : Int) * (n : Int)) = (p * (s : Int) - r * (q : Int)) * ((n : Int) * (n : Int)) := by grind
  rw [e, Int.sign_mul, Int.sign_eq_one_of_pos (Int.mul_pos (show (0 : Int) < (n : Int) by omega) (by omega)), Int.mul_one]

theorem cross_mul {p r m : Int} {q s n : Nat} (hq : 0 < q) (hs : 0 < s) (hn : 0 < n) :
    (lowP (p * m) ((q : Int) * (n : Int)) * (lowQ (r * m) ((s : Int) * (n : Int)) : Int) - lowP (r * m) ((s : Int) * (n : Int)) * (lowQ (p * m) ((q : Int) * (n : Int)) : Int)).sign = (p * (s : Int) - r * (q : Int)).sign * m.sign := by
  rw [cross_low (Int.mul_pos (by omega) (by omega)) (Int.mul_pos (by omega) (by omega))]
  have e : (p * m) * ((s : Int) * (n : Int)) - (r * m) * ((q : Int) * (n : Int)) = (p * (s : Int) - r * (q : Int)) * m * (n : Int) := by grind
  rw [e, Int.sign_mul, Int.sign_mul, Int.sign_eq_one_of_pos (show (0 : Int) < (n : Int) by omega), Int.mul_one]

/-- half, with what is known of small numbers -/
def HalfOut3 (k : Nat) (W : World) (e : Ending) (w' : World) : Prop :=
  ∃ na ao la ca bo lb cb s1 o1 l1 c1 s2 o2 l2 c2 P Q ok, e = .returned (.tuple #[.agg #[.bool na, .slice ao la ca, .slice bo lb cb], .agg #[.bool s1, .slice o1 l1 c1, .bool s2, .slice o2 l2 c2], .bool ok]) ∧ la ≤ 512 ∧ lb ≤ 512 ∧ Q32 w' na ao la bo lb P Q ∧
    (ok = true → Bl k P ∧ Bl k (Q : Int) ∧ Nat.gcd P.natAbs Q = 1) ∧ Below W.heap.size W w'

theorem HalfOut.small {X Y : Int} {W w' : World} {e : Ending} {k : Nat} (h : HalfOut X Y W e w') (hX : Bl k X) (hY : Bl k Y) : HalfOut3 k W e w' := by
  obtain ⟨na, ao, la, ca, bo, lb, cb, s1, o1, l1, c1, s2, o2, l2, c2, P, Q, rfl, h1, h2, h3, h4, h5⟩ := h
  refine ⟨na, ao, la, ca, bo, lb, cb, s1, o1, l1, c1, s2, o2, l2, c2, P, Q, _, rfl, h1, h2, h3, fun h => ?_, h5⟩
  have hy := of_decide_eq_true h
  obtain ⟨rfl, rfl, _⟩ := h4 hy
  refine ⟨?_, ?_, low_coprime hy⟩
  · unfold Bl at *
    rw [blen_le] at *
    unfold lowP; rw [sgn_natAbs]
    exact Nat.lt_of_le_of_lt (Nat.div_le_self _ _) hX
  · unfold Bl at *
    rw [Int.natAbs_natCast, blen_le]
    rw [blen_le] at hY
    exact Nat.lt_of_le_of_lt (Nat.div_le_self _ _) hY

def OutQS (W : World) (p : Int) (q : Nat) (e : Ending) (w' : World) : Prop :=
  ∃ na ao la ca bo lb cb, e = .returned (.tuple #[.agg #[.bool na, .slice ao la ca, .slice bo lb cb], .int .i64 0]) ∧ la ≤ 512 ∧ lb ≤ 512 ∧ Q32 w' na ao la bo lb p q ∧ Below W.heap.size W w'

theorem OutTQ.fine {W w' : World} {x y : Int} {e : Ending} (h : OutTQ W (lowP x y) (lowQ x y) e w') (hx : Fits x) (hy : Fits y) : OutQS W (lowP x y) (lowQ x y) e w' := by
  obtain ⟨na, ao, la, ca, bo, lb, cb, er, P, Q, rfl, h1, h2, h3, h4, h5⟩ := h
  obtain ⟨_, rfl, rfl, rfl⟩ := h5.resolve_right fun k => k.1 ⟨fits_lowP hx, fits_lowQ hy⟩
  exact ⟨na, ao, la, ca, bo, lb, cb, rfl, h1, h2, h3, h4⟩

theorem sign_range (x : Int) : -1 ≤ x.sign ∧ x.sign ≤ 1 := by
  rcases Int.lt_trichotomy x 0 with h | h | h
  · have := Int.sign_eq_neg_one_of_neg h; omega
  · rw [h]; decide
  · have := Int.sign_eq_one_of_pos h; omega
end Go.Proofs.YtcgnmihabkgecaaGreat

/- Facts of the texts of decimals. -/
set_option linter.unusedVariables false
namespace Go.Proofs.YtcgnmihabkgecaaGreat
open Go.RowKit Go.Proofs

/-- the text of a decimal without its sign: a, or a . b -/
def dotText (a : List UInt8) : Option (List UInt8) → List UInt8
  | none => a
  | some b => a ++ 46 :: b
def partOf : Option (List UInt8) → List UInt8
  | none => []
  | some b => b
def okPart : Option (List UInt8) → Bool
  | none => true
  | some t => hasDigs t && decide (t.length ≤ 64)
def okDec (a : List UInt8) (b : Option (List UInt8)) : Bool := (decide (a = [48]) || isPos a) && okPart b
def decN (a : List UInt8) (b : Option (List UInt8)) : Nat := dec (a ++ partOf b)
def decD (b : Option (List UInt8)) : Int := ((10 ^ (partOf b).length : Nat) : Int)

def DecSays (neg : Bool) (a : List UInt8) (b : Option (List UInt8)) (er p : Int) (q : Nat) : Prop :=
  ((okDec a b = false ∨ (neg = true ∧ decN a b = 0)) ∧ er = 4 ∧ p = 0 ∧ q = 1) ∨
  (okDec a b = true ∧ ¬ (neg = true ∧ decN a b = 0) ∧ ToldQ (lowP (sgn neg (decN a b)) (decD b)) (lowQ (sgn neg (decN a b)) (decD b)) er p q)

theorem ToldQ.same {p : Int} {q : Nat} {er er' P P' : Int} {Q Q' : Nat} (h : ToldQ p q er P Q) (h' : ToldQ p q er' P' Q') : er = er' ∧ P = P' ∧ Q = Q' := by
  rcases h with ⟨h1, h2, h3, h4⟩ | ⟨h1, h2, h3, h4⟩ <;> rcases h' with ⟨k1, k2, k3, k4⟩ | ⟨k1, k2, k3, k4⟩ <;>
  first
  | exact absurd k1 h1
  | exact absurd h1 k1
  | exact ⟨h2.trans k2.symm, h3.trans k3.symm, h4.trans k4.symm⟩

theorem DecSays.same {neg : Bool} {a : List UInt8} {b : Option (List UInt8)} {er er' p p' : Int} {q q' : Nat} (h : DecSays neg a b er p q) (h' : DecSays neg a b er' p' q') : er = er' ∧ p = p' ∧ q = q' := by
  rcases h with ⟨h1, h2, h3, h4⟩ | ⟨h1, h5, h2⟩ <;> rcases h' with ⟨k1, k2, k3, k4⟩ | ⟨k1, k5, k2⟩
  · exact ⟨h2.trans k2.symm, h3.trans k3.symm, h4.trans k4.symm⟩
  · rcases h1 with h1 | h1
    · exact absurd (h1.symm.trans k1) (by decide)
    · exact absurd h1 k5
  · rcases k1 with k1 | k1
    · exact absurd (k1.symm.trans h1) (by decide)
    · exact absurd k1 h5
  · exact h2.same k2

theorem DecSays.bad {neg : Bool} {a : List UInt8} {b : Option (List UInt8)} {er p : Int} {q : Nat} (h : DecSays neg a b er p q) (he : er ≠ 0) : p = 0 ∧ q = 1 := by
  rcases h with ⟨_, _, h3, h4⟩ | ⟨_, _, ⟨_, h1, _⟩ | ⟨_, _, h3, h4⟩⟩
  · exact ⟨h3, h4⟩
  · exact absurd h1 he
  · exact ⟨h3, h4⟩
theorem DecSays.fits {neg : Bool} {a : List UInt8} {b : Option (List UInt8)} {p : Int} {q : Nat} (h : DecSays neg a b 0 p q) : FitsQ p q := by
  rcases h with ⟨_, h1, _⟩ | ⟨_, _, ⟨h1, _, h3, h4⟩ | ⟨_, h1, _⟩⟩
  · exact absurd h1 (by decide)
  · rw [h3, h4]; exact h1
  · exact absurd h1 (by decide)

theorem decD_pos (b : Option (List UInt8)) : 0 < decD b := by
  unfold decD
  have : 0 < 10 ^ (partOf b).length := Nat.pow_pos (by decide)
  omega
theorem decD_ne (b : Option (List UInt8)) : decD b ≠ 0 := Int.ne_of_gt (decD_pos b)

theorem dec_pos_len {a : List UInt8} (h : isPos a = true) : 10 ^ (a.length - 1) ≤ dec a := by
  obtain ⟨x, s, rfl, h1, h2, h3⟩ := isPos_parts h
  rw [dec_cons]
  have h5 : 1 * 10 ^ s.length ≤ (x.toNat - 48) * 10 ^ s.length := Nat.mul_le_mul_right _ (by omega)
  have h6 : (x :: s).length - 1 = s.length := by simp
  rw [h6]
  omega

/-- a decimal with so long a whole part does not fit -/
theorem long_dec (neg : Bool) {a : List UInt8} {b : Option (List UInt8)} (h : okDec a b = true) (hl : 4933 < a.length) :
    ¬ (neg = true ∧ decN a b = 0) ∧ ¬ FitsQ (lowP (sgn neg (decN a b)) (decD b)) (lowQ (sgn neg (decN a b)) (decD b)) := by
  unfold okDec at h
  rw [Bool.and_eq_true, Bool.or_eq_true] at h
  have hp : isPos a = true := by
    rcases h.1 with h1 | h1
    · have : a = [48] := of_decide_eq_true h1
      subst this
      exact absurd hl (by decide)
    · exact h1
  have h1 := dec_pos_len hp
  obtain ⟨k, hk⟩ : ∃ k, k = (partOf b).length := ⟨_, rfl⟩
  obtain ⟨d, hd⟩ : ∃ d, d = decN a b := ⟨_, rfl⟩
  obtain ⟨m, hm⟩ : ∃ m, m = a.length - 1 := ⟨_, rfl⟩
  have hD : decD b = ((10 ^ k : Nat) : Int) := by unfold decD; rw [hk]
  have hdk : 10 ^ m * 10 ^ k ≤ d := by
    rw [hd]; unfold decN
    rw [dec_append, hk, hm]
    exact Nat.le_trans (Nat.mul_le_mul_right _ h1) (Nat.le_add_right _ _)
  rw [← hd, hD]
  have hk0 : 0 < 10 ^ k := Nat.pow_pos (by decide)
  have hm0 : 0 < 10 ^ m := Nat.pow_pos (by decide)
  have hbig := big_pow 4933 m rfl (by omega)
  generalize 10 ^ k = y at *
  generalize 10 ^ m = x at *
  have hd0 : 0 < d := Nat.lt_of_lt_of_le (Nat.mul_pos hm0 hk0) hdk
  refine ⟨fun h => by omega, fun h => ?_⟩
  have h2 := blen_le.1 h.1
  unfold lowP at h2
  rw [sgn_natAbs, sgn_natAbs, Int.natAbs_natCast] at h2
  have h3 : x ≤ d / Nat.gcd d y := by
    rw [Nat.le_div_iff_mul_le (Nat.gcd_pos_of_pos_right _ hk0)]
    exact Nat.le_trans (Nat.mul_le_mul_left _ (Nat.gcd_le_right _ hk0)) hdk
  exact Nat.lt_irrefl _ (Nat.lt_of_lt_of_le h2 (Nat.le_trans hbig h3))

theorem ok_digits {a : List UInt8} {b : Option (List UInt8)} (h : okDec a b = true) : (a ++ partOf b).all isDig = true ∧ (partOf b).length ≤ 64 := by
  unfold okDec at h
  rw [Bool.and_eq_true, Bool.or_eq_true] at h
  have ha : a.all isDig = true := by
    rcases h.1 with h1 | h1
    · have : a = [48] := of_decide_eq_true h1
      subst this; rfl
    · obtain ⟨x, s, rfl, h1, h2, h3⟩ := isPos_parts h1
      rw [List.all_cons, h3, Bool.and_true]
      simp [isDig]; omega
  rw [List.all_append, ha, Bool.true_and]
  cases b with
  | none => exact ⟨rfl, by simp [partOf]⟩
  | some t =>
    have h2 := h.2
    change (hasDigs t && decide (t.length ≤ 64)) = true at h2
    rw [Bool.and_eq_true] at h2
    have h3 := h2.1
    unfold hasDigs at h3
    rw [Bool.and_eq_true] at h3
    exact ⟨h3.1, of_decide_eq_true h2.2⟩

theorem dotText_any (xs : List UInt8) : ∃ a b, xs = dotText a b ∧ 46 ∉ a := by
  rcases ratText_cases xs 46 with h | ⟨a, t, h, h2⟩
  · exact ⟨xs, none, rfl, h⟩
  · exact ⟨a, some t, h, h2⟩

theorem dotText_len (a : List UInt8) (b : Option (List UInt8)) : a.length ≤ (dotText a b).length ∧ (partOf b).length ≤ (dotText a b).length := by
  cases b with
  | none => simp [dotText, partOf]
  | some t => simp [dotText, partOf]; omega

theorem cut_dot (a : List UInt8) (b : Option (List UInt8)) (w : World) (h : 46 ∉ a) (hl : (dotText a b).length ≤ 1000000000) :
    Calls Tryz.prog 29 #[.string ⟨(dotText a b).toArray⟩, .string ⟨#[46]⟩] w fun e w' => e = .returned (.tuple #[.string ⟨a.toArray⟩, .string ⟨(partOf b).toArray⟩, .bool b.isSome]) ∧ Below w.heap.size w w' := by
  cases b with
  | none => exact (cut_none a 46 w h).mono fun e w' h => ⟨h.1, h.2 ▸ Below.refl _ _⟩
  | some t => exact cut_at a t 46 w h hl

theorem int_pow10 (k : Nat) : sgn false (10 ^ k) = ((10 ^ k : Nat) : Int) := rfl

def OutDE (W : World) (neg : Bool) (a : List UInt8) (b : Option (List UInt8)) (e : Ending) (w' : World) : Prop :=
  ∃ na ao la ca bo lb cb er p q, e = .returned (.tuple #[.agg #[.bool na, .slice ao la ca, .slice bo lb cb], .int .i64 er]) ∧ la ≤ 512 ∧ lb ≤ 512 ∧ Q32 w' na ao la bo lb p q ∧ Below W.heap.size W w' ∧ DecSays neg a b er p q
end Go.Proofs.YtcgnmihabkgecaaGreat
