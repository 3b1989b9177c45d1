/- Part 15 of the contracts: RatG, QuoAny, OrderF, Cut, RatP, GcdZ. -/
import Derived.Test.YtcgnmihabkgecaaGreatPart14

/- Sub of fractions. -/
set_option linter.unusedVariables false
namespace Go.Proofs.YtcgnmihabkgecaaGreat
open Go.RowKit Go.Proofs

set_option maxRecDepth 4000 in
set_option maxHeartbeats 2000000 in
theorem ratSub_any (na nc : Bool) (ao bo co d_o : Option Addr) (la lb lc ld ca cb cc cd : Nat) (p r : Int) (q s : Nat) (W : World) (hf0 : Q32 W na ao la bo lb p q) (hg0 : Q32 W nc co lc d_o ld r s) (hla : la ≤ 100000) (hlb : lb ≤ 100000) (hlc : lc ≤ 100000) (hld : ld ≤ 100000) :
    Calls Tryz.prog 17 #[.agg #[.bool na, .slice ao la ca, .slice bo lb cb], .agg #[.bool nc, .slice co lc cc, .slice d_o ld cd]] W (OutTQ W (lowP (p * (s : Int) - r * (q : Int)) ((q : Int) * (s : Int))) (lowQ (p * (s : Int) - r * (q : Int)) ((q : Int) * (s : Int)))) := by
  have hf : Fr W (((W.alloc (.cells #[.bool na, .slice ao la ca, .slice bo lb cb] 27)).alloc (.cells #[.bool nc, .slice co lc cc, .slice d_o ld cd] 27)).alloc (.cells #[.bool false, .slice none 0 0, .slice none 0 0] 27)) [(27, #[.bool na, .slice ao la ca, .slice bo lb cb]), (27, #[.bool nc, .slice co lc cc, .slice d_o ld cd]), (27, #[.bool false, .slice none 0 0, .slice none 0 0])] := (((Fr.nil W).alloc rfl _ _).alloc (by simp) _ _).alloc (by simp) _ _
  have he : p * (s : Int) + -r * (q : Int) = p * (s : Int) - r * (q : Int) := by rw [Int.neg_mul, Int.sub_eq_add_neg]
  have HE := Lib.hid he
  clear he
  have HF := Lib.hid hf
  have HF_0 := Lib.hid (hf0.keep hf.below)
  have HG_0 := Lib.hid (hg0.keep hf.below)
  clear hf hf0 hg0
  go_enter Tryz.func17, Tryz.ntmps17
  go_wp2_with fail
  obtain ⟨V, hV⟩ : ∃ V, V = (((W.alloc (.cells #[.bool na, .slice ao la ca, .slice bo lb cb] 27)).alloc (.cells #[.bool nc, .slice co lc cc, .slice d_o ld cd] 27)).alloc (.cells #[.bool false, .slice none 0 0, .slice none 0 0] 27)) := ⟨_, rfl⟩
  rw [← hV] at HF HF_0 HG_0 ⊢
  clear hV
  have qq0 : V.cell? ⟨W.heap.size, 0, none⟩ = some (.bool na) := HF.out.cell 0 0 rfl rfl
  have qq1 : V.cell? ⟨W.heap.size, 1, none⟩ = some (.slice ao la ca) := HF.out.cell 0 1 rfl rfl
  have qq2 : V.cell? ⟨W.heap.size, 2, none⟩ = some (.slice bo lb cb) := HF.out.cell 0 2 rfl rfl
  have qq3 : V.cell? ⟨W.heap.size + 1, 0, none⟩ = some (.bool nc) := HF.out.cell 1 0 rfl rfl
  have qq4 : V.cell? ⟨W.heap.size + 1, 1, none⟩ = some (.slice co lc cc) := HF.out.cell 1 1 rfl rfl
  have qq5 : V.cell? ⟨W.heap.size + 1, 2, none⟩ = some (.slice d_o ld cd) := HF.out.cell 1 2 rfl rfl
  go_region_held3 (fun w' => w'.cell? ⟨W.heap.size, 0, none⟩ = some (.bool na) ∧ w'.cell? ⟨W.heap.size, 1, none⟩ = some (.slice ao la ca) ∧ w'.cell? ⟨W.heap.size, 2, none⟩ = some (.slice bo lb cb) ∧ w'.cell? ⟨W.heap.size + 1, 0, none⟩ = some (.bool nc) ∧ w'.cell? ⟨W.heap.size + 1, 1, none⟩ = some (.slice co lc cc) ∧ w'.cell? ⟨W.heap.size + 1, 2, none⟩ = some (.slice d_o ld cd)) (first | (go_keep; done) | ((try dsimp only); (repeat' apply And.intro) <;> (first | (go_keep; done) | (rw [cell_set3 _ _ _ _ _ _ _ (by omega)]; assumption) | (rw [cell_set2 _ _ _ _ _ _ (by omega)]; assumption))))
    (first | (go_at_call 15; refine ((ratAdd_any _ _ _ _ _ _ _ _ _ _ _ _ _ _ p (-r) q s _ HFs0.out HN0.out (by omega) (by omega) (by omega) (by omega)).mono fun e w h => (show OutTQ _ (lowP (p * (s : Int) - r * (q : Int)) ((q : Int) * (s : Int))) (lowQ (p * (s : Int) - r * (q : Int)) ((q : Int) * (s : Int))) e w from HE.out ▸ h)).mono ?_; rintro e sw1 ⟨n8, o8, l8, c8, u8, m8, d8, e8, P8, Q8, rfl, hl8, hm8, hz, hb, ht⟩; have hbb := hb; have FPs1 := Lib.hid (FPs0.out.later hbb); have HFs1 := Lib.hid (HFs0.out.keep hbb); have HGs1 := Lib.hid (HGs0.out.keep hbb); have HNs1 := Lib.hid (HN0.out.keep hbb); have HZ0 := Lib.hid hz; have HT := Lib.hid ht; clear hz ht; clear hb hbb; have s1c0 : sw1.cell? ⟨W.heap.size, 0, none⟩ = some (.bool na) := FPs1.out.cell 0 0 rfl rfl; have s1c1 : sw1.cell? ⟨W.heap.size, 1, none⟩ = some (.slice ao la ca) := FPs1.out.cell 0 1 rfl rfl; have s1c2 : sw1.cell? ⟨W.heap.size, 2, none⟩ = some (.slice bo lb cb) := FPs1.out.cell 0 2 rfl rfl; have s1c3 : sw1.cell? ⟨W.heap.size + 1, 0, none⟩ = some (.bool nc) := FPs1.out.cell 1 0 rfl rfl; have s1c4 : sw1.cell? ⟨W.heap.size + 1, 1, none⟩ = some (.slice co lc cc) := FPs1.out.cell 1 1 rfl rfl; have s1c5 : sw1.cell? ⟨W.heap.size + 1, 2, none⟩ = some (.slice d_o ld cd) := FPs1.out.cell 1 2 rfl rfl; have sz0 : sw1.cell? ⟨W.heap.size + 2, 0, none⟩ = some (.bool false) := FPs1.out.cell 2 0 rfl rfl; have sz1 : sw1.cell? ⟨W.heap.size + 2, 1, none⟩ = some (.slice none 0 0) := FPs1.out.cell 2 1 rfl rfl; have sz2 : sw1.cell? ⟨W.heap.size + 2, 2, none⟩ = some (.slice none 0 0) := FPs1.out.cell 2 2 rfl rfl; have szf0 : sw1.frozen? ⟨W.heap.size + 2, 0, none⟩ = false := FPs1.out.frozen 2 0 rfl; have szf1 : sw1.frozen? ⟨W.heap.size + 2, 1, none⟩ = false := FPs1.out.frozen 2 1 rfl; have szf2 : sw1.frozen? ⟨W.heap.size + 2, 2, none⟩ = false := FPs1.out.frozen 2 2 rfl) | (go_at_call 24; refine (ratNeg_any _ _ _ _ _ _ _ r s V.drew (HG_0.out.keep (Below.refl _ _).drew) (by omega) (by omega)).mono ?_; rintro e sw0 ⟨n1, o1, l1, c1, u1, m1, d1, rfl, hl1, hm1, hz, hb⟩; have hbb := below_of_drew hb; have FPs0 := Lib.hid (HF.out.later hbb); have HFs0 := Lib.hid (HF_0.out.keep hbb); have HGs0 := Lib.hid (HG_0.out.keep hbb); have HN0 := Lib.hid hz; clear hz; clear hb hbb; have s0c0 : sw0.cell? ⟨W.heap.size, 0, none⟩ = some (.bool na) := FPs0.out.cell 0 0 rfl rfl; have s0c1 : sw0.cell? ⟨W.heap.size, 1, none⟩ = some (.slice ao la ca) := FPs0.out.cell 0 1 rfl rfl; have s0c2 : sw0.cell? ⟨W.heap.size, 2, none⟩ = some (.slice bo lb cb) := FPs0.out.cell 0 2 rfl rfl; have s0c3 : sw0.cell? ⟨W.heap.size + 1, 0, none⟩ = some (.bool nc) := FPs0.out.cell 1 0 rfl rfl; have s0c4 : sw0.cell? ⟨W.heap.size + 1, 1, none⟩ = some (.slice co lc cc) := FPs0.out.cell 1 1 rfl rfl; have s0c5 : sw0.cell? ⟨W.heap.size + 1, 2, none⟩ = some (.slice d_o ld cd) := FPs0.out.cell 1 2 rfl rfl))
  go_wp2
  obtain ⟨e0, e1, e2, hq, hbel⟩ := FPs1.out.finQ (cap := c8) (bc := d8) 2 rfl HZ0.out
  exact bodyPost_ret (v := .tuple #[.agg #[.bool n8, .slice o8 l8 c8, .slice u8 m8 d8], .int .i64 e8]) (by simp [results, Tryz.results17, go_sem, e0, e1, e2]) rfl ⟨n8, o8, l8, c8, u8, m8, d8, e8, P8, Q8, rfl, hl8, hm8, hq, hbel, HT.out⟩
end Go.Proofs.YtcgnmihabkgecaaGreat

/- Facts for the laws of fractions. -/
set_option linter.unusedVariables false
namespace Go.Proofs.YtcgnmihabkgecaaGreat
open Go.RowKit Go.Proofs

def HalfOut2 (W : World) (Y : Int) (e : Ending) (w' : World) : Prop :=
  ∃ na ao la ca bo lb cb s1 o1 l1 c1 s2 o2 l2 c2 P Q ok, e = .returned (.tuple #[.agg #[.bool na, .slice ao la ca, .slice bo lb cb], .agg #[.bool s1, .slice o1 l1 c1, .bool s2, .slice o2 l2 c2], .bool ok]) ∧ la ≤ 512 ∧ lb ≤ 512 ∧ Q32 w' na ao la bo lb P Q ∧
    (ok = true → l1 ≤ 1024 ∧ l2 ≤ 1024 ∧ Z16 w' s1 o1 l1 P ∧ Z16 w' s2 o2 l2 (Q : Int)) ∧ Below W.heap.size W w'

theorem HalfOut.two {X Y : Int} {W w' : World} {e : Ending} (h : HalfOut X Y W e w') : HalfOut2 W Y e w' := by
  obtain ⟨na, ao, la, ca, bo, lb, cb, s1, o1, l1, c1, s2, o2, l2, c2, P, Q, rfl, h1, h2, h3, h4, h5⟩ := h
  exact ⟨na, ao, la, ca, bo, lb, cb, s1, o1, l1, c1, s2, o2, l2, c2, P, Q, _, rfl, h1, h2, h3, fun h => ⟨(h4 (of_decide_eq_true h)).2.2.1, (h4 (of_decide_eq_true h)).2.2.2.1, (h4 (of_decide_eq_true h)).2.2.2.2.1, (h4 (of_decide_eq_true h)).2.2.2.2.2⟩, h5⟩

def OutTQ0 (W : World) (p : Int) (q : Nat) (r : Int) (e : Ending) (w' : World) : Prop :=
  ∃ na ao la ca bo lb cb er P Q, e = .returned (.tuple #[.agg #[.bool na, .slice ao la ca, .slice bo lb cb], .int .i64 er]) ∧ la ≤ 512 ∧ lb ≤ 512 ∧ Q32 w' na ao la bo lb P Q ∧ Below W.heap.size W w' ∧ (r ≠ 0 → ToldQ p q er P Q) ∧ (r = 0 → er = 10 ∧ P = 0 ∧ Q = 1)

theorem ratQuo_all (na nc : Bool) (ao bo co d_o : Option Addr) (la lb lc ld ca cb cc cd : Nat) (p r : Int) (q s : Nat) (W : World) (hf0 : Q32 W na ao la bo lb p q) (hg0 : Q32 W nc co lc d_o ld r s) (hla : la ≤ 100000) (hlb : lb ≤ 100000) (hlc : lc ≤ 100000) (hld : ld ≤ 100000) :
    Calls Tryz.prog 20 #[.agg #[.bool na, .slice ao la ca, .slice bo lb cb], .agg #[.bool nc, .slice co lc cc, .slice d_o ld cd]] W (OutTQ0 W (lowP (p * (s : Int)) ((q : Int) * r)) (lowQ (p * (s : Int)) ((q : Int) * r)) r) := by
  by_cases hr : r = 0
  · subst hr
    refine (ratQuo_zero na nc ao bo co d_o la lb lc ld ca cb cc cd s W hg0).mono fun e w h => ?_
    exact ⟨false, none, 0, 0, none, 0, 0, 10, 0, 1, h.1, by omega, by omega, ⟨Z32.nil _, .inl ⟨rfl, rfl⟩⟩, h.2, fun h => absurd rfl h, fun _ => ⟨rfl, rfl, rfl⟩⟩
  · refine (ratQuo_any na nc ao bo co d_o la lb lc ld ca cb cc cd p r q s W hf0 hg0 hla hlb hlc hld hr).mono fun e w h => ?_
    obtain ⟨n, o, l, c, b, m, d, er, P, Q, rfl, h1, h2, h3, h4, h5⟩ := h
    exact ⟨n, o, l, c, b, m, d, er, P, Q, rfl, h1, h2, h3, h4, fun _ => h5, fun h => absurd h hr⟩
end Go.Proofs.YtcgnmihabkgecaaGreat

/- Facts for NumOrder: fractions in lowest terms. No function of the program is walked here. -/
set_option linter.unusedVariables false
namespace Go.Proofs.YtcgnmihabkgecaaGreat
open Go.RowKit Go.Proofs

theorem low_back {x y : Int} (hy : 0 < y) : ∃ g : Nat, 0 < g ∧ lowP x y * (g : Int) = x ∧ (lowQ x y : Int) * (g : Int) = y := by
  have hy0 : 0 < y.natAbs := by omega
  have h1 := Nat.div_mul_cancel (Nat.gcd_dvd_left x.natAbs y.natAbs)
  have h2 := Nat.div_mul_cancel (Nat.gcd_dvd_right x.natAbs y.natAbs)
  refine ⟨Nat.gcd x.natAbs y.natAbs, Nat.gcd_pos_of_pos_right _ hy0, ?_, ?_⟩
  · unfold lowP
    rw [decide_eq_false (show ¬ y < 0 by omega)]
    by_cases hx : x < 0
    · rw [decide_eq_true hx]
      show -((x.natAbs / Nat.gcd x.natAbs y.natAbs : Nat) : Int) * _ = x
      rw [Int.neg_mul, ← Int.natCast_mul, h1]; omega
    · rw [decide_eq_false hx]
      show ((x.natAbs / Nat.gcd x.natAbs y.natAbs : Nat) : Int) * _ = x
      rw [← Int.natCast_mul, h1]; omega
  · unfold lowQ
    rw [← Int.natCast_mul, h2]; omega

theorem cross_low {x y x' y' : Int} (hy : 0 < y) (hy' : 0 < y') : (lowP x y * (lowQ x' y' : Int) - lowP x' y' * (lowQ x y : Int)).sign = (x * y' - x' * y).sign := by
  obtain ⟨g, hg, h1, h2⟩ := low_back (x := x) hy
  obtain ⟨k, hk, h3, h4⟩ := low_back (x := x') hy'
  generalize lowP x y = a at *
  generalize (lowQ x y : Int) = b at *
  generalize lowP x' y' = c at *
  generalize (lowQ x' y' : Int) = d at *
  have e : x * y' - x' * y = (a * d - c * b) * ((g : Int) * (k : Int)) := by
    rw [← h1, ← h2, ← h3, ← h4]; grind
  rw [e, Int.sign_mul, Int.sign_eq_one_of_pos (Int.mul_pos (by omega) (by omega)), Int.mul_one]

theorem sign_low {x y : Int} (hy : 0 < y) : (lowP x y).sign = x.sign := by
  obtain ⟨g, hg, h1, _⟩ := low_back (x := x) hy
  conv => rhs; rw [← h1, Int.sign_mul, Int.sign_eq_one_of_pos (show (0 : Int) < (g : Int) by omega), Int.mul_one]

theorem low_coprime {x y : Int} (hy : y ≠ 0) : Nat.gcd (lowP x y).natAbs (lowQ x y) = 1 := by
  unfold lowP lowQ
  rw [sgn_natAbs]
  exact Nat.gcd_div_gcd_div_gcd_of_pos_right (by omega)

theorem low_unique {p r : Int} {q s : Nat} (hq : 0 < q) (hs : 0 < s) (h1 : Nat.gcd p.natAbs q = 1) (h2 : Nat.gcd r.natAbs s = 1) (h : p * (s : Int) - r * (q : Int) = 0) : p = r ∧ q = s := by
  have e : p * (s : Int) = r * (q : Int) := by omega
  have en : p.natAbs * s = r.natAbs * q := by
    have := congrArg Int.natAbs e
    rwa [Int.natAbs_mul, Int.natAbs_mul, Int.natAbs_natCast, Int.natAbs_natCast] at this
  have d1 : q ∣ s := by
    have : q ∣ p.natAbs * s := ⟨r.natAbs, by rw [en, Nat.mul_comm]⟩
    exact Nat.Coprime.dvd_of_dvd_mul_left (show Nat.Coprime q p.natAbs by unfold Nat.Coprime; rw [Nat.gcd_comm]; exact h1) this
  have d2 : s ∣ q := by
    have : s ∣ r.natAbs * q := ⟨p.natAbs, by rw [← en, Nat.mul_comm]⟩
    exact Nat.Coprime.dvd_of_dvd_mul_left (show Nat.Coprime s r.natAbs by unfold Nat.Coprime; rw [Nat.gcd_comm]; exact h2) this
  have hqs : q = s := Nat.dvd_antisymm d1 d2
  subst hqs
  exact ⟨Int.eq_of_mul_eq_mul_right (by omega) e, rfl⟩

theorem split47 {a b c d : List UInt8} (ha : (47 : UInt8) ∉ a) (hc : (47 : UInt8) ∉ c) (h : a ++ 47 :: b = c ++ 47 :: d) : a = c ∧ b = d := by
  induction a generalizing c with
  | nil =>
    cases c with
    | nil => simpa using h
    | cons x c => simp at h; exact absurd h.1 (fun e => hc (by rw [← e]; simp))
  | cons x a ih =>
    cases c with
    | nil => simp at h; exact absurd h.1 (fun e => ha (by rw [e]; simp))
    | cons y c =>
      simp at h
      have := ih (c := c) (fun m => ha (List.mem_cons_of_mem _ m)) (fun m => hc (List.mem_cons_of_mem _ m)) h.2
      exact ⟨by rw [h.1, this.1], this.2⟩

theorem numeralZ_inj {x y : Int} (h : numeralZ x = numeralZ y) : x = y := by
  have := congrArg numZ h
  rwa [numZ_numeralZ, numZ_numeralZ] at this

theorem numeral_no47 (n : Nat) : (47 : UInt8) ∉ numeral n := by
  intro hm
  by_cases h : n = 0
  · rw [h] at hm; exact absurd hm (by decide)
  · have h1 := numeral_pos h
    unfold isPos hasDigs at h1
    simp only [Bool.and_eq_true] at h1
    exact absurd (List.all_eq_true.1 h1.1.1 47 hm) (by decide)

theorem numeralZ_no47 (z : Int) : (47 : UInt8) ∉ numeralZ z := by
  unfold numeralZ
  by_cases h : z < 0
  · rw [if_pos h]
    intro hm
    rcases List.mem_cons.1 hm with h1 | h1
    · exact absurd h1 (by decide)
    · exact numeral_no47 _ h1
  · rw [if_neg h]; exact numeral_no47 _

theorem textQ_inj {p r : Int} {q s : Nat} (h : textQ p q = textQ r s) : p = r ∧ q = s := by
  unfold textQ at h
  have hmem : ∀ (z : Int) (n : Nat), (47 : UInt8) ∈ numeralZ z ++ [47] ++ numeral n := fun z n => by simp
  by_cases h1 : q = 1
  · rw [if_pos h1] at h
    by_cases h2 : s = 1
    · rw [if_pos h2] at h; exact ⟨numeralZ_inj h, by omega⟩
    · rw [if_neg h2] at h; exact absurd (h ▸ hmem r s) (numeralZ_no47 p)
  · rw [if_neg h1] at h
    by_cases h2 : s = 1
    · rw [if_pos h2] at h; exact absurd (h ▸ hmem p q) (numeralZ_no47 r)
    · rw [if_neg h2, List.append_assoc, List.append_assoc] at h
      have h3 := split47 (numeralZ_no47 p) (numeralZ_no47 r) h
      exact ⟨numeralZ_inj h3.1, by rw [← dec_numeral q, ← dec_numeral s, (show numeral q = numeral s from h3.2)]⟩

/-- the texts of two fractions in lowest terms are the same if and only if they are equal -/
theorem text_cross {p r : Int} {q s : Nat} (hq : 0 < q) (hs : 0 < s) (h1 : Nat.gcd p.natAbs q = 1) (h2 : Nat.gcd r.natAbs s = 1) :
    ((p * (s : Int) - r * (q : Int)).sign == 0) = decide (textQ p q = textQ r s) := by
  by_cases h : textQ p q = textQ r s
  · obtain ⟨rfl, rfl⟩ := textQ_inj h
    rw [decide_eq_true rfl, Int.sub_self]; rfl
  · rw [decide_eq_false h, beq_eq_false_iff_ne]
    intro h0
    have := low_unique hq hs h1 h2 (Int.sign_eq_zero_iff_zero.1 h0)
    exact h (by rw [this.1, this.2])

/-- an order: what holds of three fractions -/
theorem cross_trans {p r m : Int} {q s n : Nat} (hq : 0 < q) (hs : 0 < s) (hn : 0 < n) (h1 : (p * (s : Int) - r * (q : Int)).sign ≤ 0) (h2 : (r * (n : Int) - m * (s : Int)).sign ≤ 0) : (p * (n : Int) - m * (q : Int)).sign ≤ 0 := by
  have e1 : p * (s : Int) - r * (q : Int) ≤ 0 := Int.not_lt.1 fun h => by have := Int.sign_eq_one_of_pos h; omega
  have e2 : r * (n : Int) - m * (s : Int) ≤ 0 := Int.not_lt.1 fun h => by have := Int.sign_eq_one_of_pos h; omega
  have f1 : (p * (s : Int) - r * (q : Int)) * (n : Int) ≤ 0 := Int.mul_nonpos_of_nonpos_of_nonneg e1 (by omega)
  have f2 : (r * (n : Int) - m * (s : Int)) * (q : Int) ≤ 0 := Int.mul_nonpos_of_nonpos_of_nonneg e2 (by omega)
  have f3 : (p * (n : Int) - m * (q : Int)) * (s : Int) = (p * (s : Int) - r * (q : Int)) * (n : Int) + (r * (n : Int) - m * (s : Int)) * (q : Int) := by grind
  apply Int.not_lt.1
  intro h
  have h0 : 0 < p * (n : Int) - m * (q : Int) := by
    rcases Int.lt_trichotomy (p * (n : Int) - m * (q : Int)) 0 with h4 | h4 | h4
    · have := Int.sign_eq_neg_one_of_neg h4; omega
    · rw [h4] at h; exact absurd h (by decide)
    · exact h4
  have := Int.mul_pos h0 (show (0 : Int) < (s : Int) by omega)
  omega

theorem cross_anti (p r : Int) (q s : Nat) : (r * (q : Int) - p * (s : Int)).sign = -(p * (s : Int) - r * (q : Int)).sign := by
  rw [← Int.sign_neg]; congr 1; omega
theorem cross_neg (p r : Int) (q s : Nat) : (-p * (s : Int) - -r * (q : Int)).sign = -(p * (s : Int) - r * (q : Int)).sign := by
  rw [← Int.sign_neg]; congr 1; rw [Int.neg_mul, Int.neg_mul]; omega

theorem cross_add {p r m : Int} {q s n : Nat} (hq : 0 < q) (hs : 0 < s) (hn : 0 < n) :
    (lowP (p * (n : Int) + m * (q : Int)) ((q : Int) * (n : Int)) * (lowQ (r * (n : Int) + m * (s : Int)) ((s : Int) * (n : Int)) : Int) - lowP (r * (n : Int) + m * (s : Int)) ((s : Int) * (n : Int)) * (lowQ (p * (n : Int) + m * (q : Int)) ((q : Int) * (n : Int)) : Int)).sign
      = (p * (s : Int) - r * (q : Int)).sign := by
  rw [cross_low (Int.mul_pos (by omega) (by omega)) (Int.mul_pos (by omega) (by omega))]
  have e : (p * (n : Int) + m * (q : Int)) * ((s : Int) * (n : Int)) - (r * (n : Int) + m * (s : Int)) * ((q : Int) * (n : Int)) = (p * (s : Int) - r * (q : Int)) * ((n : Int) * (n : Int)) := by grind
  rw [e, Int.sign_mul, Int.sign_eq_one_of_pos (Int.mul_pos (show (0 : Int) < (n : Int) by omega) (by omega)), Int.mul_one]

theorem cross_mul {p r m : Int} {q s n : Nat} (hq : 0 < q) (hs : 0 < s) (hn : 0 < n) :
    (lowP (p * m) ((q : Int) * (n : Int)) * (lowQ (r * m) ((s : Int) * (n : Int)) : Int) - lowP (r * m) ((s : Int) * (n : Int)) * (lowQ (p * m) ((q : Int) * (n : Int)) : Int)).sign = (p * (s : Int) - r * (q : Int)).sign * m.sign := by
  rw [cross_low (Int.mul_pos (by omega) (by omega)) (Int.mul_pos (by omega) (by omega))]
  have e : (p * m) * ((s : Int) * (n : Int)) - (r * m) * ((q : Int) * (n : Int)) = (p * (s : Int) - r * (q : Int)) * m * (n : Int) := by grind
  rw [e, Int.sign_mul, Int.sign_mul, Int.sign_eq_one_of_pos (show (0 : Int) < (n : Int) by omega), Int.mul_one]

/-- half, with what is known of small numbers -/
def HalfOut3 (k : Nat) (W : World) (e : Ending) (w' : World) : Prop :=
  ∃ na ao la ca bo lb cb s1 o1 l1 c1 s2 o2 l2 c2 P Q ok, e = .returned (.tuple #[.agg #[.bool na, .slice ao la ca, .slice bo lb cb], .agg #[.bool s1, .slice o1 l1 c1, .bool s2, .slice o2 l2 c2], .bool ok]) ∧ la ≤ 512 ∧ lb ≤ 512 ∧ Q32 w' na ao la bo lb P Q ∧
    (ok = true → Bl k P ∧ Bl k (Q : Int) ∧ Nat.gcd P.natAbs Q = 1) ∧ Below W.heap.size W w'

theorem HalfOut.small {X Y : Int} {W w' : World} {e : Ending} {k : Nat} (h : HalfOut X Y W e w') (hX : Bl k X) (hY : Bl k Y) : HalfOut3 k W e w' := by
  obtain ⟨na, ao, la, ca, bo, lb, cb, s1, o1, l1, c1, s2, o2, l2, c2, P, Q, rfl, h1, h2, h3, h4, h5⟩ := h
  refine ⟨na, ao, la, ca, bo, lb, cb, s1, o1, l1, c1, s2, o2, l2, c2, P, Q, _, rfl, h1, h2, h3, fun h => ?_, h5⟩
  have hy := of_decide_eq_true h
  obtain ⟨rfl, rfl, _⟩ := h4 hy
  refine ⟨?_, ?_, low_coprime hy⟩
  · unfold Bl at *
    rw [blen_le] at *
    unfold lowP; rw [sgn_natAbs]
    exact Nat.lt_of_le_of_lt (Nat.div_le_self _ _) hX
  · unfold Bl at *
    rw [Int.natAbs_natCast, blen_le]
    rw [blen_le] at hY
    exact Nat.lt_of_le_of_lt (Nat.div_le_self _ _) hY

def OutQS (W : World) (p : Int) (q : Nat) (e : Ending) (w' : World) : Prop :=
  ∃ na ao la ca bo lb cb, e = .returned (.tuple #[.agg #[.bool na, .slice ao la ca, .slice bo lb cb], .int .i64 0]) ∧ la ≤ 512 ∧ lb ≤ 512 ∧ Q32 w' na ao la bo lb p q ∧ Below W.heap.size W w'

theorem OutTQ.fine {W w' : World} {x y : Int} {e : Ending} (h : OutTQ W (lowP x y) (lowQ x y) e w') (hx : Fits x) (hy : Fits y) : OutQS W (lowP x y) (lowQ x y) e w' := by
  obtain ⟨na, ao, la, ca, bo, lb, cb, er, P, Q, rfl, h1, h2, h3, h4, h5⟩ := h
  obtain ⟨_, rfl, rfl, rfl⟩ := h5.resolve_right fun k => k.1 ⟨fits_lowP hx, fits_lowQ hy⟩
  exact ⟨na, ao, la, ca, bo, lb, cb, rfl, h1, h2, h3, h4⟩

theorem sign_range (x : Int) : -1 ≤ x.sign ∧ x.sign ≤ 1 := by
  rcases Int.lt_trichotomy x 0 with h | h | h
  · have := Int.sign_eq_neg_one_of_neg h; omega
  · rw [h]; decide
  · have := Int.sign_eq_one_of_pos h; omega
end Go.Proofs.YtcgnmihabkgecaaGreat

/- strings.Cut around one byte; facts of the texts of fractions. -/
set_option linter.unusedVariables false
namespace Go.Proofs.YtcgnmihabkgecaaGreat
open Go.RowKit Go.Proofs

theorem idx_none {xs : List UInt8} {c : UInt8} (h : c ∉ xs) : Lib.indexByte xs c = -1 := by
  induction xs with
  | nil => rfl
  | cons x t ih =>
    rw [List.mem_cons, not_or] at h
    unfold Lib.indexByte
    rw [if_neg (by simpa using fun e => h.1 e.symm), ih h.2]
    rfl

theorem idx_at {a b : List UInt8} {c : UInt8} (h : c ∉ a) : Lib.indexByte (a ++ c :: b) c = a.length := by
  induction a with
  | nil => simp [Lib.indexByte]
  | cons x t ih =>
    rw [List.mem_cons, not_or] at h
    rw [List.cons_append]
    unfold Lib.indexByte
    rw [if_neg (by simpa using fun e => h.1 e.symm), ih h.2, if_neg (by simp)]
    simp

theorem str_take (xs : List UInt8) (i : Nat) (h : i ≤ xs.length) : (⟨xs.toArray⟩ : ByteArray).extract 0 i = ⟨(xs.take i).toArray⟩ := by
  apply ByteArray.ext
  rw [ByteArray.data_extract]
  simp

theorem byte_back (c : UInt8) : (((c.toNat : Nat) : Int)).toNat.toUInt8 = c := by
  rw [Int.toNat_natCast]
  exact UInt8.ofNat_toNat

set_option maxHeartbeats 1000000 in
theorem index1_any (xs : List UInt8) (c : UInt8) (w : World) :
    Calls Tryz.prog 105 #[.string ⟨xs.toArray⟩, .string ⟨#[c]⟩] w fun e w' => e = .returned (.int .i64 (Lib.indexByte xs c)) ∧ w = w' := by
  by_cases h0 : xs = [c]
  · subst h0
    have HX : Hid (Lib.indexByte [c] c = 0) := by show _ = _; simp [Lib.indexByte]
    rw [HX.out]
    go_enter Tryz.func105, Tryz.ntmps105
    go_wp2
    go_ret
    exact ⟨rfl, rfl⟩
  · have h1 : ¬ [c] = xs := fun e => h0 e.symm
    have h2 : ([c] == xs) = false := by simpa using h1
    go_enter Tryz.func105, Tryz.ntmps105
    go_wp2_with fail
    refine (Tryz.stringslite_IndexByte _ _ _).mono ?_
    rintro e w1 ⟨rfl, rfl⟩
    clear h0 h1 h2
    go_wp2
    go_ret
    exact ⟨rfl, rfl⟩

set_option maxHeartbeats 1000000 in
theorem cut_none (xs : List UInt8) (c : UInt8) (w : World) (h : c ∉ xs) :
    Calls Tryz.prog 29 #[.string ⟨xs.toArray⟩, .string ⟨#[c]⟩] w fun e w' => e = .returned (.tuple #[.string ⟨xs.toArray⟩, .string ⟨#[]⟩, .bool false]) ∧ w = w' := by
  have HI := Lib.hid (idx_none h)
  clear h
  have hc : Calls Tryz.prog 73 #[.string ⟨xs.toArray⟩, .string ⟨#[c]⟩] w fun e w' => e = .returned (.tuple #[.string ⟨xs.toArray⟩, .string ⟨#[]⟩, .bool false]) ∧ w = w' := by
    go_enter Tryz.func73, Tryz.ntmps73
    go_wp2_with fail
    refine (index1_any xs c _).mono ?_
    rw [HI.out]
    rintro e w1 ⟨rfl, rfl⟩
    go_wp2
    go_ret3
    exact ⟨rfl, rfl⟩
  go_enter Tryz.func29, Tryz.ntmps29
  go_wp2_with fail
  refine hc.mono ?_
  rintro e w1 ⟨rfl, rfl⟩
  clear hc
  go_wp2
  go_ret3
  exact ⟨rfl, rfl⟩

set_option maxHeartbeats 1000000 in
theorem cut_at (a b : List UInt8) (c : UInt8) (w : World) (h : c ∉ a) (hl : (a ++ c :: b).length ≤ 1000000000) :
    Calls Tryz.prog 29 #[.string ⟨(a ++ c :: b).toArray⟩, .string ⟨#[c]⟩] w fun e w' => e = .returned (.tuple #[.string ⟨a.toArray⟩, .string ⟨b.toArray⟩, .bool true]) ∧ Below w.heap.size w w' := by
  have HI := Lib.hid (idx_at (b := b) h)
  obtain ⟨xs, hxs⟩ : ∃ xs, xs = a ++ c :: b := ⟨_, rfl⟩
  obtain ⟨n, hn⟩ : ∃ n, n = a.length := ⟨_, rfl⟩
  have hlen : n + 1 ≤ xs.length := by rw [hxs, hn]; simp
  have HA : Hid ((⟨xs.toArray⟩ : ByteArray).extract 0 n = ⟨a.toArray⟩) := by show _ = _; rw [str_take xs n (by omega), hxs, hn]; simp
  have HB : Hid ((⟨xs.toArray⟩ : ByteArray).extract (n + 1) xs.length = ⟨b.toArray⟩) := by show _ = _; rw [str_drop, hxs, hn]; simp
  rw [← hxs, ← hn] at HI
  rw [← hxs] at hl ⊢
  clear hxs hn h
  have hc : Calls Tryz.prog 73 #[.string ⟨xs.toArray⟩, .string ⟨#[c]⟩] w fun e w' => e = .returned (.tuple #[.string ⟨a.toArray⟩, .string ⟨b.toArray⟩, .bool true]) ∧ Below w.heap.size w w' := by
    go_enter Tryz.func73, Tryz.ntmps73
    go_wp2_with fail
    refine (index1_any xs c _).mono ?_
    rw [HI.out]
    rintro e w1 ⟨rfl, rfl⟩
    have t1 : (0 : Int) ≤ (n : Int) := by omega
    have t2 : (n : Int) ≤ (xs.length : Int) := by omega
    have t3 : (0 : Int) ≤ (n : Int) + 1 := by omega
    have t4 : (n : Int) + 1 ≤ (xs.length : Int) := by omega
    go_wp2
    go_region
    all_goals go_wp2
    all_goals go_ret3
    all_goals exact ⟨by rw [← HA.out, ← HB.out]; rfl, by first | exact (Below.refl _ _).drew | exact below_drewN (Below.refl _ _) _⟩
  go_enter Tryz.func29, Tryz.ntmps29
  go_wp2_with fail
  refine hc.mono ?_
  rintro e w1 ⟨rfl, hb⟩
  have HX := Lib.hid hb
  clear hc hb
  go_wp2
  go_ret3
  exact ⟨rfl, HX.out⟩

/-! The texts of fractions. -/
/-- the text of a fraction: a, or a / b -/
def ratText (a : List UInt8) : Option (List UInt8) → List UInt8
  | none => a
  | some b => a ++ 47 :: b
def denOf : Option (List UInt8) → Nat
  | none => 1
  | some b => dec b
def textOk (a : List UInt8) : Option (List UInt8) → Bool
  | none => isNum a
  | some b => isNum a && (isPos b && decide (b ≠ [49]))
def bothFit (a : List UInt8) : Option (List UInt8) → Prop
  | none => Fits (numZ a)
  | some b => Fits (numZ a) ∧ Fits (numZ b)

/-- the answer to the text of a fraction -/
def RatSays (a : List UInt8) (b : Option (List UInt8)) (er p : Int) (q : Nat) : Prop :=
  (textOk a b = false ∧ er = 4 ∧ p = 0 ∧ q = 1) ∨ (textOk a b = true ∧ ¬ bothFit a b ∧ er = 3 ∧ p = 0 ∧ q = 1) ∨
  (textOk a b = true ∧ bothFit a b ∧ Nat.gcd (numZ a).natAbs (denOf b) ≠ 1 ∧ er = 4 ∧ p = 0 ∧ q = 1) ∨
  (textOk a b = true ∧ bothFit a b ∧ Nat.gcd (numZ a).natAbs (denOf b) = 1 ∧ er = 0 ∧ p = numZ a ∧ q = denOf b)

theorem RatSays.same {a : List UInt8} {b : Option (List UInt8)} {er er' p p' : Int} {q q' : Nat} (h : RatSays a b er p q) (h' : RatSays a b er' p' q') : er = er' ∧ p = p' ∧ q = q' := by
  rcases h with ⟨h1, h2, h3, h4⟩ | ⟨h1, h5, h2, h3, h4⟩ | ⟨h1, h5, h6, h2, h3, h4⟩ | ⟨h1, h5, h6, h2, h3, h4⟩ <;>
  rcases h' with ⟨k1, k2, k3, k4⟩ | ⟨k1, k5, k2, k3, k4⟩ | ⟨k1, k5, k6, k2, k3, k4⟩ | ⟨k1, k5, k6, k2, k3, k4⟩ <;>
  first
  | exact absurd (h1.symm.trans k1) (by decide)
  | exact absurd k5 h5
  | exact absurd h5 k5
  | exact absurd k6 h6
  | exact absurd h6 k6
  | exact ⟨h2.trans k2.symm, h3.trans k3.symm, h4.trans k4.symm⟩

/-- every text is one of the two kinds -/
theorem ratText_cases (xs : List UInt8) (c : UInt8) : c ∉ xs ∨ ∃ a b, xs = a ++ c :: b ∧ c ∉ a := by
  induction xs with
  | nil => exact .inl (by simp)
  | cons x t ih =>
    by_cases hx : x = c
    · exact .inr ⟨[], t, by rw [hx]; rfl, by simp⟩
    · rcases ih with h | ⟨a, b, h, h2⟩
      · exact .inl (by rw [List.mem_cons, not_or]; exact ⟨fun e => hx e.symm, h⟩)
      · exact .inr ⟨x :: a, b, by rw [h]; rfl, by rw [List.mem_cons, not_or]; exact ⟨fun e => hx e.symm, h2⟩⟩

theorem isPos_parts {t : List UInt8} (h : isPos t = true) : ∃ x s, t = x :: s ∧ 49 ≤ x.toNat ∧ x.toNat ≤ 57 ∧ s.all isDig = true := by
  unfold isPos at h
  rw [Bool.and_eq_true] at h
  have h1 := h.1
  unfold hasDigs at h1
  rw [Bool.and_eq_true] at h1
  cases t with
  | nil => exact absurd h1.2 (by decide)
  | cons x s =>
    have h2 := h1.1
    rw [List.all_cons, Bool.and_eq_true] at h2
    have h3 : 48 ≤ x.toNat ∧ x.toNat ≤ 57 := by simpa [isDig] using h2.1
    have h4 : x ≠ 48 := by simpa using h.2
    have h5 : x.toNat ≠ 48 := fun e => h4 (UInt8.toNat_inj.1 e)
    exact ⟨x, s, rfl, by omega, h3.2, h2.2⟩

theorem isPos_bare {t : List UInt8} (h : isPos t = true) : Lib.hasPrefix t [45] = false ∧ bare t = t := by
  obtain ⟨x, s, rfl, h1, h2, h3⟩ := isPos_parts h
  have hx : x ≠ 45 := fun e => by subst e; exact absurd h1 (by decide)
  have hp : Lib.hasPrefix (x :: s) [45] = false := by
    have h5 : ((45 : UInt8) == x) = false := by simpa using fun (e : (45 : UInt8) = x) => hx e.symm
    show ((45 : UInt8) == x && ([] : List UInt8).isPrefixOf s) = false
    rw [h5]; rfl
  exact ⟨hp, by unfold bare Lib.trimPrefix; rw [hp]; rfl⟩

theorem isPos_num {t : List UInt8} (h : isPos t = true) : numZ t = (dec t : Int) ∧ isNum t = true := by
  obtain ⟨h1, h2⟩ := isPos_bare h
  refine ⟨by unfold numZ; rw [h1, h2]; rfl, ?_⟩
  unfold isNum
  unfold bare at h2
  rw [h2, h, Bool.or_true]

theorem isPos_gt {t : List UInt8} (h : isPos t = true) : 0 < dec t ∧ (t ≠ [49] → 1 < dec t) := by
  obtain ⟨x, s, rfl, h1, h2, h3⟩ := isPos_parts h
  rw [dec_cons]
  have h4 : 0 < 10 ^ s.length := Nat.pow_pos (by decide)
  have h5 : 1 * 10 ^ s.length ≤ (x.toNat - 48) * 10 ^ s.length := Nat.mul_le_mul_right _ (by omega)
  refine ⟨by omega, fun hne => ?_⟩
  cases s with
  | nil =>
    have h6 : x.toNat ≠ 49 := fun e => hne (by rw [show x = 49 from UInt8.toNat_inj.1 e])
    simp [dec]
    omega
  | cons y s =>
    have h6 : 10 ^ 1 ≤ 10 ^ (y :: s).length := Nat.pow_le_pow_right (by decide) (by simp)
    omega

theorem OutF.fit {W w' : World} {z : Int} {e : Ending} (h : OutF W z e w') (hf : Fits z) : ∃ neg ao len cap, e = .returned (.tuple #[.agg #[.bool neg, .slice ao len cap], .int .i64 0]) ∧ len ≤ 512 ∧ Z32 w' neg ao len z ∧ Below W.heap.size W w' := by
  rcases h with ⟨_, neg, ao, len, cap, rfl, hz, hb⟩ | ⟨h, _⟩
  · exact ⟨neg, ao, len, cap, rfl, fits_len hz hf, hz, hb⟩
  · exact absurd hf h
theorem OutF.nofit {W w' : World} {z : Int} {e : Ending} (h : OutF W z e w') (hf : ¬ Fits z) : e = .returned (.tuple #[.agg #[.bool false, .slice none 0 0], .int .i64 3]) ∧ Below W.heap.size W w' := by
  rcases h with ⟨h, _⟩ | ⟨_, h⟩
  · exact absurd h hf
  · exact h

def OutRE (W : World) (a : List UInt8) (b : Option (List UInt8)) (e : Ending) (w' : World) : Prop :=
  ∃ na ao la ca bo lb cb er p q, e = .returned (.tuple #[.agg #[.bool na, .slice ao la ca, .slice bo lb cb], .int .i64 er]) ∧ la ≤ 512 ∧ lb ≤ 512 ∧ Q32 w' na ao la bo lb p q ∧ Below W.heap.size W w' ∧ RatSays a b er p q
theorem Q32.zero (w : World) : Q32 w false none 0 none 0 0 1 := ⟨Z32.nil _, .inl ⟨rfl, rfl⟩⟩
end Go.Proofs.YtcgnmihabkgecaaGreat

/- ParseRat. -/
set_option linter.unusedVariables false
namespace Go.Proofs.YtcgnmihabkgecaaGreat
open Go.RowKit Go.Proofs

set_option maxHeartbeats 2000000 in
theorem parseRat_none (a : List UInt8) (W : World) (hl : a.length ≤ 100000000) (hc : 47 ∉ a) :
    Calls Tryz.prog 8 #[.string ⟨a.toArray⟩] W (OutRE W a none) := by
  have hf : Fr W (W.alloc (.cells #[.bool false, .slice none 0 0, .slice none 0 0] 27)) [(27, #[.bool false, .slice none 0 0, .slice none 0 0])] := (Fr.nil W).alloc rfl _ _
  have HF := Lib.hid hf
  clear hf
  go_enter Tryz.func8, Tryz.ntmps8
  go_wp2_with fail
  refine (cut_none a 47 _ hc).mono ?_
  rintro e w1 ⟨rfl, rfl⟩
  go_wp2_with fail
  refine (isNumeral_any a _ (by omega)).mono ?_
  cases hn : isNum a with
  | false =>
    rintro e w1 ⟨rfl, rfl⟩
    have HN := Lib.hid hn
    clear hn
    go_wp2
    exact bodyPost_ret (v := .tuple #[.agg #[.bool false, .slice none 0 0, .slice none 0 0], .int .i64 4]) (by simp [results, Tryz.results8, go_sem]) rfl ⟨false, none, 0, 0, none, 0, 0, 4, 0, 1, rfl, by omega, by omega, Q32.zero _, HF.out.below, .inl ⟨HN.out, rfl, rfl, rfl⟩⟩
  | true =>
    rintro e w1 ⟨rfl, rfl⟩
    by_cases hfit : Fits (numZ a)
    · have HN := Lib.hid hn
      have HFIT := Lib.hid hfit
      go_wp2_with fail
      refine ((readNumeral_any a _ hl hn).mono fun e w h => h.fit hfit).mono ?_
      clear hn hfit
      rintro e w2 ⟨na, ao, la, ca, rfl, hla, hz, hb⟩
      have HF2 := Lib.hid (HF.out.later hb)
      have hf3 : Fr w2 (w2.alloc (.cells #[.bool na, .slice ao la ca] 25)) [(25, #[.bool na, .slice ao la ca])] := (Fr.nil w2).alloc rfl _ _
      have HF3 := Lib.hid (HF2.out.later hf3.below)
      have HZ3 := Lib.hid (hz.keep hf3.below)
      have HG := Lib.hid hf3
      have c0 : (w2.alloc (.cells #[.bool na, .slice ao la ca] 25)).cell? ⟨w2.heap.size, 0, none⟩ = some (.bool na) := hf3.cell 0 0 rfl rfl
      have c1 : (w2.alloc (.cells #[.bool na, .slice ao la ca] 25)).cell? ⟨w2.heap.size, 1, none⟩ = some (.slice ao la ca) := hf3.cell 0 1 rfl rfl
      have g0 : (w2.alloc (.cells #[.bool na, .slice ao la ca] 25)).cell? ⟨W.heap.size, 0, none⟩ = some (.bool false) := HF3.out.cell 0 0 rfl rfl
      have g1 : (w2.alloc (.cells #[.bool na, .slice ao la ca] 25)).cell? ⟨W.heap.size, 1, none⟩ = some (.slice none 0 0) := HF3.out.cell 0 1 rfl rfl
      have g2 : (w2.alloc (.cells #[.bool na, .slice ao la ca] 25)).cell? ⟨W.heap.size, 2, none⟩ = some (.slice none 0 0) := HF3.out.cell 0 2 rfl rfl
      have g3 : (w2.alloc (.cells #[.bool na, .slice ao la ca] 25)).frozen? ⟨W.heap.size, 0, none⟩ = false := HF3.out.frozen 0 0 rfl
      have g4 : (w2.alloc (.cells #[.bool na, .slice ao la ca] 25)).frozen? ⟨W.heap.size, 1, none⟩ = false := HF3.out.frozen 0 1 rfl
      have g5 : (w2.alloc (.cells #[.bool na, .slice ao la ca] 25)).frozen? ⟨W.heap.size, 2, none⟩ = false := HF3.out.frozen 0 2 rfl
      clear hz hb hf3
      go_wp2
      obtain ⟨e0, e1, e2, hq, hbel⟩ := HF3.out.finQ (cap := ca) (bc := 0) (bo := none) (bl := 0) (q := 1) 0 rfl ⟨HZ3.out, .inl ⟨rfl, rfl⟩⟩
      exact bodyPost_ret (v := .tuple #[.agg #[.bool na, .slice ao la ca, .slice none 0 0], .int .i64 0]) (by simp only [Nat.add_zero] at e0 e1 e2; simp [results, Tryz.results8, go_sem, e0, e1, e2]) rfl ⟨na, ao, la, ca, none, 0, 0, 0, numZ a, 1, rfl, hla, by omega, hq, hbel, .inr (.inr (.inr ⟨HN.out, HFIT.out, Nat.gcd_one_right _, rfl, rfl, rfl⟩))⟩
    · have HN := Lib.hid hn
      have HFIT := Lib.hid hfit
      go_wp2_with fail
      refine ((readNumeral_any a _ hl hn).mono fun e w h => h.nofit hfit).mono ?_
      clear hn hfit
      rintro e w2 ⟨rfl, hb⟩
      have HF2 := Lib.hid (HF.out.later hb)
      have hf3 : Fr w2 (w2.alloc (.cells #[.bool false, .slice none 0 0] 25)) [(25, #[.bool false, .slice none 0 0])] := (Fr.nil w2).alloc rfl _ _
      have HF3 := Lib.hid (HF2.out.later hf3.below)
      have g0 : (w2.alloc (.cells #[.bool false, .slice none 0 0] 25)).cell? ⟨W.heap.size, 0, none⟩ = some (.bool false) := HF3.out.cell 0 0 rfl rfl
      have g1 : (w2.alloc (.cells #[.bool false, .slice none 0 0] 25)).cell? ⟨W.heap.size, 1, none⟩ = some (.slice none 0 0) := HF3.out.cell 0 1 rfl rfl
      have g2 : (w2.alloc (.cells #[.bool false, .slice none 0 0] 25)).cell? ⟨W.heap.size, 2, none⟩ = some (.slice none 0 0) := HF3.out.cell 0 2 rfl rfl
      have g3 : (w2.alloc (.cells #[.bool false, .slice none 0 0] 25)).frozen? ⟨W.heap.size, 0, none⟩ = false := HF3.out.frozen 0 0 rfl
      have g4 : (w2.alloc (.cells #[.bool false, .slice none 0 0] 25)).frozen? ⟨W.heap.size, 1, none⟩ = false := HF3.out.frozen 0 1 rfl
      have g5 : (w2.alloc (.cells #[.bool false, .slice none 0 0] 25)).frozen? ⟨W.heap.size, 2, none⟩ = false := HF3.out.frozen 0 2 rfl
      clear hb hf3
      go_wp2
      obtain ⟨e0, e1, e2, hq, hbel⟩ := HF3.out.finQ (cap := 0) (bc := 0) 0 rfl (Q32.zero _)
      exact bodyPost_ret (v := .tuple #[.agg #[.bool false, .slice none 0 0, .slice none 0 0], .int .i64 3]) (by simp only [Nat.add_zero] at e0 e1 e2; simp [results, Tryz.results8, go_sem, e0, e1, e2]) rfl ⟨false, none, 0, 0, none, 0, 0, 3, 0, 1, rfl, by omega, by omega, hq, hbel, .inr (.inl ⟨HN.out, HFIT.out, rfl, rfl, rfl⟩)⟩

set_option maxHeartbeats 4000000 in
theorem parseRat_at (a t : List UInt8) (W : World) (hl : (a ++ 47 :: t).length ≤ 100000000) (hc : 47 ∉ a) :
    Calls Tryz.prog 8 #[.string ⟨(a ++ 47 :: t).toArray⟩] W (OutRE W a (some t)) := by
  have hf : Fr W (W.alloc (.cells #[.bool false, .slice none 0 0, .slice none 0 0] 27)) [(27, #[.bool false, .slice none 0 0, .slice none 0 0])] := (Fr.nil W).alloc rfl _ _
  have HF := Lib.hid hf
  have hla0 : a.length ≤ 100000000 := by simp at hl; omega
  have hlt0 : t.length ≤ 100000000 := by simp at hl; omega
  clear hf
  go_enter Tryz.func8, Tryz.ntmps8
  go_wp2_with fail
  refine (cut_at a t 47 _ hc (by omega)).mono ?_
  rintro e w1 ⟨rfl, hb1⟩
  clear hc hl
  have HF1 := Lib.hid (HF.out.later hb1)
  clear hb1
  have g0 : w1.cell? ⟨W.heap.size, 0, none⟩ = some (.bool false) := HF1.out.cell 0 0 rfl rfl
  have g1 : w1.cell? ⟨W.heap.size, 1, none⟩ = some (.slice none 0 0) := HF1.out.cell 0 1 rfl rfl
  have g2 : w1.cell? ⟨W.heap.size, 2, none⟩ = some (.slice none 0 0) := HF1.out.cell 0 2 rfl rfl
  have gf0 : w1.frozen? ⟨W.heap.size, 0, none⟩ = false := HF1.out.frozen 0 0 rfl
  have gf1 : w1.frozen? ⟨W.heap.size, 1, none⟩ = false := HF1.out.frozen 0 1 rfl
  have gf2 : w1.frozen? ⟨W.heap.size, 2, none⟩ = false := HF1.out.frozen 0 2 rfl
  go_wp2_with fail
  refine (isNumeral_any a _ (by omega)).mono ?_
  cases hn : isNum a with
  | false =>
    rintro e w2 ⟨rfl, rfl⟩
    have HN : Hid (textOk a (some t) = false) := by show (isNum a && (isPos t && decide (t ≠ [49]))) = false; rw [hn]; rfl
    clear hn
    go_wp2
    obtain ⟨e0, e1, e2, hq, hbel⟩ := HF1.out.finQ (cap := 0) (bc := 0) 0 rfl (Q32.zero _)
    exact bodyPost_ret (v := .tuple #[.agg #[.bool false, .slice none 0 0, .slice none 0 0], .int .i64 4]) (by simp only [Nat.add_zero] at e0 e1 e2; simp [results, Tryz.results8, go_sem, e0, e1, e2]) rfl ⟨false, none, 0, 0, none, 0, 0, 4, 0, 1, rfl, by omega, by omega, hq, hbel, .inl ⟨HN.out, rfl, rfl, rfl⟩⟩
  | true =>
    rintro e w2 ⟨rfl, rfl⟩
    go_wp2_with fail
    refine (isPositive_any t _ (by omega)).mono ?_
    cases hp : isPos t with
    | false =>
      rintro e w2 ⟨rfl, rfl⟩
      have HN : Hid (textOk a (some t) = false) := by show (isNum a && (isPos t && decide (t ≠ [49]))) = false; rw [hn, hp]; rfl
      clear hn hp
      go_wp2
      obtain ⟨e0, e1, e2, hq, hbel⟩ := HF1.out.finQ (cap := 0) (bc := 0) 0 rfl (Q32.zero _)
      exact bodyPost_ret (v := .tuple #[.agg #[.bool false, .slice none 0 0, .slice none 0 0], .int .i64 4]) (by simp only [Nat.add_zero] at e0 e1 e2; simp [results, Tryz.results8, go_sem, e0, e1, e2]) rfl ⟨false, none, 0, 0, none, 0, 0, 4, 0, 1, rfl, by omega, by omega, hq, hbel, .inl ⟨HN.out, rfl, rfl, rfl⟩⟩
    | true =>
      rintro e w2 ⟨rfl, rfl⟩
      by_cases h1 : t = [49]
      · have HN : Hid (textOk a (some t) = false) := by show (isNum a && (isPos t && decide (t ≠ [49]))) = false; rw [hn, hp, h1]; rfl
        have h2 : (t == [49]) = true := by simpa using h1
        clear hn hp
        go_wp2
        obtain ⟨e0, e1, e2, hq, hbel⟩ := HF1.out.finQ (cap := 0) (bc := 0) 0 rfl (Q32.zero _)
        exact bodyPost_ret (v := .tuple #[.agg #[.bool false, .slice none 0 0, .slice none 0 0], .int .i64 4]) (by simp only [Nat.add_zero] at e0 e1 e2; simp [results, Tryz.results8, go_sem, e0, e1, e2]) rfl ⟨false, none, 0, 0, none, 0, 0, 4, 0, 1, rfl, by omega, by omega, hq, hbel, .inl ⟨HN.out, rfl, rfl, rfl⟩⟩
      · have HN : Hid (textOk a (some t) = true) := by show (isNum a && (isPos t && decide (t ≠ [49]))) = true; rw [hn, hp, decide_eq_true h1]; rfl
        have h2 : (t == [49]) = false := by simpa using h1
        have hgt : 1 < dec t := (isPos_gt hp).2 h1
        have hz0 := (isPos_num hp).1
        have hnt := (isPos_num hp).2
        have HZT := Lib.hid hz0
        have HGT := Lib.hid hgt
        clear hz0 hgt hp
        by_cases hfa : Fits (numZ a)
        · go_wp2_with fail
          refine ((readNumeral_any a _ hla0 hn).mono fun e w h => h.fit hfa).mono ?_
          rintro e w2 ⟨na, ao, la, ca, rfl, hla, hz, hb⟩
          have HF2 := Lib.hid (HF1.out.later hb)
          have HFA := Lib.hid hfa
          clear hn h1 h2 hfa g0 g1 g2 gf0 gf1 gf2
          obtain ⟨V, hV⟩ : ∃ V, V = w2.alloc (.cells #[.bool na, .slice ao la ca] 25) := ⟨_, rfl⟩
          have hf3 : Fr w2 V [(25, #[.bool na, .slice ao la ca])] := by rw [hV]; exact (Fr.nil w2).alloc rfl _ _
          have HF3 := Lib.hid (HF2.out.later hf3.below)
          have HG3 := Lib.hid hf3
          have HZ3 := Lib.hid (hz.keep hf3.below)
          clear hz hb hf3
          by_cases hft : Fits (numZ t)
          · go_wp2_with fail
            rw [← hV]
            refine ((readNumeral_any t _ hlt0 hnt).mono fun e w h => h.fit hft).mono ?_
            rintro e w4 ⟨nb, bo, lb, cb, rfl, hlb, hz, hb⟩
            have HF4 := Lib.hid (HF3.out.later hb)
            have HG4 := Lib.hid (HG3.out.later hb)
            have HZ4 := Lib.hid (HZ3.out.keep hb)
            have HFT := Lib.hid hft
            clear hV hft hnt
            rw [HZT.out] at hz
            have hf5 : Fr w4 (w4.alloc (.cells #[.bool nb, .slice bo lb cb] 25)) [(25, #[.bool nb, .slice bo lb cb])] := (Fr.nil w4).alloc rfl _ _
            have HF5 := Lib.hid (HF4.out.later hf5.below)
            have HG5 := Lib.hid (HG4.out.later hf5.below)
            have HH5 := Lib.hid hf5
            have HZ5 := Lib.hid (HZ4.out.keep hf5.below)
            have HY5 := Lib.hid (hz.keep hf5.below)
            clear hz hb hf5
            have b1 : (w4.alloc (.cells #[.bool nb, .slice bo lb cb] 25)).cell? ⟨w2.heap.size, 1, none⟩ = some (.slice ao la ca) := HG5.out.cell 0 1 rfl rfl
            have d1 : (w4.alloc (.cells #[.bool nb, .slice bo lb cb] 25)).cell? ⟨w4.heap.size, 1, none⟩ = some (.slice bo lb cb) := HH5.out.cell 0 1 rfl rfl
            go_wp2_with fail
            refine (gcd_ok _ _ _ _ _ _ _ _ _ HZ5.out.n32 HY5.out.n32 (by omega) (by omega)).mono ?_
            rintro e w6 ⟨po, pl, pc, rfl, hg, hb⟩
            rw [Int.natAbs_natCast] at hg
            have hpl : pl ≤ 1000000000 := Nat.le_trans (hg.len_le (Nat.lt_of_le_of_lt (Nat.gcd_le_right _ (by have := HGT.out; omega)) (by have := HY5.out.n32.lt; rwa [Int.natAbs_natCast] at this))) (by omega)
            have HF6 := Lib.hid (HF5.out.later hb)
            have HG6 := Lib.hid (HG5.out.later hb)
            have HH6 := Lib.hid (HH5.out.later hb)
            have HZ6 := Lib.hid (HZ5.out.keep hb)
            have HY6 := Lib.hid (HY5.out.keep hb)
            clear b1 d1 hb
            go_wp2_with fail
            refine (isOne_any _ _ _ _ _ hg hpl).mono ?_
            obtain ⟨g, hgg⟩ : ∃ g, g = Nat.gcd (numZ a).natAbs (dec t) := ⟨_, rfl⟩
            rw [← hgg]
            rintro e w7 ⟨rfl, hw⟩
            obtain rfl : w6 = w7 := hw
            have HGG := Lib.hid hgg
            clear hg hgg
            have b0 : w6.cell? ⟨w2.heap.size, 0, none⟩ = some (.bool na) := HG6.out.cell 0 0 rfl rfl
            have b1 : w6.cell? ⟨w2.heap.size, 1, none⟩ = some (.slice ao la ca) := HG6.out.cell 0 1 rfl rfl
            have d1 : w6.cell? ⟨w4.heap.size, 1, none⟩ = some (.slice bo lb cb) := HH6.out.cell 0 1 rfl rfl
            have g0 : w6.cell? ⟨W.heap.size, 0, none⟩ = some (.bool false) := HF6.out.cell 0 0 rfl rfl
            have g1 : w6.cell? ⟨W.heap.size, 1, none⟩ = some (.slice none 0 0) := HF6.out.cell 0 1 rfl rfl
            have g2 : w6.cell? ⟨W.heap.size, 2, none⟩ = some (.slice none 0 0) := HF6.out.cell 0 2 rfl rfl
            have gf0 : w6.frozen? ⟨W.heap.size, 0, none⟩ = false := HF6.out.frozen 0 0 rfl
            have gf1 : w6.frozen? ⟨W.heap.size, 1, none⟩ = false := HF6.out.frozen 0 1 rfl
            have gf2 : w6.frozen? ⟨W.heap.size, 2, none⟩ = false := HF6.out.frozen 0 2 rfl
            by_cases hg1 : g = 1
            · have hgb : (g == 1) = true := by simpa using hg1
              have HG1 : Hid (Nat.gcd (numZ a).natAbs (denOf (some t)) = 1) := by show Nat.gcd (numZ a).natAbs (dec t) = 1; rw [← HGG.out]; exact hg1
              clear hg1
              go_wp2
              obtain ⟨e0, e1, e2, hq, hbel⟩ := HF6.out.finQ (cap := ca) (bc := cb) 0 rfl ⟨HZ6.out, .inr ⟨(by have := HY6.out.n32; rwa [Int.natAbs_natCast] at this), HGT.out⟩⟩
              exact bodyPost_ret (v := .tuple #[.agg #[.bool na, .slice ao la ca, .slice bo lb cb], .int .i64 0]) (by simp only [Nat.add_zero] at e0 e1 e2; simp [results, Tryz.results8, go_sem, e0, e1, e2]) rfl ⟨na, ao, la, ca, bo, lb, cb, 0, numZ a, dec t, rfl, hla, hlb, hq, hbel, .inr (.inr (.inr ⟨HN.out, ⟨HFA.out, HFT.out⟩, HG1.out, rfl, rfl, rfl⟩))⟩
            · have hgb : (g == 1) = false := by simpa using hg1
              have HG1 : Hid (Nat.gcd (numZ a).natAbs (denOf (some t)) ≠ 1) := by show Nat.gcd (numZ a).natAbs (dec t) ≠ 1; rw [← HGG.out]; exact hg1
              clear hg1
              go_wp2
              obtain ⟨e0, e1, e2, hq, hbel⟩ := HF6.out.finQ (cap := 0) (bc := 0) 0 rfl (Q32.zero _)
              exact bodyPost_ret (v := .tuple #[.agg #[.bool false, .slice none 0 0, .slice none 0 0], .int .i64 4]) (by simp only [Nat.add_zero] at e0 e1 e2; simp [results, Tryz.results8, go_sem, e0, e1, e2]) rfl ⟨false, none, 0, 0, none, 0, 0, 4, 0, 1, rfl, by omega, by omega, hq, hbel, .inr (.inr (.inl ⟨HN.out, ⟨HFA.out, HFT.out⟩, HG1.out, rfl, rfl, rfl⟩))⟩
          · go_wp2_with fail
            rw [← hV]
            refine ((readNumeral_any t _ hlt0 hnt).mono fun e w h => h.nofit hft).mono ?_
            rintro e w4 ⟨rfl, hb⟩
            have HF4 := Lib.hid (HF3.out.later hb)
            have HX : Hid (¬ bothFit a (some t)) := fun h => hft h.2
            clear hV hft hnt
            have hf5 : Fr w4 (w4.alloc (.cells #[.bool false, .slice none 0 0] 25)) [(25, #[.bool false, .slice none 0 0])] := (Fr.nil w4).alloc rfl _ _
            have HF5 := Lib.hid (HF4.out.later hf5.below)
            clear hb hf5
            have g0 : (w4.alloc (.cells #[.bool false, .slice none 0 0] 25)).cell? ⟨W.heap.size, 0, none⟩ = some (.bool false) := HF5.out.cell 0 0 rfl rfl
            have g1 : (w4.alloc (.cells #[.bool false, .slice none 0 0] 25)).cell? ⟨W.heap.size, 1, none⟩ = some (.slice none 0 0) := HF5.out.cell 0 1 rfl rfl
            have g2 : (w4.alloc (.cells #[.bool false, .slice none 0 0] 25)).cell? ⟨W.heap.size, 2, none⟩ = some (.slice none 0 0) := HF5.out.cell 0 2 rfl rfl
            have gf0 : (w4.alloc (.cells #[.bool false, .slice none 0 0] 25)).frozen? ⟨W.heap.size, 0, none⟩ = false := HF5.out.frozen 0 0 rfl
            have gf1 : (w4.alloc (.cells #[.bool false, .slice none 0 0] 25)).frozen? ⟨W.heap.size, 1, none⟩ = false := HF5.out.frozen 0 1 rfl
            have gf2 : (w4.alloc (.cells #[.bool false, .slice none 0 0] 25)).frozen? ⟨W.heap.size, 2, none⟩ = false := HF5.out.frozen 0 2 rfl
            go_wp2
            obtain ⟨e0, e1, e2, hq, hbel⟩ := HF5.out.finQ (cap := 0) (bc := 0) 0 rfl (Q32.zero _)
            exact bodyPost_ret (v := .tuple #[.agg #[.bool false, .slice none 0 0, .slice none 0 0], .int .i64 3]) (by simp only [Nat.add_zero] at e0 e1 e2; simp [results, Tryz.results8, go_sem, e0, e1, e2]) rfl ⟨false, none, 0, 0, none, 0, 0, 3, 0, 1, rfl, by omega, by omega, hq, hbel, .inr (.inl ⟨HN.out, HX.out, rfl, rfl, rfl⟩)⟩
        · go_wp2_with fail
          refine ((readNumeral_any a _ hla0 hn).mono fun e w h => h.nofit hfa).mono ?_
          rintro e w2 ⟨rfl, hb⟩
          have HF2 := Lib.hid (HF1.out.later hb)
          have HX : Hid (¬ bothFit a (some t)) := fun h => hfa h.1
          clear hn h1 h2 hfa hnt g0 g1 g2 gf0 gf1 gf2
          have hf3 : Fr w2 (w2.alloc (.cells #[.bool false, .slice none 0 0] 25)) [(25, #[.bool false, .slice none 0 0])] := (Fr.nil w2).alloc rfl _ _
          have HF3 := Lib.hid (HF2.out.later hf3.below)
          clear hb hf3
          have g0 : (w2.alloc (.cells #[.bool false, .slice none 0 0] 25)).cell? ⟨W.heap.size, 0, none⟩ = some (.bool false) := HF3.out.cell 0 0 rfl rfl
          have g1 : (w2.alloc (.cells #[.bool false, .slice none 0 0] 25)).cell? ⟨W.heap.size, 1, none⟩ = some (.slice none 0 0) := HF3.out.cell 0 1 rfl rfl
          have g2 : (w2.alloc (.cells #[.bool false, .slice none 0 0] 25)).cell? ⟨W.heap.size, 2, none⟩ = some (.slice none 0 0) := HF3.out.cell 0 2 rfl rfl
          have gf0 : (w2.alloc (.cells #[.bool false, .slice none 0 0] 25)).frozen? ⟨W.heap.size, 0, none⟩ = false := HF3.out.frozen 0 0 rfl
          have gf1 : (w2.alloc (.cells #[.bool false, .slice none 0 0] 25)).frozen? ⟨W.heap.size, 1, none⟩ = false := HF3.out.frozen 0 1 rfl
          have gf2 : (w2.alloc (.cells #[.bool false, .slice none 0 0] 25)).frozen? ⟨W.heap.size, 2, none⟩ = false := HF3.out.frozen 0 2 rfl
          go_wp2
          obtain ⟨e0, e1, e2, hq, hbel⟩ := HF3.out.finQ (cap := 0) (bc := 0) 0 rfl (Q32.zero _)
          exact bodyPost_ret (v := .tuple #[.agg #[.bool false, .slice none 0 0, .slice none 0 0], .int .i64 3]) (by simp only [Nat.add_zero] at e0 e1 e2; simp [results, Tryz.results8, go_sem, e0, e1, e2]) rfl ⟨false, none, 0, 0, none, 0, 0, 3, 0, 1, rfl, by omega, by omega, hq, hbel, .inr (.inl ⟨HN.out, HX.out, rfl, rfl, rfl⟩)⟩
end Go.Proofs.YtcgnmihabkgecaaGreat

/- Gcd of the program and of the specification. -/
set_option linter.unusedVariables false
namespace Go.Proofs.YtcgnmihabkgecaaGreat
open Go.RowKit Go.Proofs

theorem fits_gcd {x y : Int} (hx : Fits x) (hy : Fits y) : Fits ((Int.gcd x y : Nat) : Int) := by
  unfold Fits at *
  rw [blen_le] at *
  rw [Int.natAbs_natCast]
  by_cases h : x = 0
  · rw [h, Int.gcd_zero_left]; exact hy
  · exact Nat.lt_of_le_of_lt (Nat.le_of_dvd (by omega) (Nat.gcd_dvd_left _ _)) hx

set_option maxHeartbeats 2000000 in
theorem gcdZ16_any (na nb : Bool) (ao bo : Option Addr) (la lb ca cb : Nat) (x y : Int) (W : World) (ha : Z16 W na ao la x) (hb : Z16 W nb bo lb y) (hla : la ≤ 1000000) (hlb : lb ≤ 1000000) (hac : la ≤ ca) (hacm : ca ≤ 9223372036854775807) (hbc : lb ≤ cb) (hbcm : cb ≤ 9223372036854775807) :
    Calls Tryz.prog 38 #[.agg #[.bool na, .slice ao la ca], .agg #[.bool nb, .slice bo lb cb]] W (OutJ W ((Int.gcd x y : Nat) : Int)) := by
  have hf : Fr W (((W.alloc (.cells #[.bool na, .slice ao la ca] 33)).alloc (.cells #[.bool nb, .slice bo lb cb] 33)).alloc (.cells #[.bool false, .slice none 0 0] 33)) [(33, #[.bool na, .slice ao la ca]), (33, #[.bool nb, .slice bo lb cb]), (33, #[.bool false, .slice none 0 0])] := (((Fr.nil W).alloc rfl _ _).alloc (by simp) _ _).alloc (by simp) _ _
  obtain ⟨m, hm, rfl, hpm⟩ := ha
  obtain ⟨n, hn, rfl, hpn⟩ := hb
  have HGE : Hid (Int.gcd (sgn na m) (sgn nb n) = Nat.gcd m n) := by show _ = _; unfold Int.gcd; rw [sgn_natAbs, sgn_natAbs]
  rw [HGE.out]
  have HM := Lib.hid hm
  have HN := Lib.hid hn
  clear hm hn hpm hpn
  go_enter Tryz.func38, Tryz.ntmps38
  go_wp2_with fail
  obtain ⟨W3, hW3⟩ : ∃ W3, W3 = (((W.alloc (.cells #[.bool na, .slice ao la ca] 33)).alloc (.cells #[.bool nb, .slice bo lb cb] 33)).alloc (.cells #[.bool false, .slice none 0 0] 33)) := ⟨_, rfl⟩
  rw [← hW3] at hf ⊢
  clear hW3
  have HF := Lib.hid hf
  clear hf
  refine (gcd16_any _ _ _ _ _ _ m n _ (HM.out.keep HF.out.below) (HN.out.keep HF.out.below) (by omega) (by omega) hac hacm hbc hbcm).mono ?_
  rintro e w1 ⟨go, gl, gc, rfl, hglc, hgcm, hg1, hb1⟩
  have HF1 := Lib.hid (HF.out.later hb1)
  have HG1 := Lib.hid hg1
  clear hg1 hb1
  go_wp2_with fail
  refine (made_any _ _ _ _ _ _ HG1.out hglc hgcm).mono ?_
  rintro e w2 ⟨neg, uo, ul, uc, rfl, huc, hum, hz2, hb2⟩
  have HF2 := Lib.hid (HF1.out.later hb2)
  have HZ2 := Lib.hid hz2
  clear hz2 hb2
  have g0 : w2.cell? ⟨W.heap.size + 1 + 1, 0, none⟩ = some (.bool false) := HF2.out.cell 2 0 rfl rfl
  have g1 : w2.cell? ⟨W.heap.size + 1 + 1, 1, none⟩ = some (.slice none 0 0) := HF2.out.cell 2 1 rfl rfl
  have g2 : w2.frozen? ⟨W.heap.size + 1 + 1, 0, none⟩ = false := HF2.out.frozen 2 0 rfl
  have g3 : w2.frozen? ⟨W.heap.size + 1 + 1, 1, none⟩ = false := HF2.out.frozen 2 1 rfl
  go_wp2
  obtain ⟨e0, e1, hz, hbel, _⟩ := HF2.out.finJ (cap := uc) 2 rfl HZ2.out
  exact bodyPost_ret (v := .agg #[.bool neg, .slice uo ul uc]) (by simp [results, Tryz.results38, go_sem, e0, e1]) rfl ⟨neg, uo, ul, uc, rfl, huc, hum, hz, hbel⟩
end Go.Proofs.YtcgnmihabkgecaaGreat
