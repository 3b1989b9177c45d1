/- Part 19 of the contracts: RefDecP. -/
import Derived.Test.YtcgnmihabkgecaaGreatPart18

/- The specification's ParseDecimal. -/
set_option linter.unusedVariables false
set_option linter.unusedSimpArgs false
namespace Go.Proofs.YtcgnmihabkgecaaGreat
open Go.RowKit Go.Proofs

def DecJ (W : World) (neg : Bool) (a : List UInt8) (b : Option (List UInt8)) (e : Ending) (w' : World) : Prop :=
  ∃ s1 o1 l1 c1 s2 o2 l2 c2 er p q, e = .returned (.tuple #[.agg #[.bool s1, .slice o1 l1 c1, .bool s2, .slice o2 l2 c2], .int .i64 er]) ∧ Below W.heap.size W w' ∧ DecSays neg a b er p q ∧
    (er = 0 → l1 ≤ 1024 ∧ l2 ≤ 1024 ∧ Z16 w' s1 o1 l1 p ∧ Z16 w' s2 o2 l2 (q : Int))

def is0 (c : UInt8) : Bool := c == 48
theorem dec_zero {xs : List UInt8} (h : xs.all isDig = true) : (dec xs = 0) ↔ xs.all is0 = true := by
  induction xs with
  | nil => simp [dec]
  | cons x t ih =>
    rw [List.all_cons, Bool.and_eq_true] at h
    have h2 : 48 ≤ x.toNat ∧ x.toNat ≤ 57 := by simpa [isDig] using h.1
    rw [dec_cons, List.all_cons, Bool.and_eq_true, ← ih h.2]
    have h3 : 0 < 10 ^ t.length := Nat.pow_pos (by decide)
    constructor
    · intro h4
      have h5 : (x.toNat - 48) * 10 ^ t.length = 0 := by omega
      have h6 : x.toNat - 48 = 0 := (Nat.mul_eq_zero.1 h5).resolve_right (by omega)
      have h7 : x = 48 := UInt8.toNat_inj.1 (show x.toNat = 48 by omega)
      exact ⟨by rw [h7]; rfl, by omega⟩
    · rintro ⟨h4, h5⟩
      have h6 : x = 48 := by simpa [is0] using h4
      rw [h6, h5]; simp

theorem decN_zero {a : List UInt8} {b : Option (List UInt8)} (h : okDec a b = true) : (decide (a = [48]) && (partOf b).all is0) = decide (decN a b = 0) := by
  have hd := (ok_digits h).1
  have h1 : decN a b = 0 ↔ (a ++ partOf b).all is0 = true := dec_zero hd
  rw [List.all_append, Bool.and_eq_true] at h1
  unfold okDec at h
  rw [Bool.and_eq_true, Bool.or_eq_true] at h
  have h2 : a.all is0 = true ↔ a = [48] := by
    constructor
    · intro h3
      rcases h.1 with h4 | h4
      · exact of_decide_eq_true h4
      · have := (isPos_gt h4).1
        rw [List.all_append, Bool.and_eq_true] at hd
        have := (dec_zero hd.1).2 h3
        omega
    · rintro rfl; rfl
  rw [Bool.eq_iff_iff, Bool.and_eq_true, decide_eq_true_iff, decide_eq_true_iff, h1, h2]

theorem numB_ok {a : List UInt8} {b : Option (List UInt8)} : okDec a b = (numB a && okPart b) := by unfold okDec; rw [numB_eq]


set_option maxRecDepth 4000 in
set_option maxHeartbeats 16000000 in
theorem refDec_pos_some (a u : List UInt8) (W : World) (hl : (dotText a (some u)).length ≤ 10000000) (hc : 46 ∉ a) (hp : Lib.hasPrefix (dotText a (some u)) [45] = false) (hne : dotText a (some u) ≠ []) :
    Calls Tryz.prog 13 #[.string ⟨(dotText a (some u)).toArray⟩] W (DecJ W false a (some u)) := by
  have hf : Fr W (W.alloc (.cells #[.bool false, .slice none 0 0, .bool false, .slice none 0 0] 35)) [(35, #[.bool false, .slice none 0 0, .bool false, .slice none 0 0])] := (Fr.nil W).alloc rfl _ _
  have HF := Lib.hid hf
  have hl1 := dotText_len a (some u)
  have hla0 : a.length ≤ 10000000 := by omega
  have hlu0 : u.length ≤ 10000000 := Nat.le_trans hl1.2 hl
  obtain ⟨ys, hys⟩ : ∃ ys, ys = dotText a (some u) := ⟨_, rfl⟩
  obtain ⟨n, hn⟩ : ∃ n, n = a.length := ⟨_, rfl⟩
  have hlen : n + 1 + u.length = ys.length := by rw [hys, hn]; simp [dotText]; omega
  have hA : (⟨ys.toArray⟩ : ByteArray).extract 0 n = ⟨a.toArray⟩ := by rw [str_take ys n (by omega), hys, hn]; simp [dotText]
  have hB : (⟨ys.toArray⟩ : ByteArray).extract (n + 1) ys.length = ⟨u.toArray⟩ := by rw [str_drop, hys, hn]; simp [dotText]
  have HNE : Hid (∀ k (h : k < ys.length), k < n → ys[k].toNat ≠ 46) := by
    intro k h hk e
    have h2 : ys[k] = a[k]'(by omega) := by subst hys; simp only [dotText]; rw [List.getElem_append_left]
    exact hc (by rw [← show ys[k] = 46 from UInt8.toNat_inj.1 e, h2]; exact List.getElem_mem _)
  have HEQ : Hid (∀ h : n < ys.length, ys[n] = 46) := by
    intro h
    subst hys hn
    simp only [dotText]
    rw [List.getElem_append_right (by omega)]
    simp
  obtain ⟨x, tl, hxt⟩ : ∃ x tl, ys = x :: tl := by
    cases h : ys with
    | nil => exact absurd (hys.symm.trans h) hne
    | cons x tl => exact ⟨x, tl, rfl⟩
  rw [← hys] at hl hp ⊢
  have h00 : 0 < ys.length := by rw [hxt]; simp
  have hs0 : 0 < (⟨ys.toArray⟩ : ByteArray).size := by rw [str_size]; exact h00
  have hx1 : x ≠ 45 := fun e => by rw [hxt, e] at hp; exact absurd hp (by show ¬ ((45 : UInt8) == 45 && ([] : List UInt8).isPrefixOf tl) = false; simp)
  have hx0 : ((⟨ys.toArray⟩ : ByteArray)[0]'hs0).toNat ≠ 45 := by show ys[0].toNat ≠ 45; subst hxt; exact fun e => hx1 (UInt8.toNat_inj.1 e)
  have t0 : (0 : Int) < (ys.length : Int) := by omega
  have t1 : (((((⟨ys.toArray⟩ : ByteArray)[0]'hs0).toNat : Nat) : Int) == 45) = false := by simp; omega
  clear hxt hx0 hx1 hp hne
  have HNA := Lib.hid hn
  clear hf hc hys hn hl1
  go_enter Tryz.func13, Tryz.ntmps13
  go_wp2_with fail
  go_loop [5] (fun v => ∃ k : Nat, k ≤ n ∧ v = .int .i64 k) (fun v => ys.length - (intOf v).toNat)
  case atStart => exact ⟨0, by omega, rfl⟩
  case round =>
    obtain ⟨k, hk, rfl⟩ := hrel
    by_cases hlt : k < n
    · have u1 : (k : Int) < (ys.length : Int) := by omega
      have hs : k < (⟨ys.toArray⟩ : ByteArray).size := by rw [str_size]; omega
      have h7 := HNE.out k (by omega) hlt
      have u2 : ¬ ((((⟨ys.toArray⟩ : ByteArray)[k]'hs).toNat : Nat) : Int) = 46 := by show ¬ ((ys[k].toNat : Nat) : Int) = 46; omega
      have u3 : (((((⟨ys.toArray⟩ : ByteArray)[k]'hs).toNat : Nat) : Int) == 46) = false := by simpa using u2
      have u4 : (((((⟨ys.toArray⟩ : ByteArray)[k]'hs).toNat : Nat) : Int) != 46) = true := by simpa using u2
      clear h7
      go_wp2
      go_round
      case rel => exact ⟨k + 1, by omega, by go_num⟩
      case measure => simp [intOf]; omega
    · obtain rfl : k = n := by omega
      have u8 : (k : Int) ≤ (ys.length : Int) := by omega
      have u1 : (k : Int) < (ys.length : Int) := by omega
      have hs : k < (⟨ys.toArray⟩ : ByteArray).size := by rw [str_size]; omega
      have h7 : ys[k]'(by omega) = 46 := HEQ.out (by omega)
      have u2 : ((((⟨ys.toArray⟩ : ByteArray)[k]'hs).toNat : Nat) : Int) = 46 := by show ((ys[k].toNat : Nat) : Int) = 46; rw [h7]; rfl
      have u3 : (((((⟨ys.toArray⟩ : ByteArray)[k]'hs).toNat : Nat) : Int) == 46) = true := by simpa using u2
      have u4 : (((((⟨ys.toArray⟩ : ByteArray)[k]'hs).toNat : Nat) : Int) != 46) = false := by simpa using u2
      have u6 : (0 : Int) ≤ (k : Int) + 1 := by omega
      have u7 : (k : Int) + 1 ≤ (ys.length : Int) := by omega
      clear hlt hk h7 u2
      by_cases hu0 : u.length = 0
      · have HE : Hid (okDec a (some u) = false) := by
          have h1 : u = [] := List.eq_nil_of_length_eq_zero hu0
          show _ = _; rw [numB_ok, h1]; show (numB a && (hasDigs [] && decide (([] : List UInt8).length ≤ 64))) = false; rw [show hasDigs [] = false from rfl, Bool.false_and, Bool.and_false]
        have w1 : (u.length : Int) < 1 := by omega
        go_wp2
        exact bodyPost_ret (v := .tuple #[.agg #[.bool false, .slice none 0 0, .bool false, .slice none 0 0], .int .i64 4]) (by simp [results, Tryz.results13, go_sem]) rfl ⟨false, none, 0, 0, false, none, 0, 0, 4, 0, 1, rfl, HF.out.below, .inl ⟨.inl HE.out, rfl, rfl, rfl⟩, fun h => absurd h (by decide)⟩
      by_cases hu64 : 64 < u.length
      · have HE : Hid (okDec a (some u) = false) := by
          show _ = _; rw [numB_ok]; show (numB a && (hasDigs u && decide (u.length ≤ 64))) = false; rw [decide_eq_false (by omega), Bool.and_false, Bool.and_false]
        have w1 : ¬ (u.length : Int) < 1 := by omega
        have w2 : (64 : Int) < (u.length : Int) := by omega
        go_wp2
        exact bodyPost_ret (v := .tuple #[.agg #[.bool false, .slice none 0 0, .bool false, .slice none 0 0], .int .i64 4]) (by simp [results, Tryz.results13, go_sem]) rfl ⟨false, none, 0, 0, false, none, 0, 0, 4, 0, 1, rfl, HF.out.below, .inl ⟨.inl HE.out, rfl, rfl, rfl⟩, fun h => absurd h (by decide)⟩
      have w1 : ¬ (u.length : Int) < 1 := by omega
      have w2 : ¬ (64 : Int) < (u.length : Int) := by omega
      go_wp2_with fail
      refine (digits16_any u _ (by omega)).mono ?_
      cases hd : u.all isDig with
      | false =>
        rintro e v1 ⟨rfl, rfl⟩
        have HE : Hid (okDec a (some u) = false) := by
          show _ = _; rw [numB_ok]; show (numB a && ((u.all isDig && decide (u ≠ [])) && decide (u.length ≤ 64))) = false; rw [hd, Bool.false_and, Bool.false_and, Bool.and_false]
        clear hd
        go_wp2
        exact bodyPost_ret (v := .tuple #[.agg #[.bool false, .slice none 0 0, .bool false, .slice none 0 0], .int .i64 4]) (by simp [results, Tryz.results13, go_sem]) rfl ⟨false, none, 0, 0, false, none, 0, 0, 4, 0, 1, rfl, HF.out.below, .inl ⟨.inl HE.out, rfl, rfl, rfl⟩, fun h => absurd h (by decide)⟩
      | true =>
        rintro e v1 ⟨rfl, rfl⟩
        have HPART : Hid (okPart (some u) = true) := by
          show ((u.all isDig && decide (u ≠ [])) && decide (u.length ≤ 64)) = true
          have hne : u ≠ [] := fun e => hu0 (by rw [e]; rfl)
          have h64 : u.length ≤ 64 := by omega
          rw [hd, decide_eq_true hne, decide_eq_true h64]; rfl
        clear hd
        go_wp2_with fail
        refine (numeral16_any a _ (by omega)).mono ?_
        cases hnb : numB a with
        | false =>
          rintro e v2 ⟨rfl, rfl⟩
          have HE : Hid (okDec a (some u) = false) := by show _ = _; rw [numB_ok, hnb, Bool.false_and]
          clear hnb
          go_wp2
          exact bodyPost_ret (v := .tuple #[.agg #[.bool false, .slice none 0 0, .bool false, .slice none 0 0], .int .i64 4]) (by simp [results, Tryz.results13, go_sem]) rfl ⟨false, none, 0, 0, false, none, 0, 0, 4, 0, 1, rfl, HF.out.below, .inl ⟨.inl HE.out, rfl, rfl, rfl⟩, fun h => absurd h (by decide)⟩
        | true =>
          rintro e v2 ⟨rfl, rfl⟩
          have HOKD : Hid (okDec a (some u) = true) := by show _ = _; rw [numB_ok, hnb, HPART.out]; rfl
          obtain ⟨z0, hz0⟩ : ∃ z0, z0 = decide (a = [48]) := ⟨_, rfl⟩
          have HZ0 := Lib.hid hz0
          have t9 : (a == [48]) = z0 := by
            rw [hz0]
            by_cases h : a = [48]
            · rw [decide_eq_true h]; exact beq_iff_eq.2 h
            · rw [decide_eq_false h]; exact beq_eq_false_iff_ne.2 h
          have hane : 0 < ys.length := by
            have h1 : a ≠ [] := fun e => by rw [e] at hnb; exact absurd hnb (by decide)
            have h2 : 0 < a.length := Nat.pos_of_ne_zero fun e => h1 (List.eq_nil_of_length_eq_zero e)
            have h3 := HNA.out
            omega
          clear hnb hz0
          go_wp2_with fail
          go_loop [8, 9] (fun zv iv => ∃ i : Nat, i ≤ u.length ∧ iv = .int .i64 i ∧ zv = .bool (z0 && (u.take i).all is0)) (fun _ iv => u.length - (intOf iv).toNat)
          case atStart => exact ⟨0, by omega, rfl, by simp⟩
          case round =>
            obtain ⟨i, hi, rfl, rfl⟩ := hrel
            obtain ⟨z, hz⟩ : ∃ z, z = (z0 && (u.take i).all is0) := ⟨_, rfl⟩
            rw [← hz]
            by_cases hiu : i < u.length
            · have v1 : (i : Int) < (u.length : Int) := by omega
              have hsu : i < (⟨u.toArray⟩ : ByteArray).size := by rw [str_size]; exact hiu
              have hstep : (z0 && (u.take (i + 1)).all is0) = (z && is0 u[i]) := by
                rw [List.take_succ_eq_append_getElem hiu, List.all_append, ← Bool.and_assoc, ← hz]; simp
              have HSTEP := Lib.hid hstep
              obtain ⟨d, hd⟩ : ∃ d, d = is0 u[i] := ⟨_, rfl⟩
              have v2 : (((((⟨u.toArray⟩ : ByteArray)[i]'hsu).toNat : Nat) : Int) == 48) = d := by
                show (((u[i].toNat : Nat) : Int) == 48) = d
                rw [hd]; unfold is0
                by_cases h : u[i] = 48
                · rw [h]; rfl
                · have h2 : u[i].toNat ≠ 48 := fun e => h (UInt8.toNat_inj.1 e)
                  rw [beq_eq_false_iff_ne.2 h]; exact beq_eq_false_iff_ne.2 (by omega)
              have HD := Lib.hid hd
              clear hstep hd hz
              cases z with
              | false =>
                go_wp2
                go_round
                case rel => exact ⟨i + 1, by omega, by go_num, by rw [HSTEP.out]; rfl⟩
                case measure => simp [intOf]; omega
              | true =>
                go_wp2
                go_round
                case rel => exact ⟨i + 1, by omega, by go_num, by rw [HSTEP.out, ← HD.out]; rfl⟩
                case measure => simp [intOf]; omega
            · have v1 : ¬ (i : Int) < (u.length : Int) := by omega
              have HZ : Hid (z = decide (decN a (some u) = 0)) := by
                show _ = _
                rw [← decN_zero HOKD.out, hz, HZ0.out]
                show _ = (decide (a = [48]) && u.all is0)
                rw [List.take_of_length_le (by omega)]
              clear hz t9 hiu
              have HNZ : Hid (¬ (false = true ∧ decN a (some u) = 0)) := fun h => absurd h.1 (by decide)
              by_cases hlong : 5000 < k
              · have v3 : (5000 : Int) < (k : Int) := by omega
                have HLONG := Lib.hid (long_dec false HOKD.out (by have := HNA.out; omega))
                clear hlong
                go_wp2
                exact bodyPost_ret (v := .tuple #[.agg #[.bool false, .slice none 0 0, .bool false, .slice none 0 0], .int .i64 3]) (by simp [results, Tryz.results13, go_sem]) rfl ⟨false, none, 0, 0, false, none, 0, 0, 3, 0, 1, rfl, HF.out.below, .inr ⟨HOKD.out, HLONG.out.1, .inr ⟨HLONG.out.2, rfl, rfl, rfl⟩⟩, fun h => absurd h (by decide)⟩
              have v3 : ¬ (5000 : Int) < (k : Int) := by omega
              have v4 : (0 : Int) < (ys.length : Int) := by omega
              have v5 : ¬ 9223372036854775807 < a.length + u.length := by omega
              go_wp2_with fail
              rw [bytes_append]
              have hf2 : Fr W ((W.alloc (.cells #[.bool false, .slice none 0 0, .bool false, .slice none 0 0] 35)).alloc (.cells #[.bool false, .slice none 0 0] 33)) [(35, #[.bool false, .slice none 0 0, .bool false, .slice none 0 0]), (33, #[.bool false, .slice none 0 0])] := ((Fr.nil W).alloc rfl _ _).alloc (by simp) _ _
              have HF2 := Lib.hid hf2
              have hdg : (a ++ u).all isDig = true := (ok_digits HOKD.out).1
              have hna := HNA.out
              have hlen5 : (a ++ u).length ≤ 5064 := by rw [List.length_append]; (try simp only [List.length_nil]); omega
              have HDG := Lib.hid hdg
              clear hf2 hdg hna
              refine (long16_any (a ++ u) _ (by omega) HDG.out).mono ?_
              rintro e v5 ⟨n1, o1, l1, c1, rfl, hc1, hm1, hz, hb⟩
              have HF5 := Lib.hid (HF2.out.later hb)
              have HZ5 := Lib.hid hz
              clear hb hz
              have b0 : v5.cell? ⟨W.heap.size + 1, 0, none⟩ = some (.bool false) := HF5.out.cell 1 0 rfl rfl
              have b1 : v5.cell? ⟨W.heap.size + 1, 1, none⟩ = some (.slice none 0 0) := HF5.out.cell 1 1 rfl rfl
              have bf0 : v5.frozen? ⟨W.heap.size + 1, 0, none⟩ = false := HF5.out.frozen 1 0 rfl
              have bf1 : v5.frozen? ⟨W.heap.size + 1, 1, none⟩ = false := HF5.out.frozen 1 1 rfl
              go_wp2_with fail
              obtain ⟨_, _, hz6, _, hfr6⟩ := HF5.out.finJ (cap := c1) 1 rfl HZ5.out
              obtain ⟨V, hV⟩ : ∃ V, V = (v5.setCell ⟨W.heap.size + 1, 0, none⟩ (.bool n1)).setCell ⟨W.heap.size + 1, 1, none⟩ (.slice o1 l1 c1) := ⟨_, rfl⟩
              have hfV : Fr W V [(35, #[.bool false, .slice none 0 0, .bool false, .slice none 0 0]), (33, #[.bool n1, .slice o1 l1 c1])] := by rw [hV]; exact hfr6
              have HFV := Lib.hid hfV
              have hzV : Z16 V n1 o1 l1 (dec (a ++ u) : Int) := by rw [hV]; exact hz6
              have HZV := Lib.hid hzV.n16
              rw [← hV]
              clear hV hfV hzV hz6 hfr6 b0 b1 bf0 bf1
              refine (made_any false _ _ _ (dec (a ++ u)) _ (by have := HZV.out; rwa [Int.natAbs_natCast] at this) hc1 hm1).mono ?_
              rintro e v6 ⟨n2, o2, l2, c2, rfl, hc2, hm2, hz, hb⟩
              have hl2 : l2 ≤ 5064 := by
                have h1 := hz.n16
                rw [sgn_natAbs] at h1
                exact Nat.le_trans (h1.len_le (dec_lt16 HDG.out)) hlen5
              have HF6 := Lib.hid (HFV.out.later hb)
              have HZ6 := Lib.hid hz
              clear hb hz
              go_wp2_with fail
              refine (ten_any _ u.length _ rfl (by omega)).mono ?_
              rintro e v7 ⟨n3, o3, l3, c3, rfl, hc3, hm3, hz, hb⟩
              have hl3 : l3 ≤ 14 := hz.n16.len_le (ten_lt (by omega))
              have hzd : Z16 v7 n3 o3 l3 (decD (some u)) := hz
              have HF7 := Lib.hid (HF6.out.later hb)
              have HZ7 := Lib.hid (HZ6.out.keep hb)
              have HY7 := Lib.hid hzd
              clear hb hz hzd
              go_wp2_with fail
              refine (low_B _ _ _ _ _ _ _ _ (sgn false (decN a (some u))) (decD (some u)) _ HZ7.out HY7.out (by omega) (by omega) hc2 hm2 hc3 hm3 (decD_ne (some u))).mono ?_
              rintro e v8 ⟨n7, o7, l7, c7, n8, o8, l8, c8, rfl, hB1, hB2, hk1, hd1, hk2, hd2, hzp, hzq, hb⟩
              have HF8 := Lib.hid (HF7.out.later hb)
              obtain ⟨P, hP⟩ : ∃ P, P = lowP (sgn false (decN a (some u))) (decD (some u)) := ⟨_, rfl⟩
              obtain ⟨Q, hQ⟩ : ∃ Q, Q = lowQ (sgn false (decN a (some u))) (decD (some u)) := ⟨_, rfl⟩
              rw [← hP] at hzp
              rw [← hQ] at hzq
              have hf9 : Fr v8 (v8.alloc (.cells #[.bool n7, .slice o7 l7 c7, .bool n8, .slice o8 l8 c8] 35)) [(35, #[.bool n7, .slice o7 l7 c7, .bool n8, .slice o8 l8 c8])] := (Fr.nil v8).alloc rfl _ _
              have HF9 := Lib.hid (HF8.out.later hf9.below)
              have HG9 := Lib.hid hf9
              have HP9 := Lib.hid (hzp.keep hf9.below)
              have HQ9 := Lib.hid (hzq.keep hf9.below)
              have HP := Lib.hid hP
              have HQ := Lib.hid hQ
              clear hb hf9 hzp hzq hP hQ
              have q0 : (v8.alloc (.cells #[.bool n7, .slice o7 l7 c7, .bool n8, .slice o8 l8 c8] 35)).cell? ⟨v8.heap.size, 0, none⟩ = some (.bool n7) := HG9.out.cell 0 0 rfl rfl
              have q1 : (v8.alloc (.cells #[.bool n7, .slice o7 l7 c7, .bool n8, .slice o8 l8 c8] 35)).cell? ⟨v8.heap.size, 1, none⟩ = some (.slice o7 l7 c7) := HG9.out.cell 0 1 rfl rfl
              have q2 : (v8.alloc (.cells #[.bool n7, .slice o7 l7 c7, .bool n8, .slice o8 l8 c8] 35)).cell? ⟨v8.heap.size, 2, none⟩ = some (.bool n8) := HG9.out.cell 0 2 rfl rfl
              have q3 : (v8.alloc (.cells #[.bool n7, .slice o7 l7 c7, .bool n8, .slice o8 l8 c8] 35)).cell? ⟨v8.heap.size, 3, none⟩ = some (.slice o8 l8 c8) := HG9.out.cell 0 3 rfl rfl
              go_wp2_with fail
              by_cases hfit : FitsQ P Q
              · have HFIT := Lib.hid hfit
                refine ((refFitsQ_any _ _ _ _ _ _ _ _ P Q _ HP9.out HQ9.out (by omega) (by omega)).mono fun e w h => (⟨(h.1.resolve_right fun k => k.1 hfit).2, h.2⟩ : e = .returned (.bool true) ∧ _)).mono ?_
                rintro e v10 ⟨rfl, hb⟩
                have HF10 := Lib.hid (HF9.out.later hb)
                have HG10 := Lib.hid (HG9.out.later hb)
                have HP10 := Lib.hid (HP9.out.keep hb)
                have HQ10 := Lib.hid (HQ9.out.keep hb)
                clear hb hfit q0 q1 q2 q3
                have q0 : v10.cell? ⟨v8.heap.size, 0, none⟩ = some (.bool n7) := HG10.out.cell 0 0 rfl rfl
                have q1 : v10.cell? ⟨v8.heap.size, 1, none⟩ = some (.slice o7 l7 c7) := HG10.out.cell 0 1 rfl rfl
                have q2 : v10.cell? ⟨v8.heap.size, 2, none⟩ = some (.bool n8) := HG10.out.cell 0 2 rfl rfl
                have q3 : v10.cell? ⟨v8.heap.size, 3, none⟩ = some (.slice o8 l8 c8) := HG10.out.cell 0 3 rfl rfl
                have g0 : v10.cell? ⟨W.heap.size, 0, none⟩ = some (.bool false) := HF10.out.cell 0 0 rfl rfl
                have g1 : v10.cell? ⟨W.heap.size, 1, none⟩ = some (.slice none 0 0) := HF10.out.cell 0 1 rfl rfl
                have g2 : v10.cell? ⟨W.heap.size, 2, none⟩ = some (.bool false) := HF10.out.cell 0 2 rfl rfl
                have g3 : v10.cell? ⟨W.heap.size, 3, none⟩ = some (.slice none 0 0) := HF10.out.cell 0 3 rfl rfl
                have gf0 : v10.frozen? ⟨W.heap.size, 0, none⟩ = false := HF10.out.frozen 0 0 rfl
                have gf1 : v10.frozen? ⟨W.heap.size, 1, none⟩ = false := HF10.out.frozen 0 1 rfl
                have gf2 : v10.frozen? ⟨W.heap.size, 2, none⟩ = false := HF10.out.frozen 0 2 rfl
                have gf3 : v10.frozen? ⟨W.heap.size, 3, none⟩ = false := HF10.out.frozen 0 3 rfl
                go_wp2
                obtain ⟨e0, e1, e2, e3, k1, k2, hbel⟩ := HF10.out.finK (c1 := c7) (c2 := c8) 0 rfl HP10.out HQ10.out
                exact bodyPost_ret (v := .tuple #[.agg #[.bool n7, .slice o7 l7 c7, .bool n8, .slice o8 l8 c8], .int .i64 0]) (by simp only [Nat.add_zero] at e0 e1 e2 e3; simp [results, Tryz.results13, go_sem, e0, e1, e2, e3]) rfl ⟨n7, o7, l7, c7, n8, o8, l8, c8, 0, P, Q, rfl, hbel, .inr ⟨HOKD.out, HNZ.out, .inl ⟨by rw [← HP.out, ← HQ.out]; exact HFIT.out, rfl, HP.out, HQ.out⟩⟩, fun _ => ⟨fits_len16 HP10.out HFIT.out.1, fits_len16 HQ10.out ((fits_cast _).2 HFIT.out.2), k1, k2⟩⟩
              · have HFIT := Lib.hid hfit
                refine ((refFitsQ_any _ _ _ _ _ _ _ _ P Q _ HP9.out HQ9.out (by omega) (by omega)).mono fun e w h => (⟨(h.1.resolve_left fun k => hfit k.1).2, h.2⟩ : e = .returned (.bool false) ∧ _)).mono ?_
                rintro e v10 ⟨rfl, hb⟩
                have HF10 := Lib.hid (HF9.out.later hb)
                clear hb hfit q0 q1 q2 q3
                have g0 : v10.cell? ⟨W.heap.size, 0, none⟩ = some (.bool false) := HF10.out.cell 0 0 rfl rfl
                have g1 : v10.cell? ⟨W.heap.size, 1, none⟩ = some (.slice none 0 0) := HF10.out.cell 0 1 rfl rfl
                have g2 : v10.cell? ⟨W.heap.size, 2, none⟩ = some (.bool false) := HF10.out.cell 0 2 rfl rfl
                have g3 : v10.cell? ⟨W.heap.size, 3, none⟩ = some (.slice none 0 0) := HF10.out.cell 0 3 rfl rfl
                have gf0 : v10.frozen? ⟨W.heap.size, 0, none⟩ = false := HF10.out.frozen 0 0 rfl
                have gf1 : v10.frozen? ⟨W.heap.size, 1, none⟩ = false := HF10.out.frozen 0 1 rfl
                have gf2 : v10.frozen? ⟨W.heap.size, 2, none⟩ = false := HF10.out.frozen 0 2 rfl
                have gf3 : v10.frozen? ⟨W.heap.size, 3, none⟩ = false := HF10.out.frozen 0 3 rfl
                go_wp2
                obtain ⟨e0, e1, e2, e3, k1, k2, hbel⟩ := HF10.out.finK (c1 := 0) (c2 := 0) 0 rfl (Z16.nil _) (Z16.nil _)
                exact bodyPost_ret (v := .tuple #[.agg #[.bool false, .slice none 0 0, .bool false, .slice none 0 0], .int .i64 3]) (by simp only [Nat.add_zero] at e0 e1 e2 e3; simp [results, Tryz.results13, go_sem, e0, e1, e2, e3]) rfl ⟨false, none, 0, 0, false, none, 0, 0, 3, 0, 1, rfl, hbel, .inr ⟨HOKD.out, HNZ.out, .inr ⟨by rw [← HP.out, ← HQ.out]; exact HFIT.out, rfl, rfl, rfl⟩⟩, fun h => absurd h (by decide)⟩

set_option maxRecDepth 4000 in
set_option maxHeartbeats 16000000 in
theorem refDec_pos_none (a : List UInt8) (W : World) (hl : (dotText a none).length ≤ 10000000) (hc : 46 ∉ a) (hp : Lib.hasPrefix (dotText a none) [45] = false) (hne : dotText a none ≠ []) :
    Calls Tryz.prog 13 #[.string ⟨(dotText a none).toArray⟩] W (DecJ W false a none) := by
  have hf : Fr W (W.alloc (.cells #[.bool false, .slice none 0 0, .bool false, .slice none 0 0] 35)) [(35, #[.bool false, .slice none 0 0, .bool false, .slice none 0 0])] := (Fr.nil W).alloc rfl _ _
  have HF := Lib.hid hf
  have hl1 := dotText_len a none
  have hla0 : a.length ≤ 10000000 := by omega
  obtain ⟨ys, hys⟩ : ∃ ys, ys = dotText a none := ⟨_, rfl⟩
  obtain ⟨n, hn⟩ : ∃ n, n = a.length := ⟨_, rfl⟩
  have hlen : n ≤ ys.length ∧ ys.length ≤ n := by rw [hys, hn]; exact ⟨Nat.le_refl _, Nat.le_refl _⟩
  have hA : (⟨ys.toArray⟩ : ByteArray).extract 0 n = ⟨a.toArray⟩ := by rw [str_take ys n (by omega), hys, hn]; simp [dotText]
  have HNE : Hid (∀ k (h : k < ys.length), k < n → ys[k].toNat ≠ 46) := by
    intro k h hk e
    have h2 : ys[k] = a[k]'(by omega) := by subst hys; rfl
    exact hc (by rw [← show ys[k] = 46 from UInt8.toNat_inj.1 e, h2]; exact List.getElem_mem _)
  obtain ⟨x, tl, hxt⟩ : ∃ x tl, ys = x :: tl := by
    cases h : ys with
    | nil => exact absurd (hys.symm.trans h) hne
    | cons x tl => exact ⟨x, tl, rfl⟩
  rw [← hys] at hl hp ⊢
  have h00 : 0 < ys.length := by rw [hxt]; simp
  have hs0 : 0 < (⟨ys.toArray⟩ : ByteArray).size := by rw [str_size]; exact h00
  have hx1 : x ≠ 45 := fun e => by rw [hxt, e] at hp; exact absurd hp (by show ¬ ((45 : UInt8) == 45 && ([] : List UInt8).isPrefixOf tl) = false; simp)
  have hx0 : ((⟨ys.toArray⟩ : ByteArray)[0]'hs0).toNat ≠ 45 := by show ys[0].toNat ≠ 45; subst hxt; exact fun e => hx1 (UInt8.toNat_inj.1 e)
  have t0 : (0 : Int) < (ys.length : Int) := by omega
  have t1 : (((((⟨ys.toArray⟩ : ByteArray)[0]'hs0).toNat : Nat) : Int) == 45) = false := by simp; omega
  clear hxt hx0 hx1 hp hne
  have HNA := Lib.hid hn
  clear hf hc hys hn hl1
  go_enter Tryz.func13, Tryz.ntmps13
  go_wp2_with fail
  go_loop [5] (fun v => ∃ k : Nat, k ≤ n ∧ v = .int .i64 k) (fun v => ys.length - (intOf v).toNat)
  case atStart => exact ⟨0, by omega, rfl⟩
  case round =>
    obtain ⟨k, hk, rfl⟩ := hrel
    by_cases hlt : k < n
    · have u1 : (k : Int) < (ys.length : Int) := by omega
      have hs : k < (⟨ys.toArray⟩ : ByteArray).size := by rw [str_size]; omega
      have h7 := HNE.out k (by omega) hlt
      have u2 : ¬ ((((⟨ys.toArray⟩ : ByteArray)[k]'hs).toNat : Nat) : Int) = 46 := by show ¬ ((ys[k].toNat : Nat) : Int) = 46; omega
      have u3 : (((((⟨ys.toArray⟩ : ByteArray)[k]'hs).toNat : Nat) : Int) == 46) = false := by simpa using u2
      have u4 : (((((⟨ys.toArray⟩ : ByteArray)[k]'hs).toNat : Nat) : Int) != 46) = true := by simpa using u2
      clear h7
      go_wp2
      go_round
      case rel => exact ⟨k + 1, by omega, by go_num⟩
      case measure => simp [intOf]; omega
    · obtain rfl : k = n := by omega
      have u8 : (k : Int) ≤ (ys.length : Int) := by omega
      have u1 : ¬ (k : Int) < (ys.length : Int) := by omega
      have HPART : Hid (okPart none = true) := rfl
      clear hlt hk
      go_wp2_with fail
      refine (numeral16_any a _ (by omega)).mono ?_
      cases hnb : numB a with
      | false =>
        rintro e v2 ⟨rfl, rfl⟩
        have HE : Hid (okDec a none = false) := by show _ = _; rw [numB_ok, hnb, Bool.false_and]
        clear hnb
        go_wp2
        exact bodyPost_ret (v := .tuple #[.agg #[.bool false, .slice none 0 0, .bool false, .slice none 0 0], .int .i64 4]) (by simp [results, Tryz.results13, go_sem]) rfl ⟨false, none, 0, 0, false, none, 0, 0, 4, 0, 1, rfl, HF.out.below, .inl ⟨.inl HE.out, rfl, rfl, rfl⟩, fun h => absurd h (by decide)⟩
      | true =>
        rintro e v2 ⟨rfl, rfl⟩
        have HOKD : Hid (okDec a none = true) := by show _ = _; rw [numB_ok, hnb, HPART.out]; rfl
        obtain ⟨z0, hz0⟩ : ∃ z0, z0 = decide (a = [48]) := ⟨_, rfl⟩
        have HZ0 := Lib.hid hz0
        have t9 : (a == [48]) = z0 := by
          rw [hz0]
          by_cases h : a = [48]
          · rw [decide_eq_true h]; exact beq_iff_eq.2 h
          · rw [decide_eq_false h]; exact beq_eq_false_iff_ne.2 h
        have hane : 0 < ys.length := by
          have h1 : a ≠ [] := fun e => by rw [e] at hnb; exact absurd hnb (by decide)
          have h2 : 0 < a.length := Nat.pos_of_ne_zero fun e => h1 (List.eq_nil_of_length_eq_zero e)
          have h3 := HNA.out
          omega
        clear hnb hz0
        go_wp2_with fail
        go_loop [8, 9] (fun zv iv => iv = .int .i64 0 ∧ zv = .bool z0) (fun _ iv => 0)
        case atStart => exact ⟨rfl, rfl⟩
        case round =>
          obtain ⟨rfl, rfl⟩ := hrel
          obtain ⟨z, hz⟩ : ∃ z, z = z0 := ⟨_, rfl⟩
          rw [← hz]
          have HZ : Hid (z = decide (decN a none = 0)) := by
            show _ = _
            rw [← decN_zero HOKD.out, hz, HZ0.out]
            show _ = (decide (a = [48]) && ([] : List UInt8).all is0)
            simp
          clear hz t9
          have HNZ : Hid (¬ (false = true ∧ decN a none = 0)) := fun h => absurd h.1 (by decide)
          by_cases hlong : 5000 < k
          · have v3 : (5000 : Int) < (k : Int) := by omega
            have HLONG := Lib.hid (long_dec false HOKD.out (by have := HNA.out; omega))
            clear hlong
            go_wp2
            exact bodyPost_ret (v := .tuple #[.agg #[.bool false, .slice none 0 0, .bool false, .slice none 0 0], .int .i64 3]) (by simp [results, Tryz.results13, go_sem]) rfl ⟨false, none, 0, 0, false, none, 0, 0, 3, 0, 1, rfl, HF.out.below, .inr ⟨HOKD.out, HLONG.out.1, .inr ⟨HLONG.out.2, rfl, rfl, rfl⟩⟩, fun h => absurd h (by decide)⟩
          have v3 : ¬ (5000 : Int) < (k : Int) := by omega
          have v4 : (0 : Int) < (ys.length : Int) := by omega
          have v5 : ¬ 9223372036854775807 < a.length := by omega
          go_wp2_with fail
          first | rw [show (⟨a.toArray⟩ ++ ⟨#[]⟩ : ByteArray) = ⟨(a ++ []).toArray⟩ from bytes_append a []] | rw [show (⟨a.toArray⟩ : ByteArray) = ⟨(a ++ []).toArray⟩ from by rw [List.append_nil]]
          have hf2 : Fr W ((W.alloc (.cells #[.bool false, .slice none 0 0, .bool false, .slice none 0 0] 35)).alloc (.cells #[.bool false, .slice none 0 0] 33)) [(35, #[.bool false, .slice none 0 0, .bool false, .slice none 0 0]), (33, #[.bool false, .slice none 0 0])] := ((Fr.nil W).alloc rfl _ _).alloc (by simp) _ _
          have HF2 := Lib.hid hf2
          have hdg : (a ++ []).all isDig = true := (ok_digits HOKD.out).1
          have hna := HNA.out
          have hlen5 : (a ++ []).length ≤ 5064 := by rw [List.length_append]; (try simp only [List.length_nil]); omega
          have HDG := Lib.hid hdg
          clear hf2 hdg hna
          refine (long16_any (a ++ []) _ (by omega) HDG.out).mono ?_
          rintro e v5 ⟨n1, o1, l1, c1, rfl, hc1, hm1, hz, hb⟩
          have HF5 := Lib.hid (HF2.out.later hb)
          have HZ5 := Lib.hid hz
          clear hb hz
          have b0 : v5.cell? ⟨W.heap.size + 1, 0, none⟩ = some (.bool false) := HF5.out.cell 1 0 rfl rfl
          have b1 : v5.cell? ⟨W.heap.size + 1, 1, none⟩ = some (.slice none 0 0) := HF5.out.cell 1 1 rfl rfl
          have bf0 : v5.frozen? ⟨W.heap.size + 1, 0, none⟩ = false := HF5.out.frozen 1 0 rfl
          have bf1 : v5.frozen? ⟨W.heap.size + 1, 1, none⟩ = false := HF5.out.frozen 1 1 rfl
          go_wp2_with fail
          obtain ⟨_, _, hz6, _, hfr6⟩ := HF5.out.finJ (cap := c1) 1 rfl HZ5.out
          obtain ⟨V, hV⟩ : ∃ V, V = (v5.setCell ⟨W.heap.size + 1, 0, none⟩ (.bool n1)).setCell ⟨W.heap.size + 1, 1, none⟩ (.slice o1 l1 c1) := ⟨_, rfl⟩
          have hfV : Fr W V [(35, #[.bool false, .slice none 0 0, .bool false, .slice none 0 0]), (33, #[.bool n1, .slice o1 l1 c1])] := by rw [hV]; exact hfr6
          have HFV := Lib.hid hfV
          have hzV : Z16 V n1 o1 l1 (dec (a ++ []) : Int) := by rw [hV]; exact hz6
          have HZV := Lib.hid hzV.n16
          rw [← hV]
          clear hV hfV hzV hz6 hfr6 b0 b1 bf0 bf1
          refine (made_any false _ _ _ (dec (a ++ [])) _ (by have := HZV.out; rwa [Int.natAbs_natCast] at this) hc1 hm1).mono ?_
          rintro e v6 ⟨n2, o2, l2, c2, rfl, hc2, hm2, hz, hb⟩
          have hl2 : l2 ≤ 5064 := by
            have h1 := hz.n16
            rw [sgn_natAbs] at h1
            exact Nat.le_trans (h1.len_le (dec_lt16 HDG.out)) hlen5
          have HF6 := Lib.hid (HFV.out.later hb)
          have HZ6 := Lib.hid hz
          clear hb hz
          go_wp2_with fail
          refine (ten_any _ 0 _ rfl (by omega)).mono ?_
          rintro e v7 ⟨n3, o3, l3, c3, rfl, hc3, hm3, hz, hb⟩
          have hl3 : l3 ≤ 14 := hz.n16.len_le (ten_lt (by omega))
          have hzd : Z16 v7 n3 o3 l3 (decD none) := hz
          have HF7 := Lib.hid (HF6.out.later hb)
          have HZ7 := Lib.hid (HZ6.out.keep hb)
          have HY7 := Lib.hid hzd
          clear hb hz hzd
          go_wp2_with fail
          refine (low_B _ _ _ _ _ _ _ _ (sgn false (decN a none)) (decD none) _ HZ7.out HY7.out (by omega) (by omega) hc2 hm2 hc3 hm3 (decD_ne none)).mono ?_
          rintro e v8 ⟨n7, o7, l7, c7, n8, o8, l8, c8, rfl, hB1, hB2, hk1, hd1, hk2, hd2, hzp, hzq, hb⟩
          have HF8 := Lib.hid (HF7.out.later hb)
          obtain ⟨P, hP⟩ : ∃ P, P = lowP (sgn false (decN a none)) (decD none) := ⟨_, rfl⟩
          obtain ⟨Q, hQ⟩ : ∃ Q, Q = lowQ (sgn false (decN a none)) (decD none) := ⟨_, rfl⟩
          rw [← hP] at hzp
          rw [← hQ] at hzq
          have hf9 : Fr v8 (v8.alloc (.cells #[.bool n7, .slice o7 l7 c7, .bool n8, .slice o8 l8 c8] 35)) [(35, #[.bool n7, .slice o7 l7 c7, .bool n8, .slice o8 l8 c8])] := (Fr.nil v8).alloc rfl _ _
          have HF9 := Lib.hid (HF8.out.later hf9.below)
          have HG9 := Lib.hid hf9
          have HP9 := Lib.hid (hzp.keep hf9.below)
          have HQ9 := Lib.hid (hzq.keep hf9.below)
          have HP := Lib.hid hP
          have HQ := Lib.hid hQ
          clear hb hf9 hzp hzq hP hQ
          have q0 : (v8.alloc (.cells #[.bool n7, .slice o7 l7 c7, .bool n8, .slice o8 l8 c8] 35)).cell? ⟨v8.heap.size, 0, none⟩ = some (.bool n7) := HG9.out.cell 0 0 rfl rfl
          have q1 : (v8.alloc (.cells #[.bool n7, .slice o7 l7 c7, .bool n8, .slice o8 l8 c8] 35)).cell? ⟨v8.heap.size, 1, none⟩ = some (.slice o7 l7 c7) := HG9.out.cell 0 1 rfl rfl
          have q2 : (v8.alloc (.cells #[.bool n7, .slice o7 l7 c7, .bool n8, .slice o8 l8 c8] 35)).cell? ⟨v8.heap.size, 2, none⟩ = some (.bool n8) := HG9.out.cell 0 2 rfl rfl
          have q3 : (v8.alloc (.cells #[.bool n7, .slice o7 l7 c7, .bool n8, .slice o8 l8 c8] 35)).cell? ⟨v8.heap.size, 3, none⟩ = some (.slice o8 l8 c8) := HG9.out.cell 0 3 rfl rfl
          go_wp2_with fail
          by_cases hfit : FitsQ P Q
          · have HFIT := Lib.hid hfit
            refine ((refFitsQ_any _ _ _ _ _ _ _ _ P Q _ HP9.out HQ9.out (by omega) (by omega)).mono fun e w h => (⟨(h.1.resolve_right fun k => k.1 hfit).2, h.2⟩ : e = .returned (.bool true) ∧ _)).mono ?_
            rintro e v10 ⟨rfl, hb⟩
            have HF10 := Lib.hid (HF9.out.later hb)
            have HG10 := Lib.hid (HG9.out.later hb)
            have HP10 := Lib.hid (HP9.out.keep hb)
            have HQ10 := Lib.hid (HQ9.out.keep hb)
            clear hb hfit q0 q1 q2 q3
            have q0 : v10.cell? ⟨v8.heap.size, 0, none⟩ = some (.bool n7) := HG10.out.cell 0 0 rfl rfl
            have q1 : v10.cell? ⟨v8.heap.size, 1, none⟩ = some (.slice o7 l7 c7) := HG10.out.cell 0 1 rfl rfl
            have q2 : v10.cell? ⟨v8.heap.size, 2, none⟩ = some (.bool n8) := HG10.out.cell 0 2 rfl rfl
            have q3 : v10.cell? ⟨v8.heap.size, 3, none⟩ = some (.slice o8 l8 c8) := HG10.out.cell 0 3 rfl rfl
            have g0 : v10.cell? ⟨W.heap.size, 0, none⟩ = some (.bool false) := HF10.out.cell 0 0 rfl rfl
            have g1 : v10.cell? ⟨W.heap.size, 1, none⟩ = some (.slice none 0 0) := HF10.out.cell 0 1 rfl rfl
            have g2 : v10.cell? ⟨W.heap.size, 2, none⟩ = some (.bool false) := HF10.out.cell 0 2 rfl rfl
            have g3 : v10.cell? ⟨W.heap.size, 3, none⟩ = some (.slice none 0 0) := HF10.out.cell 0 3 rfl rfl
            have gf0 : v10.frozen? ⟨W.heap.size, 0, none⟩ = false := HF10.out.frozen 0 0 rfl
            have gf1 : v10.frozen? ⟨W.heap.size, 1, none⟩ = false := HF10.out.frozen 0 1 rfl
            have gf2 : v10.frozen? ⟨W.heap.size, 2, none⟩ = false := HF10.out.frozen 0 2 rfl
            have gf3 : v10.frozen? ⟨W.heap.size, 3, none⟩ = false := HF10.out.frozen 0 3 rfl
            go_wp2
            obtain ⟨e0, e1, e2, e3, k1, k2, hbel⟩ := HF10.out.finK (c1 := c7) (c2 := c8) 0 rfl HP10.out HQ10.out
            exact bodyPost_ret (v := .tuple #[.agg #[.bool n7, .slice o7 l7 c7, .bool n8, .slice o8 l8 c8], .int .i64 0]) (by simp only [Nat.add_zero] at e0 e1 e2 e3; simp [results, Tryz.results13, go_sem, e0, e1, e2, e3]) rfl ⟨n7, o7, l7, c7, n8, o8, l8, c8, 0, P, Q, rfl, hbel, .inr ⟨HOKD.out, HNZ.out, .inl ⟨by rw [← HP.out, ← HQ.out]; exact HFIT.out, rfl, HP.out, HQ.out⟩⟩, fun _ => ⟨fits_len16 HP10.out HFIT.out.1, fits_len16 HQ10.out ((fits_cast _).2 HFIT.out.2), k1, k2⟩⟩
          · have HFIT := Lib.hid hfit
            refine ((refFitsQ_any _ _ _ _ _ _ _ _ P Q _ HP9.out HQ9.out (by omega) (by omega)).mono fun e w h => (⟨(h.1.resolve_left fun k => hfit k.1).2, h.2⟩ : e = .returned (.bool false) ∧ _)).mono ?_
            rintro e v10 ⟨rfl, hb⟩
            have HF10 := Lib.hid (HF9.out.later hb)
            clear hb hfit q0 q1 q2 q3
            have g0 : v10.cell? ⟨W.heap.size, 0, none⟩ = some (.bool false) := HF10.out.cell 0 0 rfl rfl
            have g1 : v10.cell? ⟨W.heap.size, 1, none⟩ = some (.slice none 0 0) := HF10.out.cell 0 1 rfl rfl
            have g2 : v10.cell? ⟨W.heap.size, 2, none⟩ = some (.bool false) := HF10.out.cell 0 2 rfl rfl
            have g3 : v10.cell? ⟨W.heap.size, 3, none⟩ = some (.slice none 0 0) := HF10.out.cell 0 3 rfl rfl
            have gf0 : v10.frozen? ⟨W.heap.size, 0, none⟩ = false := HF10.out.frozen 0 0 rfl
            have gf1 : v10.frozen? ⟨W.heap.size, 1, none⟩ = false := HF10.out.frozen 0 1 rfl
            have gf2 : v10.frozen? ⟨W.heap.size, 2, none⟩ = false := HF10.out.frozen 0 2 rfl
            have gf3 : v10.frozen? ⟨W.heap.size, 3, none⟩ = false := HF10.out.frozen 0 3 rfl
            go_wp2
            obtain ⟨e0, e1, e2, e3, k1, k2, hbel⟩ := HF10.out.finK (c1 := 0) (c2 := 0) 0 rfl (Z16.nil _) (Z16.nil _)
            exact bodyPost_ret (v := .tuple #[.agg #[.bool false, .slice none 0 0, .bool false, .slice none 0 0], .int .i64 3]) (by simp only [Nat.add_zero] at e0 e1 e2 e3; simp [results, Tryz.results13, go_sem, e0, e1, e2, e3]) rfl ⟨false, none, 0, 0, false, none, 0, 0, 3, 0, 1, rfl, hbel, .inr ⟨HOKD.out, HNZ.out, .inr ⟨by rw [← HP.out, ← HQ.out]; exact HFIT.out, rfl, rfl, rfl⟩⟩, fun h => absurd h (by decide)⟩

set_option maxRecDepth 4000 in
set_option maxHeartbeats 16000000 in
theorem refDec_neg_some (a u : List UInt8) (W : World) (hl : (dotText a (some u)).length ≤ 10000000) (hc : 46 ∉ a) :
    Calls Tryz.prog 13 #[.string ⟨(45 :: dotText a (some u)).toArray⟩] W (DecJ W true a (some u)) := by
  have hf : Fr W (W.alloc (.cells #[.bool false, .slice none 0 0, .bool false, .slice none 0 0] 35)) [(35, #[.bool false, .slice none 0 0, .bool false, .slice none 0 0])] := (Fr.nil W).alloc rfl _ _
  have HF := Lib.hid hf
  have hl1 := dotText_len a (some u)
  have hla0 : a.length ≤ 10000000 := by omega
  have hlu0 : u.length ≤ 10000000 := Nat.le_trans hl1.2 hl
  obtain ⟨ys, hys⟩ : ∃ ys, ys = dotText a (some u) := ⟨_, rfl⟩
  obtain ⟨n, hn⟩ : ∃ n, n = a.length := ⟨_, rfl⟩
  have hlen : n + 1 + u.length = ys.length := by rw [hys, hn]; simp [dotText]; omega
  have hA : (⟨ys.toArray⟩ : ByteArray).extract 0 n = ⟨a.toArray⟩ := by rw [str_take ys n (by omega), hys, hn]; simp [dotText]
  have hB : (⟨ys.toArray⟩ : ByteArray).extract (n + 1) ys.length = ⟨u.toArray⟩ := by rw [str_drop, hys, hn]; simp [dotText]
  have HNE : Hid (∀ k (h : k < ys.length), k < n → ys[k].toNat ≠ 46) := by
    intro k h hk e
    have h2 : ys[k] = a[k]'(by omega) := by subst hys; simp only [dotText]; rw [List.getElem_append_left]
    exact hc (by rw [← show ys[k] = 46 from UInt8.toNat_inj.1 e, h2]; exact List.getElem_mem _)
  have HEQ : Hid (∀ h : n < ys.length, ys[n] = 46) := by
    intro h
    subst hys hn
    simp only [dotText]
    rw [List.getElem_append_right (by omega)]
    simp
  rw [← hys] at hl ⊢
  obtain ⟨xs, hxs⟩ : ∃ xs, xs = 45 :: ys := ⟨_, rfl⟩
  rw [← hxs]
  have h00 : 0 < xs.length := by rw [hxs]; simp
  have hs0 : 0 < (⟨xs.toArray⟩ : ByteArray).size := by rw [str_size]; exact h00
  have hx0 : ((⟨xs.toArray⟩ : ByteArray)[0]'hs0).toNat = 45 := by show xs[0].toNat = 45; subst hxs; rfl
  have t0 : (0 : Int) < (xs.length : Int) := by omega
  have t0b : (1 : Int) ≤ (xs.length : Int) := by omega
  have hxl : xs.length ≤ 100000000 := by rw [hxs, List.length_cons]; omega
  have t1 : (((((⟨xs.toArray⟩ : ByteArray)[0]'hs0).toNat : Nat) : Int) == 45) = true := by rw [hx0]; rfl
  have hC : (⟨xs.toArray⟩ : ByteArray).extract 1 xs.length = ⟨ys.toArray⟩ := by rw [str_drop, hxs]; rfl
  clear hxs hx0
  have HNA := Lib.hid hn
  clear hf hc hys hn hl1
  go_enter Tryz.func13, Tryz.ntmps13
  go_wp2_with fail
  go_loop [5] (fun v => ∃ k : Nat, k ≤ n ∧ v = .int .i64 k) (fun v => ys.length - (intOf v).toNat)
  case atStart => exact ⟨0, by omega, rfl⟩
  case round =>
    obtain ⟨k, hk, rfl⟩ := hrel
    by_cases hlt : k < n
    · have u1 : (k : Int) < (ys.length : Int) := by omega
      have hs : k < (⟨ys.toArray⟩ : ByteArray).size := by rw [str_size]; omega
      have h7 := HNE.out k (by omega) hlt
      have u2 : ¬ ((((⟨ys.toArray⟩ : ByteArray)[k]'hs).toNat : Nat) : Int) = 46 := by show ¬ ((ys[k].toNat : Nat) : Int) = 46; omega
      have u3 : (((((⟨ys.toArray⟩ : ByteArray)[k]'hs).toNat : Nat) : Int) == 46) = false := by simpa using u2
      have u4 : (((((⟨ys.toArray⟩ : ByteArray)[k]'hs).toNat : Nat) : Int) != 46) = true := by simpa using u2
      clear h7
      go_wp2
      go_round
      case rel => exact ⟨k + 1, by omega, by go_num⟩
      case measure => simp [intOf]; omega
    · obtain rfl : k = n := by omega
      have u8 : (k : Int) ≤ (ys.length : Int) := by omega
      have u1 : (k : Int) < (ys.length : Int) := by omega
      have hs : k < (⟨ys.toArray⟩ : ByteArray).size := by rw [str_size]; omega
      have h7 : ys[k]'(by omega) = 46 := HEQ.out (by omega)
      have u2 : ((((⟨ys.toArray⟩ : ByteArray)[k]'hs).toNat : Nat) : Int) = 46 := by show ((ys[k].toNat : Nat) : Int) = 46; rw [h7]; rfl
      have u3 : (((((⟨ys.toArray⟩ : ByteArray)[k]'hs).toNat : Nat) : Int) == 46) = true := by simpa using u2
      have u4 : (((((⟨ys.toArray⟩ : ByteArray)[k]'hs).toNat : Nat) : Int) != 46) = false := by simpa using u2
      have u6 : (0 : Int) ≤ (k : Int) + 1 := by omega
      have u7 : (k : Int) + 1 ≤ (ys.length : Int) := by omega
      clear hlt hk h7 u2
      by_cases hu0 : u.length = 0
      · have HE : Hid (okDec a (some u) = false) := by
          have h1 : u = [] := List.eq_nil_of_length_eq_zero hu0
          show _ = _; rw [numB_ok, h1]; show (numB a && (hasDigs [] && decide (([] : List UInt8).length ≤ 64))) = false; rw [show hasDigs [] = false from rfl, Bool.false_and, Bool.and_false]
        have w1 : (u.length : Int) < 1 := by omega
        go_wp2
        exact bodyPost_ret (v := .tuple #[.agg #[.bool false, .slice none 0 0, .bool false, .slice none 0 0], .int .i64 4]) (by simp [results, Tryz.results13, go_sem]) rfl ⟨false, none, 0, 0, false, none, 0, 0, 4, 0, 1, rfl, HF.out.below, .inl ⟨.inl HE.out, rfl, rfl, rfl⟩, fun h => absurd h (by decide)⟩
      by_cases hu64 : 64 < u.length
      · have HE : Hid (okDec a (some u) = false) := by
          show _ = _; rw [numB_ok]; show (numB a && (hasDigs u && decide (u.length ≤ 64))) = false; rw [decide_eq_false (by omega), Bool.and_false, Bool.and_false]
        have w1 : ¬ (u.length : Int) < 1 := by omega
        have w2 : (64 : Int) < (u.length : Int) := by omega
        go_wp2
        exact bodyPost_ret (v := .tuple #[.agg #[.bool false, .slice none 0 0, .bool false, .slice none 0 0], .int .i64 4]) (by simp [results, Tryz.results13, go_sem]) rfl ⟨false, none, 0, 0, false, none, 0, 0, 4, 0, 1, rfl, HF.out.below, .inl ⟨.inl HE.out, rfl, rfl, rfl⟩, fun h => absurd h (by decide)⟩
      have w1 : ¬ (u.length : Int) < 1 := by omega
      have w2 : ¬ (64 : Int) < (u.length : Int) := by omega
      go_wp2_with fail
      refine (digits16_any u _ (by omega)).mono ?_
      cases hd : u.all isDig with
      | false =>
        rintro e v1 ⟨rfl, rfl⟩
        have HE : Hid (okDec a (some u) = false) := by
          show _ = _; rw [numB_ok]; show (numB a && ((u.all isDig && decide (u ≠ [])) && decide (u.length ≤ 64))) = false; rw [hd, Bool.false_and, Bool.false_and, Bool.and_false]
        clear hd
        go_wp2
        exact bodyPost_ret (v := .tuple #[.agg #[.bool false, .slice none 0 0, .bool false, .slice none 0 0], .int .i64 4]) (by simp [results, Tryz.results13, go_sem]) rfl ⟨false, none, 0, 0, false, none, 0, 0, 4, 0, 1, rfl, HF.out.below, .inl ⟨.inl HE.out, rfl, rfl, rfl⟩, fun h => absurd h (by decide)⟩
      | true =>
        rintro e v1 ⟨rfl, rfl⟩
        have HPART : Hid (okPart (some u) = true) := by
          show ((u.all isDig && decide (u ≠ [])) && decide (u.length ≤ 64)) = true
          have hne : u ≠ [] := fun e => hu0 (by rw [e]; rfl)
          have h64 : u.length ≤ 64 := by omega
          rw [hd, decide_eq_true hne, decide_eq_true h64]; rfl
        clear hd
        go_wp2_with fail
        refine (numeral16_any a _ (by omega)).mono ?_
        cases hnb : numB a with
        | false =>
          rintro e v2 ⟨rfl, rfl⟩
          have HE : Hid (okDec a (some u) = false) := by show _ = _; rw [numB_ok, hnb, Bool.false_and]
          clear hnb
          go_wp2
          exact bodyPost_ret (v := .tuple #[.agg #[.bool false, .slice none 0 0, .bool false, .slice none 0 0], .int .i64 4]) (by simp [results, Tryz.results13, go_sem]) rfl ⟨false, none, 0, 0, false, none, 0, 0, 4, 0, 1, rfl, HF.out.below, .inl ⟨.inl HE.out, rfl, rfl, rfl⟩, fun h => absurd h (by decide)⟩
        | true =>
          rintro e v2 ⟨rfl, rfl⟩
          have HOKD : Hid (okDec a (some u) = true) := by show _ = _; rw [numB_ok, hnb, HPART.out]; rfl
          obtain ⟨z0, hz0⟩ : ∃ z0, z0 = decide (a = [48]) := ⟨_, rfl⟩
          have HZ0 := Lib.hid hz0
          have t9 : (a == [48]) = z0 := by
            rw [hz0]
            by_cases h : a = [48]
            · rw [decide_eq_true h]; exact beq_iff_eq.2 h
            · rw [decide_eq_false h]; exact beq_eq_false_iff_ne.2 h
          have hane : 0 < ys.length := by
            have h1 : a ≠ [] := fun e => by rw [e] at hnb; exact absurd hnb (by decide)
            have h2 : 0 < a.length := Nat.pos_of_ne_zero fun e => h1 (List.eq_nil_of_length_eq_zero e)
            have h3 := HNA.out
            omega
          clear hnb hz0
          go_wp2_with fail
          go_loop [8, 9] (fun zv iv => ∃ i : Nat, i ≤ u.length ∧ iv = .int .i64 i ∧ zv = .bool (z0 && (u.take i).all is0)) (fun _ iv => u.length - (intOf iv).toNat)
          case atStart => exact ⟨0, by omega, rfl, by simp⟩
          case round =>
            obtain ⟨i, hi, rfl, rfl⟩ := hrel
            obtain ⟨z, hz⟩ : ∃ z, z = (z0 && (u.take i).all is0) := ⟨_, rfl⟩
            rw [← hz]
            by_cases hiu : i < u.length
            · have v1 : (i : Int) < (u.length : Int) := by omega
              have hsu : i < (⟨u.toArray⟩ : ByteArray).size := by rw [str_size]; exact hiu
              have hstep : (z0 && (u.take (i + 1)).all is0) = (z && is0 u[i]) := by
                rw [List.take_succ_eq_append_getElem hiu, List.all_append, ← Bool.and_assoc, ← hz]; simp
              have HSTEP := Lib.hid hstep
              obtain ⟨d, hd⟩ : ∃ d, d = is0 u[i] := ⟨_, rfl⟩
              have v2 : (((((⟨u.toArray⟩ : ByteArray)[i]'hsu).toNat : Nat) : Int) == 48) = d := by
                show (((u[i].toNat : Nat) : Int) == 48) = d
                rw [hd]; unfold is0
                by_cases h : u[i] = 48
                · rw [h]; rfl
                · have h2 : u[i].toNat ≠ 48 := fun e => h (UInt8.toNat_inj.1 e)
                  rw [beq_eq_false_iff_ne.2 h]; exact beq_eq_false_iff_ne.2 (by omega)
              have HD := Lib.hid hd
              clear hstep hd hz
              cases z with
              | false =>
                go_wp2
                go_round
                case rel => exact ⟨i + 1, by omega, by go_num, by rw [HSTEP.out]; rfl⟩
                case measure => simp [intOf]; omega
              | true =>
                go_wp2
                go_round
                case rel => exact ⟨i + 1, by omega, by go_num, by rw [HSTEP.out, ← HD.out]; rfl⟩
                case measure => simp [intOf]; omega
            · have v1 : ¬ (i : Int) < (u.length : Int) := by omega
              have HZ : Hid (z = decide (decN a (some u) = 0)) := by
                show _ = _
                rw [← decN_zero HOKD.out, hz, HZ0.out]
                show _ = (decide (a = [48]) && u.all is0)
                rw [List.take_of_length_le (by omega)]
              clear hz t9 hiu
              cases z with
              | true =>
                have HE : Hid (decN a (some u) = 0) := Lib.hid (of_decide_eq_true HZ.out.symm)
                go_wp2
                exact bodyPost_ret (v := .tuple #[.agg #[.bool false, .slice none 0 0, .bool false, .slice none 0 0], .int .i64 4]) (by simp [results, Tryz.results13, go_sem]) rfl ⟨false, none, 0, 0, false, none, 0, 0, 4, 0, 1, rfl, HF.out.below, .inl ⟨.inr ⟨rfl, HE.out⟩, rfl, rfl, rfl⟩, fun h => absurd h (by decide)⟩
              | false =>
                have HNZ : Hid (¬ (true = true ∧ decN a (some u) = 0)) := fun h => of_decide_eq_false HZ.out.symm h.2
                by_cases hlong : 5000 < k
                · have v3 : (5000 : Int) < (k : Int) := by omega
                  have HLONG := Lib.hid (long_dec true HOKD.out (by have := HNA.out; omega))
                  clear hlong
                  go_wp2
                  exact bodyPost_ret (v := .tuple #[.agg #[.bool false, .slice none 0 0, .bool false, .slice none 0 0], .int .i64 3]) (by simp [results, Tryz.results13, go_sem]) rfl ⟨false, none, 0, 0, false, none, 0, 0, 3, 0, 1, rfl, HF.out.below, .inr ⟨HOKD.out, fun h => HLONG.out.1 ⟨trivial, h.2⟩, .inr ⟨HLONG.out.2, rfl, rfl, rfl⟩⟩, fun h => absurd h (by decide)⟩
                have v3 : ¬ (5000 : Int) < (k : Int) := by omega
                have v4 : (0 : Int) < (ys.length : Int) := by omega
                have v5 : ¬ 9223372036854775807 < a.length + u.length := by omega
                go_wp2_with fail
                rw [bytes_append]
                have hf2 : Fr W ((W.alloc (.cells #[.bool false, .slice none 0 0, .bool false, .slice none 0 0] 35)).alloc (.cells #[.bool false, .slice none 0 0] 33)) [(35, #[.bool false, .slice none 0 0, .bool false, .slice none 0 0]), (33, #[.bool false, .slice none 0 0])] := ((Fr.nil W).alloc rfl _ _).alloc (by simp) _ _
                have HF2 := Lib.hid hf2
                have hdg : (a ++ u).all isDig = true := (ok_digits HOKD.out).1
                have hna := HNA.out
                have hlen5 : (a ++ u).length ≤ 5064 := by rw [List.length_append]; (try simp only [List.length_nil]); omega
                have HDG := Lib.hid hdg
                clear hf2 hdg hna
                refine (long16_any (a ++ u) _ (by omega) HDG.out).mono ?_
                rintro e v5 ⟨n1, o1, l1, c1, rfl, hc1, hm1, hz, hb⟩
                have HF5 := Lib.hid (HF2.out.later hb)
                have HZ5 := Lib.hid hz
                clear hb hz
                have b0 : v5.cell? ⟨W.heap.size + 1, 0, none⟩ = some (.bool false) := HF5.out.cell 1 0 rfl rfl
                have b1 : v5.cell? ⟨W.heap.size + 1, 1, none⟩ = some (.slice none 0 0) := HF5.out.cell 1 1 rfl rfl
                have bf0 : v5.frozen? ⟨W.heap.size + 1, 0, none⟩ = false := HF5.out.frozen 1 0 rfl
                have bf1 : v5.frozen? ⟨W.heap.size + 1, 1, none⟩ = false := HF5.out.frozen 1 1 rfl
                go_wp2_with fail
                obtain ⟨_, _, hz6, _, hfr6⟩ := HF5.out.finJ (cap := c1) 1 rfl HZ5.out
                obtain ⟨V, hV⟩ : ∃ V, V = (v5.setCell ⟨W.heap.size + 1, 0, none⟩ (.bool n1)).setCell ⟨W.heap.size + 1, 1, none⟩ (.slice o1 l1 c1) := ⟨_, rfl⟩
                have hfV : Fr W V [(35, #[.bool false, .slice none 0 0, .bool false, .slice none 0 0]), (33, #[.bool n1, .slice o1 l1 c1])] := by rw [hV]; exact hfr6
                have HFV := Lib.hid hfV
                have hzV : Z16 V n1 o1 l1 (dec (a ++ u) : Int) := by rw [hV]; exact hz6
                have HZV := Lib.hid hzV.n16
                rw [← hV]
                clear hV hfV hzV hz6 hfr6 b0 b1 bf0 bf1
                refine (made_any true _ _ _ (dec (a ++ u)) _ (by have := HZV.out; rwa [Int.natAbs_natCast] at this) hc1 hm1).mono ?_
                rintro e v6 ⟨n2, o2, l2, c2, rfl, hc2, hm2, hz, hb⟩
                have hl2 : l2 ≤ 5064 := by
                  have h1 := hz.n16
                  rw [sgn_natAbs] at h1
                  exact Nat.le_trans (h1.len_le (dec_lt16 HDG.out)) hlen5
                have HF6 := Lib.hid (HFV.out.later hb)
                have HZ6 := Lib.hid hz
                clear hb hz
                go_wp2_with fail
                refine (ten_any _ u.length _ rfl (by omega)).mono ?_
                rintro e v7 ⟨n3, o3, l3, c3, rfl, hc3, hm3, hz, hb⟩
                have hl3 : l3 ≤ 14 := hz.n16.len_le (ten_lt (by omega))
                have hzd : Z16 v7 n3 o3 l3 (decD (some u)) := hz
                have HF7 := Lib.hid (HF6.out.later hb)
                have HZ7 := Lib.hid (HZ6.out.keep hb)
                have HY7 := Lib.hid hzd
                clear hb hz hzd
                go_wp2_with fail
                refine (low_B _ _ _ _ _ _ _ _ (sgn true (decN a (some u))) (decD (some u)) _ HZ7.out HY7.out (by omega) (by omega) hc2 hm2 hc3 hm3 (decD_ne (some u))).mono ?_
                rintro e v8 ⟨n7, o7, l7, c7, n8, o8, l8, c8, rfl, hB1, hB2, hk1, hd1, hk2, hd2, hzp, hzq, hb⟩
                have HF8 := Lib.hid (HF7.out.later hb)
                obtain ⟨P, hP⟩ : ∃ P, P = lowP (sgn true (decN a (some u))) (decD (some u)) := ⟨_, rfl⟩
                obtain ⟨Q, hQ⟩ : ∃ Q, Q = lowQ (sgn true (decN a (some u))) (decD (some u)) := ⟨_, rfl⟩
                rw [← hP] at hzp
                rw [← hQ] at hzq
                have hf9 : Fr v8 (v8.alloc (.cells #[.bool n7, .slice o7 l7 c7, .bool n8, .slice o8 l8 c8] 35)) [(35, #[.bool n7, .slice o7 l7 c7, .bool n8, .slice o8 l8 c8])] := (Fr.nil v8).alloc rfl _ _
                have HF9 := Lib.hid (HF8.out.later hf9.below)
                have HG9 := Lib.hid hf9
                have HP9 := Lib.hid (hzp.keep hf9.below)
                have HQ9 := Lib.hid (hzq.keep hf9.below)
                have HP := Lib.hid hP
                have HQ := Lib.hid hQ
                clear hb hf9 hzp hzq hP hQ
                have q0 : (v8.alloc (.cells #[.bool n7, .slice o7 l7 c7, .bool n8, .slice o8 l8 c8] 35)).cell? ⟨v8.heap.size, 0, none⟩ = some (.bool n7) := HG9.out.cell 0 0 rfl rfl
                have q1 : (v8.alloc (.cells #[.bool n7, .slice o7 l7 c7, .bool n8, .slice o8 l8 c8] 35)).cell? ⟨v8.heap.size, 1, none⟩ = some (.slice o7 l7 c7) := HG9.out.cell 0 1 rfl rfl
                have q2 : (v8.alloc (.cells #[.bool n7, .slice o7 l7 c7, .bool n8, .slice o8 l8 c8] 35)).cell? ⟨v8.heap.size, 2, none⟩ = some (.bool n8) := HG9.out.cell 0 2 rfl rfl
                have q3 : (v8.alloc (.cells #[.bool n7, .slice o7 l7 c7, .bool n8, .slice o8 l8 c8] 35)).cell? ⟨v8.heap.size, 3, none⟩ = some (.slice o8 l8 c8) := HG9.out.cell 0 3 rfl rfl
                go_wp2_with fail
                by_cases hfit : FitsQ P Q
                · have HFIT := Lib.hid hfit
                  refine ((refFitsQ_any _ _ _ _ _ _ _ _ P Q _ HP9.out HQ9.out (by omega) (by omega)).mono fun e w h => (⟨(h.1.resolve_right fun k => k.1 hfit).2, h.2⟩ : e = .returned (.bool true) ∧ _)).mono ?_
                  rintro e v10 ⟨rfl, hb⟩
                  have HF10 := Lib.hid (HF9.out.later hb)
                  have HG10 := Lib.hid (HG9.out.later hb)
                  have HP10 := Lib.hid (HP9.out.keep hb)
                  have HQ10 := Lib.hid (HQ9.out.keep hb)
                  clear hb hfit q0 q1 q2 q3
                  have q0 : v10.cell? ⟨v8.heap.size, 0, none⟩ = some (.bool n7) := HG10.out.cell 0 0 rfl rfl
                  have q1 : v10.cell? ⟨v8.heap.size, 1, none⟩ = some (.slice o7 l7 c7) := HG10.out.cell 0 1 rfl rfl
                  have q2 : v10.cell? ⟨v8.heap.size, 2, none⟩ = some (.bool n8) := HG10.out.cell 0 2 rfl rfl
                  have q3 : v10.cell? ⟨v8.heap.size, 3, none⟩ = some (.slice o8 l8 c8) := HG10.out.cell 0 3 rfl rfl
                  have g0 : v10.cell? ⟨W.heap.size, 0, none⟩ = some (.bool false) := HF10.out.cell 0 0 rfl rfl
                  have g1 : v10.cell? ⟨W.heap.size, 1, none⟩ = some (.slice none 0 0) := HF10.out.cell 0 1 rfl rfl
                  have g2 : v10.cell? ⟨W.heap.size, 2, none⟩ = some (.bool false) := HF10.out.cell 0 2 rfl rfl
                  have g3 : v10.cell? ⟨W.heap.size, 3, none⟩ = some (.slice none 0 0) := HF10.out.cell 0 3 rfl rfl
                  have gf0 : v10.frozen? ⟨W.heap.size, 0, none⟩ = false := HF10.out.frozen 0 0 rfl
                  have gf1 : v10.frozen? ⟨W.heap.size, 1, none⟩ = false := HF10.out.frozen 0 1 rfl
                  have gf2 : v10.frozen? ⟨W.heap.size, 2, none⟩ = false := HF10.out.frozen 0 2 rfl
                  have gf3 : v10.frozen? ⟨W.heap.size, 3, none⟩ = false := HF10.out.frozen 0 3 rfl
                  go_wp2
                  obtain ⟨e0, e1, e2, e3, k1, k2, hbel⟩ := HF10.out.finK (c1 := c7) (c2 := c8) 0 rfl HP10.out HQ10.out
                  exact bodyPost_ret (v := .tuple #[.agg #[.bool n7, .slice o7 l7 c7, .bool n8, .slice o8 l8 c8], .int .i64 0]) (by simp only [Nat.add_zero] at e0 e1 e2 e3; simp [results, Tryz.results13, go_sem, e0, e1, e2, e3]) rfl ⟨n7, o7, l7, c7, n8, o8, l8, c8, 0, P, Q, rfl, hbel, .inr ⟨HOKD.out, fun h => HNZ.out ⟨trivial, h.2⟩, .inl ⟨by rw [← HP.out, ← HQ.out]; exact HFIT.out, rfl, HP.out, HQ.out⟩⟩, fun _ => ⟨fits_len16 HP10.out HFIT.out.1, fits_len16 HQ10.out ((fits_cast _).2 HFIT.out.2), k1, k2⟩⟩
                · have HFIT := Lib.hid hfit
                  refine ((refFitsQ_any _ _ _ _ _ _ _ _ P Q _ HP9.out HQ9.out (by omega) (by omega)).mono fun e w h => (⟨(h.1.resolve_left fun k => hfit k.1).2, h.2⟩ : e = .returned (.bool false) ∧ _)).mono ?_
                  rintro e v10 ⟨rfl, hb⟩
                  have HF10 := Lib.hid (HF9.out.later hb)
                  clear hb hfit q0 q1 q2 q3
                  have g0 : v10.cell? ⟨W.heap.size, 0, none⟩ = some (.bool false) := HF10.out.cell 0 0 rfl rfl
                  have g1 : v10.cell? ⟨W.heap.size, 1, none⟩ = some (.slice none 0 0) := HF10.out.cell 0 1 rfl rfl
                  have g2 : v10.cell? ⟨W.heap.size, 2, none⟩ = some (.bool false) := HF10.out.cell 0 2 rfl rfl
                  have g3 : v10.cell? ⟨W.heap.size, 3, none⟩ = some (.slice none 0 0) := HF10.out.cell 0 3 rfl rfl
                  have gf0 : v10.frozen? ⟨W.heap.size, 0, none⟩ = false := HF10.out.frozen 0 0 rfl
                  have gf1 : v10.frozen? ⟨W.heap.size, 1, none⟩ = false := HF10.out.frozen 0 1 rfl
                  have gf2 : v10.frozen? ⟨W.heap.size, 2, none⟩ = false := HF10.out.frozen 0 2 rfl
                  have gf3 : v10.frozen? ⟨W.heap.size, 3, none⟩ = false := HF10.out.frozen 0 3 rfl
                  go_wp2
                  obtain ⟨e0, e1, e2, e3, k1, k2, hbel⟩ := HF10.out.finK (c1 := 0) (c2 := 0) 0 rfl (Z16.nil _) (Z16.nil _)
                  exact bodyPost_ret (v := .tuple #[.agg #[.bool false, .slice none 0 0, .bool false, .slice none 0 0], .int .i64 3]) (by simp only [Nat.add_zero] at e0 e1 e2 e3; simp [results, Tryz.results13, go_sem, e0, e1, e2, e3]) rfl ⟨false, none, 0, 0, false, none, 0, 0, 3, 0, 1, rfl, hbel, .inr ⟨HOKD.out, fun h => HNZ.out ⟨trivial, h.2⟩, .inr ⟨by rw [← HP.out, ← HQ.out]; exact HFIT.out, rfl, rfl, rfl⟩⟩, fun h => absurd h (by decide)⟩

set_option maxRecDepth 4000 in
set_option maxHeartbeats 16000000 in
theorem refDec_neg_none (a : List UInt8) (W : World) (hl : (dotText a none).length ≤ 10000000) (hc : 46 ∉ a) :
    Calls Tryz.prog 13 #[.string ⟨(45 :: dotText a none).toArray⟩] W (DecJ W true a none) := by
  have hf : Fr W (W.alloc (.cells #[.bool false, .slice none 0 0, .bool false, .slice none 0 0] 35)) [(35, #[.bool false, .slice none 0 0, .bool false, .slice none 0 0])] := (Fr.nil W).alloc rfl _ _
  have HF := Lib.hid hf
  have hl1 := dotText_len a none
  have hla0 : a.length ≤ 10000000 := by omega
  obtain ⟨ys, hys⟩ : ∃ ys, ys = dotText a none := ⟨_, rfl⟩
  obtain ⟨n, hn⟩ : ∃ n, n = a.length := ⟨_, rfl⟩
  have hlen : n ≤ ys.length ∧ ys.length ≤ n := by rw [hys, hn]; exact ⟨Nat.le_refl _, Nat.le_refl _⟩
  have hA : (⟨ys.toArray⟩ : ByteArray).extract 0 n = ⟨a.toArray⟩ := by rw [str_take ys n (by omega), hys, hn]; simp [dotText]
  have HNE : Hid (∀ k (h : k < ys.length), k < n → ys[k].toNat ≠ 46) := by
    intro k h hk e
    have h2 : ys[k] = a[k]'(by omega) := by subst hys; rfl
    exact hc (by rw [← show ys[k] = 46 from UInt8.toNat_inj.1 e, h2]; exact List.getElem_mem _)
  rw [← hys] at hl ⊢
  obtain ⟨xs, hxs⟩ : ∃ xs, xs = 45 :: ys := ⟨_, rfl⟩
  rw [← hxs]
  have h00 : 0 < xs.length := by rw [hxs]; simp
  have hs0 : 0 < (⟨xs.toArray⟩ : ByteArray).size := by rw [str_size]; exact h00
  have hx0 : ((⟨xs.toArray⟩ : ByteArray)[0]'hs0).toNat = 45 := by show xs[0].toNat = 45; subst hxs; rfl
  have t0 : (0 : Int) < (xs.length : Int) := by omega
  have t0b : (1 : Int) ≤ (xs.length : Int) := by omega
  have hxl : xs.length ≤ 100000000 := by rw [hxs, List.length_cons]; omega
  have t1 : (((((⟨xs.toArray⟩ : ByteArray)[0]'hs0).toNat : Nat) : Int) == 45) = true := by rw [hx0]; rfl
  have hC : (⟨xs.toArray⟩ : ByteArray).extract 1 xs.length = ⟨ys.toArray⟩ := by rw [str_drop, hxs]; rfl
  clear hxs hx0
  have HNA := Lib.hid hn
  clear hf hc hys hn hl1
  go_enter Tryz.func13, Tryz.ntmps13
  go_wp2_with fail
  go_loop [5] (fun v => ∃ k : Nat, k ≤ n ∧ v = .int .i64 k) (fun v => ys.length - (intOf v).toNat)
  case atStart => exact ⟨0, by omega, rfl⟩
  case round =>
    obtain ⟨k, hk, rfl⟩ := hrel
    by_cases hlt : k < n
    · have u1 : (k : Int) < (ys.length : Int) := by omega
      have hs : k < (⟨ys.toArray⟩ : ByteArray).size := by rw [str_size]; omega
      have h7 := HNE.out k (by omega) hlt
      have u2 : ¬ ((((⟨ys.toArray⟩ : ByteArray)[k]'hs).toNat : Nat) : Int) = 46 := by show ¬ ((ys[k].toNat : Nat) : Int) = 46; omega
      have u3 : (((((⟨ys.toArray⟩ : ByteArray)[k]'hs).toNat : Nat) : Int) == 46) = false := by simpa using u2
      have u4 : (((((⟨ys.toArray⟩ : ByteArray)[k]'hs).toNat : Nat) : Int) != 46) = true := by simpa using u2
      clear h7
      go_wp2
      go_round
      case rel => exact ⟨k + 1, by omega, by go_num⟩
      case measure => simp [intOf]; omega
    · obtain rfl : k = n := by omega
      have u8 : (k : Int) ≤ (ys.length : Int) := by omega
      have u1 : ¬ (k : Int) < (ys.length : Int) := by omega
      have HPART : Hid (okPart none = true) := rfl
      clear hlt hk
      go_wp2_with fail
      refine (numeral16_any a _ (by omega)).mono ?_
      cases hnb : numB a with
      | false =>
        rintro e v2 ⟨rfl, rfl⟩
        have HE : Hid (okDec a none = false) := by show _ = _; rw [numB_ok, hnb, Bool.false_and]
        clear hnb
        go_wp2
        exact bodyPost_ret (v := .tuple #[.agg #[.bool false, .slice none 0 0, .bool false, .slice none 0 0], .int .i64 4]) (by simp [results, Tryz.results13, go_sem]) rfl ⟨false, none, 0, 0, false, none, 0, 0, 4, 0, 1, rfl, HF.out.below, .inl ⟨.inl HE.out, rfl, rfl, rfl⟩, fun h => absurd h (by decide)⟩
      | true =>
        rintro e v2 ⟨rfl, rfl⟩
        have HOKD : Hid (okDec a none = true) := by show _ = _; rw [numB_ok, hnb, HPART.out]; rfl
        obtain ⟨z0, hz0⟩ : ∃ z0, z0 = decide (a = [48]) := ⟨_, rfl⟩
        have HZ0 := Lib.hid hz0
        have t9 : (a == [48]) = z0 := by
          rw [hz0]
          by_cases h : a = [48]
          · rw [decide_eq_true h]; exact beq_iff_eq.2 h
          · rw [decide_eq_false h]; exact beq_eq_false_iff_ne.2 h
        have hane : 0 < ys.length := by
          have h1 : a ≠ [] := fun e => by rw [e] at hnb; exact absurd hnb (by decide)
          have h2 : 0 < a.length := Nat.pos_of_ne_zero fun e => h1 (List.eq_nil_of_length_eq_zero e)
          have h3 := HNA.out
          omega
        clear hnb hz0
        go_wp2_with fail
        go_loop [8, 9] (fun zv iv => iv = .int .i64 0 ∧ zv = .bool z0) (fun _ iv => 0)
        case atStart => exact ⟨rfl, rfl⟩
        case round =>
          obtain ⟨rfl, rfl⟩ := hrel
          obtain ⟨z, hz⟩ : ∃ z, z = z0 := ⟨_, rfl⟩
          rw [← hz]
          have HZ : Hid (z = decide (decN a none = 0)) := by
            show _ = _
            rw [← decN_zero HOKD.out, hz, HZ0.out]
            show _ = (decide (a = [48]) && ([] : List UInt8).all is0)
            simp
          clear hz t9
          cases z with
          | true =>
            have HE : Hid (decN a none = 0) := Lib.hid (of_decide_eq_true HZ.out.symm)
            go_wp2
            exact bodyPost_ret (v := .tuple #[.agg #[.bool false, .slice none 0 0, .bool false, .slice none 0 0], .int .i64 4]) (by simp [results, Tryz.results13, go_sem]) rfl ⟨false, none, 0, 0, false, none, 0, 0, 4, 0, 1, rfl, HF.out.below, .inl ⟨.inr ⟨rfl, HE.out⟩, rfl, rfl, rfl⟩, fun h => absurd h (by decide)⟩
          | false =>
            have HNZ : Hid (¬ (true = true ∧ decN a none = 0)) := fun h => of_decide_eq_false HZ.out.symm h.2
            by_cases hlong : 5000 < k
            · have v3 : (5000 : Int) < (k : Int) := by omega
              have HLONG := Lib.hid (long_dec true HOKD.out (by have := HNA.out; omega))
              clear hlong
              go_wp2
              exact bodyPost_ret (v := .tuple #[.agg #[.bool false, .slice none 0 0, .bool false, .slice none 0 0], .int .i64 3]) (by simp [results, Tryz.results13, go_sem]) rfl ⟨false, none, 0, 0, false, none, 0, 0, 3, 0, 1, rfl, HF.out.below, .inr ⟨HOKD.out, fun h => HLONG.out.1 ⟨trivial, h.2⟩, .inr ⟨HLONG.out.2, rfl, rfl, rfl⟩⟩, fun h => absurd h (by decide)⟩
            have v3 : ¬ (5000 : Int) < (k : Int) := by omega
            have v4 : (0 : Int) < (ys.length : Int) := by omega
            have v5 : ¬ 9223372036854775807 < a.length := by omega
            go_wp2_with fail
            first | rw [show (⟨a.toArray⟩ ++ ⟨#[]⟩ : ByteArray) = ⟨(a ++ []).toArray⟩ from bytes_append a []] | rw [show (⟨a.toArray⟩ : ByteArray) = ⟨(a ++ []).toArray⟩ from by rw [List.append_nil]]
            have hf2 : Fr W ((W.alloc (.cells #[.bool false, .slice none 0 0, .bool false, .slice none 0 0] 35)).alloc (.cells #[.bool false, .slice none 0 0] 33)) [(35, #[.bool false, .slice none 0 0, .bool false, .slice none 0 0]), (33, #[.bool false, .slice none 0 0])] := ((Fr.nil W).alloc rfl _ _).alloc (by simp) _ _
            have HF2 := Lib.hid hf2
            have hdg : (a ++ []).all isDig = true := (ok_digits HOKD.out).1
            have hna := HNA.out
            have hlen5 : (a ++ []).length ≤ 5064 := by rw [List.length_append]; (try simp only [List.length_nil]); omega
            have HDG := Lib.hid hdg
            clear hf2 hdg hna
            refine (long16_any (a ++ []) _ (by omega) HDG.out).mono ?_
            rintro e v5 ⟨n1, o1, l1, c1, rfl, hc1, hm1, hz, hb⟩
            have HF5 := Lib.hid (HF2.out.later hb)
            have HZ5 := Lib.hid hz
            clear hb hz
            have b0 : v5.cell? ⟨W.heap.size + 1, 0, none⟩ = some (.bool false) := HF5.out.cell 1 0 rfl rfl
            have b1 : v5.cell? ⟨W.heap.size + 1, 1, none⟩ = some (.slice none 0 0) := HF5.out.cell 1 1 rfl rfl
            have bf0 : v5.frozen? ⟨W.heap.size + 1, 0, none⟩ = false := HF5.out.frozen 1 0 rfl
            have bf1 : v5.frozen? ⟨W.heap.size + 1, 1, none⟩ = false := HF5.out.frozen 1 1 rfl
            go_wp2_with fail
            obtain ⟨_, _, hz6, _, hfr6⟩ := HF5.out.finJ (cap := c1) 1 rfl HZ5.out
            obtain ⟨V, hV⟩ : ∃ V, V = (v5.setCell ⟨W.heap.size + 1, 0, none⟩ (.bool n1)).setCell ⟨W.heap.size + 1, 1, none⟩ (.slice o1 l1 c1) := ⟨_, rfl⟩
            have hfV : Fr W V [(35, #[.bool false, .slice none 0 0, .bool false, .slice none 0 0]), (33, #[.bool n1, .slice o1 l1 c1])] := by rw [hV]; exact hfr6
            have HFV := Lib.hid hfV
            have hzV : Z16 V n1 o1 l1 (dec (a ++ []) : Int) := by rw [hV]; exact hz6
            have HZV := Lib.hid hzV.n16
            rw [← hV]
            clear hV hfV hzV hz6 hfr6 b0 b1 bf0 bf1
            refine (made_any true _ _ _ (dec (a ++ [])) _ (by have := HZV.out; rwa [Int.natAbs_natCast] at this) hc1 hm1).mono ?_
            rintro e v6 ⟨n2, o2, l2, c2, rfl, hc2, hm2, hz, hb⟩
            have hl2 : l2 ≤ 5064 := by
              have h1 := hz.n16
              rw [sgn_natAbs] at h1
              exact Nat.le_trans (h1.len_le (dec_lt16 HDG.out)) hlen5
            have HF6 := Lib.hid (HFV.out.later hb)
            have HZ6 := Lib.hid hz
            clear hb hz
            go_wp2_with fail
            refine (ten_any _ 0 _ rfl (by omega)).mono ?_
            rintro e v7 ⟨n3, o3, l3, c3, rfl, hc3, hm3, hz, hb⟩
            have hl3 : l3 ≤ 14 := hz.n16.len_le (ten_lt (by omega))
            have hzd : Z16 v7 n3 o3 l3 (decD none) := hz
            have HF7 := Lib.hid (HF6.out.later hb)
            have HZ7 := Lib.hid (HZ6.out.keep hb)
            have HY7 := Lib.hid hzd
            clear hb hz hzd
            go_wp2_with fail
            refine (low_B _ _ _ _ _ _ _ _ (sgn true (decN a none)) (decD none) _ HZ7.out HY7.out (by omega) (by omega) hc2 hm2 hc3 hm3 (decD_ne none)).mono ?_
            rintro e v8 ⟨n7, o7, l7, c7, n8, o8, l8, c8, rfl, hB1, hB2, hk1, hd1, hk2, hd2, hzp, hzq, hb⟩
            have HF8 := Lib.hid (HF7.out.later hb)
            obtain ⟨P, hP⟩ : ∃ P, P = lowP (sgn true (decN a none)) (decD none) := ⟨_, rfl⟩
            obtain ⟨Q, hQ⟩ : ∃ Q, Q = lowQ (sgn true (decN a none)) (decD none) := ⟨_, rfl⟩
            rw [← hP] at hzp
            rw [← hQ] at hzq
            have hf9 : Fr v8 (v8.alloc (.cells #[.bool n7, .slice o7 l7 c7, .bool n8, .slice o8 l8 c8] 35)) [(35, #[.bool n7, .slice o7 l7 c7, .bool n8, .slice o8 l8 c8])] := (Fr.nil v8).alloc rfl _ _
            have HF9 := Lib.hid (HF8.out.later hf9.below)
            have HG9 := Lib.hid hf9
            have HP9 := Lib.hid (hzp.keep hf9.below)
            have HQ9 := Lib.hid (hzq.keep hf9.below)
            have HP := Lib.hid hP
            have HQ := Lib.hid hQ
            clear hb hf9 hzp hzq hP hQ
            have q0 : (v8.alloc (.cells #[.bool n7, .slice o7 l7 c7, .bool n8, .slice o8 l8 c8] 35)).cell? ⟨v8.heap.size, 0, none⟩ = some (.bool n7) := HG9.out.cell 0 0 rfl rfl
            have q1 : (v8.alloc (.cells #[.bool n7, .slice o7 l7 c7, .bool n8, .slice o8 l8 c8] 35)).cell? ⟨v8.heap.size, 1, none⟩ = some (.slice o7 l7 c7) := HG9.out.cell 0 1 rfl rfl
            have q2 : (v8.alloc (.cells #[.bool n7, .slice o7 l7 c7, .bool n8, .slice o8 l8 c8] 35)).cell? ⟨v8.heap.size, 2, none⟩ = some (.bool n8) := HG9.out.cell 0 2 rfl rfl
            have q3 : (v8.alloc (.cells #[.bool n7, .slice o7 l7 c7, .bool n8, .slice o8 l8 c8] 35)).cell? ⟨v8.heap.size, 3, none⟩ = some (.slice o8 l8 c8) := HG9.out.cell 0 3 rfl rfl
            go_wp2_with fail
            by_cases hfit : FitsQ P Q
            · have HFIT := Lib.hid hfit
              refine ((refFitsQ_any _ _ _ _ _ _ _ _ P Q _ HP9.out HQ9.out (by omega) (by omega)).mono fun e w h => (⟨(h.1.resolve_right fun k => k.1 hfit).2, h.2⟩ : e = .returned (.bool true) ∧ _)).mono ?_
              rintro e v10 ⟨rfl, hb⟩
              have HF10 := Lib.hid (HF9.out.later hb)
              have HG10 := Lib.hid (HG9.out.later hb)
              have HP10 := Lib.hid (HP9.out.keep hb)
              have HQ10 := Lib.hid (HQ9.out.keep hb)
              clear hb hfit q0 q1 q2 q3
              have q0 : v10.cell? ⟨v8.heap.size, 0, none⟩ = some (.bool n7) := HG10.out.cell 0 0 rfl rfl
              have q1 : v10.cell? ⟨v8.heap.size, 1, none⟩ = some (.slice o7 l7 c7) := HG10.out.cell 0 1 rfl rfl
              have q2 : v10.cell? ⟨v8.heap.size, 2, none⟩ = some (.bool n8) := HG10.out.cell 0 2 rfl rfl
              have q3 : v10.cell? ⟨v8.heap.size, 3, none⟩ = some (.slice o8 l8 c8) := HG10.out.cell 0 3 rfl rfl
              have g0 : v10.cell? ⟨W.heap.size, 0, none⟩ = some (.bool false) := HF10.out.cell 0 0 rfl rfl
              have g1 : v10.cell? ⟨W.heap.size, 1, none⟩ = some (.slice none 0 0) := HF10.out.cell 0 1 rfl rfl
              have g2 : v10.cell? ⟨W.heap.size, 2, none⟩ = some (.bool false) := HF10.out.cell 0 2 rfl rfl
              have g3 : v10.cell? ⟨W.heap.size, 3, none⟩ = some (.slice none 0 0) := HF10.out.cell 0 3 rfl rfl
              have gf0 : v10.frozen? ⟨W.heap.size, 0, none⟩ = false := HF10.out.frozen 0 0 rfl
              have gf1 : v10.frozen? ⟨W.heap.size, 1, none⟩ = false := HF10.out.frozen 0 1 rfl
              have gf2 : v10.frozen? ⟨W.heap.size, 2, none⟩ = false := HF10.out.frozen 0 2 rfl
              have gf3 : v10.frozen? ⟨W.heap.size, 3, none⟩ = false := HF10.out.frozen 0 3 rfl
              go_wp2
              obtain ⟨e0, e1, e2, e3, k1, k2, hbel⟩ := HF10.out.finK (c1 := c7) (c2 := c8) 0 rfl HP10.out HQ10.out
              exact bodyPost_ret (v := .tuple #[.agg #[.bool n7, .slice o7 l7 c7, .bool n8, .slice o8 l8 c8], .int .i64 0]) (by simp only [Nat.add_zero] at e0 e1 e2 e3; simp [results, Tryz.results13, go_sem, e0, e1, e2, e3]) rfl ⟨n7, o7, l7, c7, n8, o8, l8, c8, 0, P, Q, rfl, hbel, .inr ⟨HOKD.out, fun h => HNZ.out ⟨trivial, h.2⟩, .inl ⟨by rw [← HP.out, ← HQ.out]; exact HFIT.out, rfl, HP.out, HQ.out⟩⟩, fun _ => ⟨fits_len16 HP10.out HFIT.out.1, fits_len16 HQ10.out ((fits_cast _).2 HFIT.out.2), k1, k2⟩⟩
            · have HFIT := Lib.hid hfit
              refine ((refFitsQ_any _ _ _ _ _ _ _ _ P Q _ HP9.out HQ9.out (by omega) (by omega)).mono fun e w h => (⟨(h.1.resolve_left fun k => hfit k.1).2, h.2⟩ : e = .returned (.bool false) ∧ _)).mono ?_
              rintro e v10 ⟨rfl, hb⟩
              have HF10 := Lib.hid (HF9.out.later hb)
              clear hb hfit q0 q1 q2 q3
              have g0 : v10.cell? ⟨W.heap.size, 0, none⟩ = some (.bool false) := HF10.out.cell 0 0 rfl rfl
              have g1 : v10.cell? ⟨W.heap.size, 1, none⟩ = some (.slice none 0 0) := HF10.out.cell 0 1 rfl rfl
              have g2 : v10.cell? ⟨W.heap.size, 2, none⟩ = some (.bool false) := HF10.out.cell 0 2 rfl rfl
              have g3 : v10.cell? ⟨W.heap.size, 3, none⟩ = some (.slice none 0 0) := HF10.out.cell 0 3 rfl rfl
              have gf0 : v10.frozen? ⟨W.heap.size, 0, none⟩ = false := HF10.out.frozen 0 0 rfl
              have gf1 : v10.frozen? ⟨W.heap.size, 1, none⟩ = false := HF10.out.frozen 0 1 rfl
              have gf2 : v10.frozen? ⟨W.heap.size, 2, none⟩ = false := HF10.out.frozen 0 2 rfl
              have gf3 : v10.frozen? ⟨W.heap.size, 3, none⟩ = false := HF10.out.frozen 0 3 rfl
              go_wp2
              obtain ⟨e0, e1, e2, e3, k1, k2, hbel⟩ := HF10.out.finK (c1 := 0) (c2 := 0) 0 rfl (Z16.nil _) (Z16.nil _)
              exact bodyPost_ret (v := .tuple #[.agg #[.bool false, .slice none 0 0, .bool false, .slice none 0 0], .int .i64 3]) (by simp only [Nat.add_zero] at e0 e1 e2 e3; simp [results, Tryz.results13, go_sem, e0, e1, e2, e3]) rfl ⟨false, none, 0, 0, false, none, 0, 0, 3, 0, 1, rfl, hbel, .inr ⟨HOKD.out, fun h => HNZ.out ⟨trivial, h.2⟩, .inr ⟨by rw [← HP.out, ← HQ.out]; exact HFIT.out, rfl, rfl, rfl⟩⟩, fun h => absurd h (by decide)⟩

set_option maxHeartbeats 2000000 in
theorem refDec_nil (ys : List UInt8) (W : World) (h0 : ys.length = 0) :
    Calls Tryz.prog 13 #[.string ⟨ys.toArray⟩] W (DecJ W false [] none) := by
  have hf : Fr W (W.alloc (.cells #[.bool false, .slice none 0 0, .bool false, .slice none 0 0] 35)) [(35, #[.bool false, .slice none 0 0, .bool false, .slice none 0 0])] := (Fr.nil W).alloc rfl _ _
  have HF := Lib.hid hf
  have t0 : ¬ (0 : Int) < (ys.length : Int) := by omega
  have t1 : (0 : Int) ≤ (ys.length : Int) := by omega
  have hA : (⟨ys.toArray⟩ : ByteArray).extract 0 0 = ⟨([] : List UInt8).toArray⟩ := by rw [str_take ys 0 (by omega)]; rfl
  clear hf h0
  go_enter Tryz.func13, Tryz.ntmps13
  go_wp2_with fail
  go_loop [5] (fun v => v = .int .i64 0) (fun v => 0)
  case atStart => exact rfl
  case round =>
    obtain rfl := hrel
    go_wp2_with fail
    refine (numeral16_any [] _ (by simp)).mono ?_
    rw [show numB [] = false from rfl]
    rintro e v2 ⟨rfl, rfl⟩
    go_wp2
    exact bodyPost_ret (v := .tuple #[.agg #[.bool false, .slice none 0 0, .bool false, .slice none 0 0], .int .i64 4]) (by simp [results, Tryz.results13, go_sem]) rfl ⟨false, none, 0, 0, false, none, 0, 0, 4, 0, 1, rfl, HF.out.below, .inl ⟨.inl rfl, rfl, rfl, rfl⟩, fun h => absurd h (by decide)⟩

theorem refDec_any (xs a : List UInt8) (b : Option (List UInt8)) (W : World) (hx : bare xs = dotText a b) (hc : 46 ∉ a) (hl : xs.length ≤ 10000000) :
    Calls Tryz.prog 13 #[.string ⟨xs.toArray⟩] W (DecJ W (Lib.hasPrefix xs [45]) a b) := by
  cases hp : Lib.hasPrefix xs [45] with
  | false =>
    have hb : bare xs = xs := by unfold bare Lib.trimPrefix; rw [hp]; rfl
    rw [hb] at hx
    by_cases hne : xs = []
    · subst hne
      cases b with
      | none => obtain rfl : a = [] := hx.symm; exact refDec_nil [] W rfl
      | some u => simp [dotText] at hx
    · subst hx
      cases b with
      | none => exact refDec_pos_none a W hl hc hp hne
      | some u => exact refDec_pos_some a u W hl hc hp hne
  | true =>
    cases xs with
    | nil => simp [Lib.hasPrefix] at hp
    | cons x t =>
      have h45 : x = 45 := by
        simp [Lib.hasPrefix] at hp
        exact hp.symm
      subst h45
      have hb : bare (45 :: t) = t := by unfold bare Lib.trimPrefix; simp [Lib.hasPrefix]
      rw [hb] at hx
      subst hx
      have hl2 : (dotText a b).length ≤ 10000000 := by simp at hl; omega
      cases b with
      | none => exact refDec_neg_none a W hl2 hc
      | some u => exact refDec_neg_some a u W hl2 hc
end Go.Proofs.YtcgnmihabkgecaaGreat
