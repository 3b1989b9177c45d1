/- Part 17 of the contracts: DecP, DecA. -/
import Derived.Deep.Cut
import Derived.Test.YtcgnmihabkgecaaGreatPart16

/- ParseDecimal. -/
set_option linter.unusedVariables false
set_option linter.unusedSimpArgs false
namespace Go.Proofs.YtcgnmihabkgecaaGreat
open Go.RowKit Go.Proofs

set_option maxRecDepth 4000 in
set_option maxHeartbeats 8000000 in
theorem parseDec_any (xs a : List UInt8) (b : Option (List UInt8)) (W : World) (hx : bare xs = dotText a b) (hc : 46 ∉ a) (hl : xs.length ≤ 100000000) :
    Calls Tryz.prog 12 #[.string ⟨xs.toArray⟩] W (OutDE W (Lib.hasPrefix xs [45]) a b) := by
  have hf : Fr W (W.alloc (.cells #[.bool false, .slice none 0 0, .slice none 0 0] 27)) [(27, #[.bool false, .slice none 0 0, .slice none 0 0])] := (Fr.nil W).alloc rfl _ _
  have HF := Lib.hid hf
  have hble : (bare xs).length ≤ xs.length := Lib.trimPrefix_le xs [45]
  rw [hx] at hble
  have hl1 := dotText_len a b
  obtain ⟨u, hu⟩ : ∃ u, u = partOf b := ⟨_, rfl⟩
  obtain ⟨p, hp⟩ : ∃ p, p = b.isSome := ⟨_, rfl⟩
  obtain ⟨s, hs⟩ : ∃ s, s = Lib.hasPrefix xs [45] := ⟨_, rfl⟩
  have HCUT := Lib.hid fun w => cut_dot a b w hc (by omega)
  have HB3 : Hid (a ≠ [48] → isPos a = false → okDec a b = false) := fun h1 h2 => by unfold okDec; rw [decide_eq_false h1, h2]; rfl
  have HB5 : Hid (p = true → (hasDigs u = false ∨ 64 < u.length) → okDec a b = false) := by
    intro h1 h2
    cases b with
    | none => rw [hp] at h1; cases h1
    | some t =>
      unfold okDec
      have h3 : okPart (some t) = false := by
        show (hasDigs t && decide (t.length ≤ 64)) = false
        have h4 : u = t := hu
        rcases h2 with h2 | h2
        · rw [← h4, h2]; rfl
        · rw [← h4, decide_eq_false (by omega), Bool.and_false]
      rw [h3, Bool.and_false]
  have HOK : Hid ((a = [48] ∨ isPos a = true) → (p = false ∨ (hasDigs u = true ∧ u.length ≤ 64)) → okDec a b = true) := by
    intro h1 h2
    unfold okDec
    have h3 : okPart b = true := by
      cases b with
      | none => rfl
      | some t =>
        have h4 : u = t := hu
        rcases h2 with h2 | h2
        · rw [hp] at h2; cases h2
        · show (hasDigs t && decide (t.length ≤ 64)) = true
          rw [← h4, h2.1, decide_eq_true h2.2]; rfl
    have h4 : (decide (a = [48]) || isPos a) = true := by
      rcases h1 with h1 | h1
      · rw [decide_eq_true h1]; rfl
      · rw [h1, Bool.or_true]
    rw [h3, h4]; rfl
  have HDG : Hid (okDec a b = true → (a ++ u).all isDig = true ∧ u.length ≤ 64) := by rw [hu]; exact ok_digits
  have HN : Hid (decN a b = dec (a ++ u)) := by show _ = _; rw [hu]; rfl
  have HD : Hid (sgn false (10 ^ u.length) = decD b) := by show _ = _; rw [hu]; rfl
  rw [← hu, ← hp] at HCUT
  rw [← hs]
  have hla0 : a.length ≤ 100000000 := by omega
  have hlu0 : u.length ≤ 100000000 := by rw [hu]; omega
  have HX := Lib.hid hx
  have HS := Lib.hid hs
  clear hf hx hc hl hble hl1 hu hp hs
  go_enter Tryz.func12, Tryz.ntmps12
  go_wp2_with fail
  refine (cut_any xs _).mono ?_
  rintro e w1 ⟨rfl, rfl⟩
  rw [HX.out, ← HS.out]
  go_wp2_with fail
  refine (HCUT.out _).mono ?_
  rintro e w2 ⟨rfl, hb⟩
  have HF2 := Lib.hid (HF.out.later hb)
  clear hb
  have g0 : w2.cell? ⟨W.heap.size, 0, none⟩ = some (.bool false) := HF2.out.cell 0 0 rfl rfl
  have g1 : w2.cell? ⟨W.heap.size, 1, none⟩ = some (.slice none 0 0) := HF2.out.cell 0 1 rfl rfl
  have g2 : w2.cell? ⟨W.heap.size, 2, none⟩ = some (.slice none 0 0) := HF2.out.cell 0 2 rfl rfl
  have gf0 : w2.frozen? ⟨W.heap.size, 0, none⟩ = false := HF2.out.frozen 0 0 rfl
  have gf1 : w2.frozen? ⟨W.heap.size, 1, none⟩ = false := HF2.out.frozen 0 1 rfl
  have gf2 : w2.frozen? ⟨W.heap.size, 2, none⟩ = false := HF2.out.frozen 0 2 rfl
  by_cases h48 : a = [48]
  · have t1 : (a == [48]) = true := by simpa using h48
    have t1b : (a != [48]) = false := by simpa using h48
    have HO1 : Hid (a = [48] ∨ isPos a = true) := .inl h48
    clear h48
    cases p with
    | false =>
      have HOKD := Lib.hid (HOK.out HO1.out (.inl rfl))
      clear HOK HB5
      have HDD := Lib.hid (HDG.out HOKD.out).1
      have hu64 : u.length ≤ 64 := (HDG.out HOKD.out).2
      by_cases hlong : 4933 < a.length
      · have t2 : (4933 : Int) < (a.length : Int) := by omega
        have HLONG := Lib.hid (long_dec s HOKD.out hlong)
        clear hlong
        go_wp2
        obtain ⟨e0, e1, e2, hq, hbel⟩ := HF2.out.finQ (cap := 0) (bc := 0) 0 rfl (Q32.zero _)
        exact bodyPost_ret (v := .tuple #[.agg #[.bool false, .slice none 0 0, .slice none 0 0], .int .i64 3]) (by simp only [Nat.add_zero] at e0 e1 e2; simp [results, Tryz.results12, go_sem, e0, e1, e2]) rfl ⟨false, none, 0, 0, none, 0, 0, 3, 0, 1, rfl, by omega, by omega, hq, hbel, .inr ⟨HOKD.out, HLONG.out.1, .inr ⟨HLONG.out.2, rfl, rfl, rfl⟩⟩⟩
      · have t2 : ¬ (4933 : Int) < (a.length : Int) := by omega
        have l1 : ¬ 9223372036854775807 < a.length + u.length := by omega
        go_wp2_with fail
        rw [bytes_append]
        refine (readDigits_any (a ++ u) _ (by rw [List.length_append]; omega) HDD.out).mono ?_
        have hlen : (a ++ u).length ≤ 5000 := by rw [List.length_append]; omega
        rintro e w3 ⟨ro, rl, rc, rfl, hr, hb⟩
        have HF3 := Lib.hid (HF2.out.later hb)
        have HR := Lib.hid hr
        have HRZ := Lib.hid hr.zero
        clear hb hr g0 g1 g2 gf0 gf1 gf2 t2 l1 hlong
        have g0 : w3.cell? ⟨W.heap.size, 0, none⟩ = some (.bool false) := HF3.out.cell 0 0 rfl rfl
        have g1 : w3.cell? ⟨W.heap.size, 1, none⟩ = some (.slice none 0 0) := HF3.out.cell 0 1 rfl rfl
        have g2 : w3.cell? ⟨W.heap.size, 2, none⟩ = some (.slice none 0 0) := HF3.out.cell 0 2 rfl rfl
        have gf0 : w3.frozen? ⟨W.heap.size, 0, none⟩ = false := HF3.out.frozen 0 0 rfl
        have gf1 : w3.frozen? ⟨W.heap.size, 1, none⟩ = false := HF3.out.frozen 0 1 rfl
        have gf2 : w3.frozen? ⟨W.heap.size, 2, none⟩ = false := HF3.out.frozen 0 2 rfl
        cases s with
        | true =>
          by_cases h0 : rl = 0
          · have t4 : ((rl : Int) == 0) = true := by rw [h0]; rfl
            have HZ : Hid (decN a b = 0) := by show _ = _; rw [HN.out]; exact HRZ.out.2 h0
            clear h0
            go_wp2
            obtain ⟨e0, e1, e2, hq, hbel⟩ := HF3.out.finQ (cap := 0) (bc := 0) 0 rfl (Q32.zero _)
            exact bodyPost_ret (v := .tuple #[.agg #[.bool false, .slice none 0 0, .slice none 0 0], .int .i64 4]) (by simp only [Nat.add_zero] at e0 e1 e2; simp [results, Tryz.results12, go_sem, e0, e1, e2]) rfl ⟨false, none, 0, 0, none, 0, 0, 4, 0, 1, rfl, by omega, by omega, hq, hbel, .inl ⟨.inr ⟨rfl, HZ.out⟩, rfl, rfl, rfl⟩⟩
          · have t4 : ((rl : Int) == 0) = false := by simp; omega
            have HNZ : Hid (¬ (true = true ∧ decN a b = 0)) := fun h => h0 (HRZ.out.1 (HN.out.symm.trans h.2))
            clear h0
            go_wp2_with fail
            refine (powerOfTen_any _ u.length _ rfl (by omega)).mono ?_
            rintro e w4 ⟨o4, l4, c4, rfl, hten, hl4, hb⟩
            have HF4 := Lib.hid (HF3.out.later hb)
            have HR4 := Lib.hid (HR.out.keep hb)
            clear hb
            go_wp2_with fail
            refine (signed_any false _ _ _ (10 ^ u.length) _ hten).mono ?_
            rintro e w5 ⟨n2, o2, l2, c2, rfl, hz2, hb⟩
            have hl2 : l2 ≤ 65 := by
              have h1 := hz2.n32
              rw [sgn_natAbs] at h1
              exact Nat.le_trans (h1.len_le hten.lt) (by omega)
            rw [HD.out] at hz2
            have HF5 := Lib.hid (HF4.out.later hb)
            have HR5 := Lib.hid (HR4.out.keep hb)
            obtain ⟨V, hV⟩ : ∃ V, V = w5.alloc (.cells #[.bool n2, .slice o2 l2 c2] 25) := ⟨_, rfl⟩
            have hf6 : Fr w5 V [(25, #[.bool n2, .slice o2 l2 c2])] := by rw [hV]; exact (Fr.nil w5).alloc rfl _ _
            have HF6 := Lib.hid (HF5.out.later hf6.below)
            have HG6 := Lib.hid hf6
            have HR6 := Lib.hid (HR5.out.keep hf6.below)
            have HZ6 := Lib.hid (hz2.keep hf6.below)
            have hsz : W.heap.size + 1 ≤ w5.heap.size := by have := HF5.out.size; simpa using this
            clear hb hf6 hz2 hten
            go_wp2_with fail
            rw [← hV]
            clear hV
            have a0 : V.cell? ⟨w5.heap.size, 0, none⟩ = some (.bool n2) := HG6.out.cell 0 0 rfl rfl
            have a1 : V.cell? ⟨w5.heap.size, 1, none⟩ = some (.slice o2 l2 c2) := HG6.out.cell 0 1 rfl rfl
            go_region_held3 (fun w' => w'.cell? ⟨w5.heap.size, 0, none⟩ = some (.bool n2) ∧ w'.cell? ⟨w5.heap.size, 1, none⟩ = some (.slice o2 l2 c2)) (first | (go_keep; done) | ((try dsimp only); (repeat' apply And.intro) <;> (first | (go_keep; done) | (rw [cell_set3 _ _ _ _ _ _ _ (by omega)]; assumption))))
              (first | (go_at_call 48; refine ((fittingRat_any _ _ _ _ _ _ _ (lowP (sgn true (dec (a ++ u))) (decD b)) (lowQ (sgn true (dec (a ++ u))) (decD b)) _ HQb.out (by omega) (by omega)).mono fun e w h => h.told).mono ?_; rintro e v3 ⟨n8, o8, l8, c8, u8, m8, d8, e8, P8, Q8, rfl, hl8, hm8, hz, hb, ht⟩; have HFc := Lib.hid (HFb.out.later hb); have HGc := Lib.hid (HGb.out.later hb); have HQc := Lib.hid hz; have HT := Lib.hid ht; clear hb hz ht; have f0 : v3.cell? ⟨w5.heap.size, 0, none⟩ = some (.bool n2) := HGc.out.cell 0 0 rfl rfl; have f1 : v3.cell? ⟨w5.heap.size, 1, none⟩ = some (.slice o2 l2 c2) := HGc.out.cell 0 1 rfl rfl; have z0 : v3.cell? ⟨W.heap.size, 0, none⟩ = some (.bool false) := HFc.out.cell 0 0 rfl rfl; have z1 : v3.cell? ⟨W.heap.size, 1, none⟩ = some (.slice none 0 0) := HFc.out.cell 0 1 rfl rfl; have z2 : v3.cell? ⟨W.heap.size, 2, none⟩ = some (.slice none 0 0) := HFc.out.cell 0 2 rfl rfl; have zf0 : v3.frozen? ⟨W.heap.size, 0, none⟩ = false := HFc.out.frozen 0 0 rfl; have zf1 : v3.frozen? ⟨W.heap.size, 1, none⟩ = false := HFc.out.frozen 0 1 rfl; have zf2 : v3.frozen? ⟨W.heap.size, 2, none⟩ = false := HFc.out.frozen 0 2 rfl) | (go_at_call 49; refine (reduced_L _ _ _ _ _ _ _ _ (sgn true (dec (a ++ u))) (decD b) _ HYa.out HZa.out hl3 (by omega) (decD_ne b)).mono ?_; rintro e v2 ⟨n7, o7, l7, c7, u7, m7, d7, rfl, hl7, hm7, hz, hb⟩; have HFb := Lib.hid (HFa.out.later hb); have HGb := Lib.hid (HGa.out.later hb); have HQb := Lib.hid hz; clear hb hz; have d0 : v2.cell? ⟨w5.heap.size, 0, none⟩ = some (.bool n2) := HGb.out.cell 0 0 rfl rfl; have d1 : v2.cell? ⟨w5.heap.size, 1, none⟩ = some (.slice o2 l2 c2) := HGb.out.cell 0 1 rfl rfl) | (go_at_call 46; refine (signed_any true _ _ _ (dec (a ++ u)) V.drew (HR6.out.keep (Below.refl _ _).drew)).mono ?_; rintro e v1 ⟨n3, o3, l3, c3, rfl, hz, hb⟩; have hbb := below_of_drew hb; have HFa := Lib.hid (HF6.out.later hbb); have HGa := Lib.hid (HG6.out.later hbb); have HZa := Lib.hid (HZ6.out.keep hbb); have HYa := Lib.hid hz; have hl3 : l3 ≤ 1000000000 := Nat.le_trans (hz.n32.len_le (by rw [sgn_natAbs]; exact dec_len HDD.out)) (by omega); clear hb hbb hz; have b0 : v1.cell? ⟨w5.heap.size, 0, none⟩ = some (.bool n2) := HGa.out.cell 0 0 rfl rfl; have b1 : v1.cell? ⟨w5.heap.size, 1, none⟩ = some (.slice o2 l2 c2) := HGa.out.cell 0 1 rfl rfl))
            go_wp2
            obtain ⟨e0, e1, e2, hq, hbel⟩ := HFc.out.finQ (cap := c8) (bc := d8) 0 rfl HQc.out
            exact bodyPost_ret (v := .tuple #[.agg #[.bool n8, .slice o8 l8 c8, .slice u8 m8 d8], .int .i64 e8]) (by simp only [Nat.add_zero] at e0 e1 e2; simp [results, Tryz.results12, go_sem, e0, e1, e2]) rfl ⟨n8, o8, l8, c8, u8, m8, d8, e8, P8, Q8, rfl, hl8, hm8, hq, hbel, .inr ⟨HOKD.out, fun h => HNZ.out ⟨trivial, h.2⟩, by rw [HN.out]; exact HT.out⟩⟩
        | false =>
          have HNZ : Hid (¬ (false = true ∧ decN a b = 0)) := fun h => absurd h.1 (by decide)
          go_wp2_with fail
          refine (powerOfTen_any _ u.length _ rfl (by omega)).mono ?_
          rintro e w4 ⟨o4, l4, c4, rfl, hten, hl4, hb⟩
          have HF4 := Lib.hid (HF3.out.later hb)
          have HR4 := Lib.hid (HR.out.keep hb)
          clear hb
          go_wp2_with fail
          refine (signed_any false _ _ _ (10 ^ u.length) _ hten).mono ?_
          rintro e w5 ⟨n2, o2, l2, c2, rfl, hz2, hb⟩
          have hl2 : l2 ≤ 65 := by
            have h1 := hz2.n32
            rw [sgn_natAbs] at h1
            exact Nat.le_trans (h1.len_le hten.lt) (by omega)
          rw [HD.out] at hz2
          have HF5 := Lib.hid (HF4.out.later hb)
          have HR5 := Lib.hid (HR4.out.keep hb)
          obtain ⟨V, hV⟩ : ∃ V, V = w5.alloc (.cells #[.bool n2, .slice o2 l2 c2] 25) := ⟨_, rfl⟩
          have hf6 : Fr w5 V [(25, #[.bool n2, .slice o2 l2 c2])] := by rw [hV]; exact (Fr.nil w5).alloc rfl _ _
          have HF6 := Lib.hid (HF5.out.later hf6.below)
          have HG6 := Lib.hid hf6
          have HR6 := Lib.hid (HR5.out.keep hf6.below)
          have HZ6 := Lib.hid (hz2.keep hf6.below)
          have hsz : W.heap.size + 1 ≤ w5.heap.size := by have := HF5.out.size; simpa using this
          clear hb hf6 hz2 hten
          go_wp2_with fail
          rw [← hV]
          clear hV
          have a0 : V.cell? ⟨w5.heap.size, 0, none⟩ = some (.bool n2) := HG6.out.cell 0 0 rfl rfl
          have a1 : V.cell? ⟨w5.heap.size, 1, none⟩ = some (.slice o2 l2 c2) := HG6.out.cell 0 1 rfl rfl
          go_region_held3 (fun w' => w'.cell? ⟨w5.heap.size, 0, none⟩ = some (.bool n2) ∧ w'.cell? ⟨w5.heap.size, 1, none⟩ = some (.slice o2 l2 c2)) (first | (go_keep; done) | ((try dsimp only); (repeat' apply And.intro) <;> (first | (go_keep; done) | (rw [cell_set3 _ _ _ _ _ _ _ (by omega)]; assumption))))
            (first | (go_at_call 48; refine ((fittingRat_any _ _ _ _ _ _ _ (lowP (sgn false (dec (a ++ u))) (decD b)) (lowQ (sgn false (dec (a ++ u))) (decD b)) _ HQb.out (by omega) (by omega)).mono fun e w h => h.told).mono ?_; rintro e v3 ⟨n8, o8, l8, c8, u8, m8, d8, e8, P8, Q8, rfl, hl8, hm8, hz, hb, ht⟩; have HFc := Lib.hid (HFb.out.later hb); have HGc := Lib.hid (HGb.out.later hb); have HQc := Lib.hid hz; have HT := Lib.hid ht; clear hb hz ht; have f0 : v3.cell? ⟨w5.heap.size, 0, none⟩ = some (.bool n2) := HGc.out.cell 0 0 rfl rfl; have f1 : v3.cell? ⟨w5.heap.size, 1, none⟩ = some (.slice o2 l2 c2) := HGc.out.cell 0 1 rfl rfl; have z0 : v3.cell? ⟨W.heap.size, 0, none⟩ = some (.bool false) := HFc.out.cell 0 0 rfl rfl; have z1 : v3.cell? ⟨W.heap.size, 1, none⟩ = some (.slice none 0 0) := HFc.out.cell 0 1 rfl rfl; have z2 : v3.cell? ⟨W.heap.size, 2, none⟩ = some (.slice none 0 0) := HFc.out.cell 0 2 rfl rfl; have zf0 : v3.frozen? ⟨W.heap.size, 0, none⟩ = false := HFc.out.frozen 0 0 rfl; have zf1 : v3.frozen? ⟨W.heap.size, 1, none⟩ = false := HFc.out.frozen 0 1 rfl; have zf2 : v3.frozen? ⟨W.heap.size, 2, none⟩ = false := HFc.out.frozen 0 2 rfl) | (go_at_call 49; refine (reduced_L _ _ _ _ _ _ _ _ (sgn false (dec (a ++ u))) (decD b) _ HYa.out HZa.out hl3 (by omega) (decD_ne b)).mono ?_; rintro e v2 ⟨n7, o7, l7, c7, u7, m7, d7, rfl, hl7, hm7, hz, hb⟩; have HFb := Lib.hid (HFa.out.later hb); have HGb := Lib.hid (HGa.out.later hb); have HQb := Lib.hid hz; clear hb hz; have d0 : v2.cell? ⟨w5.heap.size, 0, none⟩ = some (.bool n2) := HGb.out.cell 0 0 rfl rfl; have d1 : v2.cell? ⟨w5.heap.size, 1, none⟩ = some (.slice o2 l2 c2) := HGb.out.cell 0 1 rfl rfl) | (go_at_call 46; refine (signed_any false _ _ _ (dec (a ++ u)) V.drew (HR6.out.keep (Below.refl _ _).drew)).mono ?_; rintro e v1 ⟨n3, o3, l3, c3, rfl, hz, hb⟩; have hbb := below_of_drew hb; have HFa := Lib.hid (HF6.out.later hbb); have HGa := Lib.hid (HG6.out.later hbb); have HZa := Lib.hid (HZ6.out.keep hbb); have HYa := Lib.hid hz; have hl3 : l3 ≤ 1000000000 := Nat.le_trans (hz.n32.len_le (by rw [sgn_natAbs]; exact dec_len HDD.out)) (by omega); clear hb hbb hz; have b0 : v1.cell? ⟨w5.heap.size, 0, none⟩ = some (.bool n2) := HGa.out.cell 0 0 rfl rfl; have b1 : v1.cell? ⟨w5.heap.size, 1, none⟩ = some (.slice o2 l2 c2) := HGa.out.cell 0 1 rfl rfl))
          go_wp2
          obtain ⟨e0, e1, e2, hq, hbel⟩ := HFc.out.finQ (cap := c8) (bc := d8) 0 rfl HQc.out
          exact bodyPost_ret (v := .tuple #[.agg #[.bool n8, .slice o8 l8 c8, .slice u8 m8 d8], .int .i64 e8]) (by simp only [Nat.add_zero] at e0 e1 e2; simp [results, Tryz.results12, go_sem, e0, e1, e2]) rfl ⟨n8, o8, l8, c8, u8, m8, d8, e8, P8, Q8, rfl, hl8, hm8, hq, hbel, .inr ⟨HOKD.out, HNZ.out, by rw [HN.out]; exact HT.out⟩⟩
    | true =>
      go_wp2_with fail
      refine (hasDigits_any u _ (by omega)).mono ?_
      cases hd : hasDigs u with
      | false =>
        rintro e w3 ⟨rfl, rfl⟩
        have HE := Lib.hid (HB5.out trivial (.inl hd))
        clear hd
        go_wp2
        obtain ⟨e0, e1, e2, hq, hbel⟩ := HF2.out.finQ (cap := 0) (bc := 0) 0 rfl (Q32.zero _)
        exact bodyPost_ret (v := .tuple #[.agg #[.bool false, .slice none 0 0, .slice none 0 0], .int .i64 4]) (by simp only [Nat.add_zero] at e0 e1 e2; simp [results, Tryz.results12, go_sem, e0, e1, e2]) rfl ⟨false, none, 0, 0, none, 0, 0, 4, 0, 1, rfl, by omega, by omega, hq, hbel, .inl ⟨.inl HE.out, rfl, rfl, rfl⟩⟩
      | true =>
        rintro e w3 ⟨rfl, rfl⟩
        by_cases h64 : u.length ≤ 64
        · have HOKD := Lib.hid (HOK.out HO1.out (.inr ⟨hd, h64⟩))
          have t5 : ¬ (64 : Int) < (u.length : Int) := by omega
          clear HOK HB5 hd h64
          have HDD := Lib.hid (HDG.out HOKD.out).1
          have hu64 : u.length ≤ 64 := (HDG.out HOKD.out).2
          by_cases hlong : 4933 < a.length
          · have t2 : (4933 : Int) < (a.length : Int) := by omega
            have HLONG := Lib.hid (long_dec s HOKD.out hlong)
            clear hlong
            go_wp2
            obtain ⟨e0, e1, e2, hq, hbel⟩ := HF2.out.finQ (cap := 0) (bc := 0) 0 rfl (Q32.zero _)
            exact bodyPost_ret (v := .tuple #[.agg #[.bool false, .slice none 0 0, .slice none 0 0], .int .i64 3]) (by simp only [Nat.add_zero] at e0 e1 e2; simp [results, Tryz.results12, go_sem, e0, e1, e2]) rfl ⟨false, none, 0, 0, none, 0, 0, 3, 0, 1, rfl, by omega, by omega, hq, hbel, .inr ⟨HOKD.out, HLONG.out.1, .inr ⟨HLONG.out.2, rfl, rfl, rfl⟩⟩⟩
          · have t2 : ¬ (4933 : Int) < (a.length : Int) := by omega
            have l1 : ¬ 9223372036854775807 < a.length + u.length := by omega
            go_wp2_with fail
            rw [bytes_append]
            refine (readDigits_any (a ++ u) _ (by rw [List.length_append]; omega) HDD.out).mono ?_
            have hlen : (a ++ u).length ≤ 5000 := by rw [List.length_append]; omega
            rintro e w3 ⟨ro, rl, rc, rfl, hr, hb⟩
            have HF3 := Lib.hid (HF2.out.later hb)
            have HR := Lib.hid hr
            have HRZ := Lib.hid hr.zero
            clear hb hr g0 g1 g2 gf0 gf1 gf2 t2 l1 hlong
            have g0 : w3.cell? ⟨W.heap.size, 0, none⟩ = some (.bool false) := HF3.out.cell 0 0 rfl rfl
            have g1 : w3.cell? ⟨W.heap.size, 1, none⟩ = some (.slice none 0 0) := HF3.out.cell 0 1 rfl rfl
            have g2 : w3.cell? ⟨W.heap.size, 2, none⟩ = some (.slice none 0 0) := HF3.out.cell 0 2 rfl rfl
            have gf0 : w3.frozen? ⟨W.heap.size, 0, none⟩ = false := HF3.out.frozen 0 0 rfl
            have gf1 : w3.frozen? ⟨W.heap.size, 1, none⟩ = false := HF3.out.frozen 0 1 rfl
            have gf2 : w3.frozen? ⟨W.heap.size, 2, none⟩ = false := HF3.out.frozen 0 2 rfl
            cases s with
            | true =>
              by_cases h0 : rl = 0
              · have t4 : ((rl : Int) == 0) = true := by rw [h0]; rfl
                have HZ : Hid (decN a b = 0) := by show _ = _; rw [HN.out]; exact HRZ.out.2 h0
                clear h0
                go_wp2
                obtain ⟨e0, e1, e2, hq, hbel⟩ := HF3.out.finQ (cap := 0) (bc := 0) 0 rfl (Q32.zero _)
                exact bodyPost_ret (v := .tuple #[.agg #[.bool false, .slice none 0 0, .slice none 0 0], .int .i64 4]) (by simp only [Nat.add_zero] at e0 e1 e2; simp [results, Tryz.results12, go_sem, e0, e1, e2]) rfl ⟨false, none, 0, 0, none, 0, 0, 4, 0, 1, rfl, by omega, by omega, hq, hbel, .inl ⟨.inr ⟨rfl, HZ.out⟩, rfl, rfl, rfl⟩⟩
              · have t4 : ((rl : Int) == 0) = false := by simp; omega
                have HNZ : Hid (¬ (true = true ∧ decN a b = 0)) := fun h => h0 (HRZ.out.1 (HN.out.symm.trans h.2))
                clear h0
                go_wp2_with fail
                refine (powerOfTen_any _ u.length _ rfl (by omega)).mono ?_
                rintro e w4 ⟨o4, l4, c4, rfl, hten, hl4, hb⟩
                have HF4 := Lib.hid (HF3.out.later hb)
                have HR4 := Lib.hid (HR.out.keep hb)
                clear hb
                go_wp2_with fail
                refine (signed_any false _ _ _ (10 ^ u.length) _ hten).mono ?_
                rintro e w5 ⟨n2, o2, l2, c2, rfl, hz2, hb⟩
                have hl2 : l2 ≤ 65 := by
                  have h1 := hz2.n32
                  rw [sgn_natAbs] at h1
                  exact Nat.le_trans (h1.len_le hten.lt) (by omega)
                rw [HD.out] at hz2
                have HF5 := Lib.hid (HF4.out.later hb)
                have HR5 := Lib.hid (HR4.out.keep hb)
                obtain ⟨V, hV⟩ : ∃ V, V = w5.alloc (.cells #[.bool n2, .slice o2 l2 c2] 25) := ⟨_, rfl⟩
                have hf6 : Fr w5 V [(25, #[.bool n2, .slice o2 l2 c2])] := by rw [hV]; exact (Fr.nil w5).alloc rfl _ _
                have HF6 := Lib.hid (HF5.out.later hf6.below)
                have HG6 := Lib.hid hf6
                have HR6 := Lib.hid (HR5.out.keep hf6.below)
                have HZ6 := Lib.hid (hz2.keep hf6.below)
                have hsz : W.heap.size + 1 ≤ w5.heap.size := by have := HF5.out.size; simpa using this
                clear hb hf6 hz2 hten
                go_wp2_with fail
                rw [← hV]
                clear hV
                have a0 : V.cell? ⟨w5.heap.size, 0, none⟩ = some (.bool n2) := HG6.out.cell 0 0 rfl rfl
                have a1 : V.cell? ⟨w5.heap.size, 1, none⟩ = some (.slice o2 l2 c2) := HG6.out.cell 0 1 rfl rfl
                go_region_held3 (fun w' => w'.cell? ⟨w5.heap.size, 0, none⟩ = some (.bool n2) ∧ w'.cell? ⟨w5.heap.size, 1, none⟩ = some (.slice o2 l2 c2)) (first | (go_keep; done) | ((try dsimp only); (repeat' apply And.intro) <;> (first | (go_keep; done) | (rw [cell_set3 _ _ _ _ _ _ _ (by omega)]; assumption))))
                  (first | (go_at_call 48; refine ((fittingRat_any _ _ _ _ _ _ _ (lowP (sgn true (dec (a ++ u))) (decD b)) (lowQ (sgn true (dec (a ++ u))) (decD b)) _ HQb.out (by omega) (by omega)).mono fun e w h => h.told).mono ?_; rintro e v3 ⟨n8, o8, l8, c8, u8, m8, d8, e8, P8, Q8, rfl, hl8, hm8, hz, hb, ht⟩; have HFc := Lib.hid (HFb.out.later hb); have HGc := Lib.hid (HGb.out.later hb); have HQc := Lib.hid hz; have HT := Lib.hid ht; clear hb hz ht; have f0 : v3.cell? ⟨w5.heap.size, 0, none⟩ = some (.bool n2) := HGc.out.cell 0 0 rfl rfl; have f1 : v3.cell? ⟨w5.heap.size, 1, none⟩ = some (.slice o2 l2 c2) := HGc.out.cell 0 1 rfl rfl; have z0 : v3.cell? ⟨W.heap.size, 0, none⟩ = some (.bool false) := HFc.out.cell 0 0 rfl rfl; have z1 : v3.cell? ⟨W.heap.size, 1, none⟩ = some (.slice none 0 0) := HFc.out.cell 0 1 rfl rfl; have z2 : v3.cell? ⟨W.heap.size, 2, none⟩ = some (.slice none 0 0) := HFc.out.cell 0 2 rfl rfl; have zf0 : v3.frozen? ⟨W.heap.size, 0, none⟩ = false := HFc.out.frozen 0 0 rfl; have zf1 : v3.frozen? ⟨W.heap.size, 1, none⟩ = false := HFc.out.frozen 0 1 rfl; have zf2 : v3.frozen? ⟨W.heap.size, 2, none⟩ = false := HFc.out.frozen 0 2 rfl) | (go_at_call 49; refine (reduced_L _ _ _ _ _ _ _ _ (sgn true (dec (a ++ u))) (decD b) _ HYa.out HZa.out hl3 (by omega) (decD_ne b)).mono ?_; rintro e v2 ⟨n7, o7, l7, c7, u7, m7, d7, rfl, hl7, hm7, hz, hb⟩; have HFb := Lib.hid (HFa.out.later hb); have HGb := Lib.hid (HGa.out.later hb); have HQb := Lib.hid hz; clear hb hz; have d0 : v2.cell? ⟨w5.heap.size, 0, none⟩ = some (.bool n2) := HGb.out.cell 0 0 rfl rfl; have d1 : v2.cell? ⟨w5.heap.size, 1, none⟩ = some (.slice o2 l2 c2) := HGb.out.cell 0 1 rfl rfl) | (go_at_call 46; refine (signed_any true _ _ _ (dec (a ++ u)) V.drew (HR6.out.keep (Below.refl _ _).drew)).mono ?_; rintro e v1 ⟨n3, o3, l3, c3, rfl, hz, hb⟩; have hbb := below_of_drew hb; have HFa := Lib.hid (HF6.out.later hbb); have HGa := Lib.hid (HG6.out.later hbb); have HZa := Lib.hid (HZ6.out.keep hbb); have HYa := Lib.hid hz; have hl3 : l3 ≤ 1000000000 := Nat.le_trans (hz.n32.len_le (by rw [sgn_natAbs]; exact dec_len HDD.out)) (by omega); clear hb hbb hz; have b0 : v1.cell? ⟨w5.heap.size, 0, none⟩ = some (.bool n2) := HGa.out.cell 0 0 rfl rfl; have b1 : v1.cell? ⟨w5.heap.size, 1, none⟩ = some (.slice o2 l2 c2) := HGa.out.cell 0 1 rfl rfl))
                go_wp2
                obtain ⟨e0, e1, e2, hq, hbel⟩ := HFc.out.finQ (cap := c8) (bc := d8) 0 rfl HQc.out
                exact bodyPost_ret (v := .tuple #[.agg #[.bool n8, .slice o8 l8 c8, .slice u8 m8 d8], .int .i64 e8]) (by simp only [Nat.add_zero] at e0 e1 e2; simp [results, Tryz.results12, go_sem, e0, e1, e2]) rfl ⟨n8, o8, l8, c8, u8, m8, d8, e8, P8, Q8, rfl, hl8, hm8, hq, hbel, .inr ⟨HOKD.out, fun h => HNZ.out ⟨trivial, h.2⟩, by rw [HN.out]; exact HT.out⟩⟩
            | false =>
              have HNZ : Hid (¬ (false = true ∧ decN a b = 0)) := fun h => absurd h.1 (by decide)
              go_wp2_with fail
              refine (powerOfTen_any _ u.length _ rfl (by omega)).mono ?_
              rintro e w4 ⟨o4, l4, c4, rfl, hten, hl4, hb⟩
              have HF4 := Lib.hid (HF3.out.later hb)
              have HR4 := Lib.hid (HR.out.keep hb)
              clear hb
              go_wp2_with fail
              refine (signed_any false _ _ _ (10 ^ u.length) _ hten).mono ?_
              rintro e w5 ⟨n2, o2, l2, c2, rfl, hz2, hb⟩
              have hl2 : l2 ≤ 65 := by
                have h1 := hz2.n32
                rw [sgn_natAbs] at h1
                exact Nat.le_trans (h1.len_le hten.lt) (by omega)
              rw [HD.out] at hz2
              have HF5 := Lib.hid (HF4.out.later hb)
              have HR5 := Lib.hid (HR4.out.keep hb)
              obtain ⟨V, hV⟩ : ∃ V, V = w5.alloc (.cells #[.bool n2, .slice o2 l2 c2] 25) := ⟨_, rfl⟩
              have hf6 : Fr w5 V [(25, #[.bool n2, .slice o2 l2 c2])] := by rw [hV]; exact (Fr.nil w5).alloc rfl _ _
              have HF6 := Lib.hid (HF5.out.later hf6.below)
              have HG6 := Lib.hid hf6
              have HR6 := Lib.hid (HR5.out.keep hf6.below)
              have HZ6 := Lib.hid (hz2.keep hf6.below)
              have hsz : W.heap.size + 1 ≤ w5.heap.size := by have := HF5.out.size; simpa using this
              clear hb hf6 hz2 hten
              go_wp2_with fail
              rw [← hV]
              clear hV
              have a0 : V.cell? ⟨w5.heap.size, 0, none⟩ = some (.bool n2) := HG6.out.cell 0 0 rfl rfl
              have a1 : V.cell? ⟨w5.heap.size, 1, none⟩ = some (.slice o2 l2 c2) := HG6.out.cell 0 1 rfl rfl
              go_region_held3 (fun w' => w'.cell? ⟨w5.heap.size, 0, none⟩ = some (.bool n2) ∧ w'.cell? ⟨w5.heap.size, 1, none⟩ = some (.slice o2 l2 c2)) (first | (go_keep; done) | ((try dsimp only); (repeat' apply And.intro) <;> (first | (go_keep; done) | (rw [cell_set3 _ _ _ _ _ _ _ (by omega)]; assumption))))
                (first | (go_at_call 48; refine ((fittingRat_any _ _ _ _ _ _ _ (lowP (sgn false (dec (a ++ u))) (decD b)) (lowQ (sgn false (dec (a ++ u))) (decD b)) _ HQb.out (by omega) (by omega)).mono fun e w h => h.told).mono ?_; rintro e v3 ⟨n8, o8, l8, c8, u8, m8, d8, e8, P8, Q8, rfl, hl8, hm8, hz, hb, ht⟩; have HFc := Lib.hid (HFb.out.later hb); have HGc := Lib.hid (HGb.out.later hb); have HQc := Lib.hid hz; have HT := Lib.hid ht; clear hb hz ht; have f0 : v3.cell? ⟨w5.heap.size, 0, none⟩ = some (.bool n2) := HGc.out.cell 0 0 rfl rfl; have f1 : v3.cell? ⟨w5.heap.size, 1, none⟩ = some (.slice o2 l2 c2) := HGc.out.cell 0 1 rfl rfl; have z0 : v3.cell? ⟨W.heap.size, 0, none⟩ = some (.bool false) := HFc.out.cell 0 0 rfl rfl; have z1 : v3.cell? ⟨W.heap.size, 1, none⟩ = some (.slice none 0 0) := HFc.out.cell 0 1 rfl rfl; have z2 : v3.cell? ⟨W.heap.size, 2, none⟩ = some (.slice none 0 0) := HFc.out.cell 0 2 rfl rfl; have zf0 : v3.frozen? ⟨W.heap.size, 0, none⟩ = false := HFc.out.frozen 0 0 rfl; have zf1 : v3.frozen? ⟨W.heap.size, 1, none⟩ = false := HFc.out.frozen 0 1 rfl; have zf2 : v3.frozen? ⟨W.heap.size, 2, none⟩ = false := HFc.out.frozen 0 2 rfl) | (go_at_call 49; refine (reduced_L _ _ _ _ _ _ _ _ (sgn false (dec (a ++ u))) (decD b) _ HYa.out HZa.out hl3 (by omega) (decD_ne b)).mono ?_; rintro e v2 ⟨n7, o7, l7, c7, u7, m7, d7, rfl, hl7, hm7, hz, hb⟩; have HFb := Lib.hid (HFa.out.later hb); have HGb := Lib.hid (HGa.out.later hb); have HQb := Lib.hid hz; clear hb hz; have d0 : v2.cell? ⟨w5.heap.size, 0, none⟩ = some (.bool n2) := HGb.out.cell 0 0 rfl rfl; have d1 : v2.cell? ⟨w5.heap.size, 1, none⟩ = some (.slice o2 l2 c2) := HGb.out.cell 0 1 rfl rfl) | (go_at_call 46; refine (signed_any false _ _ _ (dec (a ++ u)) V.drew (HR6.out.keep (Below.refl _ _).drew)).mono ?_; rintro e v1 ⟨n3, o3, l3, c3, rfl, hz, hb⟩; have hbb := below_of_drew hb; have HFa := Lib.hid (HF6.out.later hbb); have HGa := Lib.hid (HG6.out.later hbb); have HZa := Lib.hid (HZ6.out.keep hbb); have HYa := Lib.hid hz; have hl3 : l3 ≤ 1000000000 := Nat.le_trans (hz.n32.len_le (by rw [sgn_natAbs]; exact dec_len HDD.out)) (by omega); clear hb hbb hz; have b0 : v1.cell? ⟨w5.heap.size, 0, none⟩ = some (.bool n2) := HGa.out.cell 0 0 rfl rfl; have b1 : v1.cell? ⟨w5.heap.size, 1, none⟩ = some (.slice o2 l2 c2) := HGa.out.cell 0 1 rfl rfl))
              go_wp2
              obtain ⟨e0, e1, e2, hq, hbel⟩ := HFc.out.finQ (cap := c8) (bc := d8) 0 rfl HQc.out
              exact bodyPost_ret (v := .tuple #[.agg #[.bool n8, .slice o8 l8 c8, .slice u8 m8 d8], .int .i64 e8]) (by simp only [Nat.add_zero] at e0 e1 e2; simp [results, Tryz.results12, go_sem, e0, e1, e2]) rfl ⟨n8, o8, l8, c8, u8, m8, d8, e8, P8, Q8, rfl, hl8, hm8, hq, hbel, .inr ⟨HOKD.out, HNZ.out, by rw [HN.out]; exact HT.out⟩⟩
        · have HE := Lib.hid (HB5.out trivial (.inr (by omega)))
          have t5 : (64 : Int) < (u.length : Int) := by omega
          clear hd h64
          go_wp2
          obtain ⟨e0, e1, e2, hq, hbel⟩ := HF2.out.finQ (cap := 0) (bc := 0) 0 rfl (Q32.zero _)
          exact bodyPost_ret (v := .tuple #[.agg #[.bool false, .slice none 0 0, .slice none 0 0], .int .i64 4]) (by simp only [Nat.add_zero] at e0 e1 e2; simp [results, Tryz.results12, go_sem, e0, e1, e2]) rfl ⟨false, none, 0, 0, none, 0, 0, 4, 0, 1, rfl, by omega, by omega, hq, hbel, .inl ⟨.inl HE.out, rfl, rfl, rfl⟩⟩
  · have t1 : (a == [48]) = false := by simpa using h48
    have t1b : (a != [48]) = true := by simpa using h48
    go_wp2_with fail
    refine (isPositive_any a _ (by omega)).mono ?_
    cases hpos : isPos a with
    | false =>
      rintro e w3 ⟨rfl, rfl⟩
      have HE := Lib.hid (HB3.out h48 hpos)
      clear hpos h48
      go_wp2
      obtain ⟨e0, e1, e2, hq, hbel⟩ := HF2.out.finQ (cap := 0) (bc := 0) 0 rfl (Q32.zero _)
      exact bodyPost_ret (v := .tuple #[.agg #[.bool false, .slice none 0 0, .slice none 0 0], .int .i64 4]) (by simp only [Nat.add_zero] at e0 e1 e2; simp [results, Tryz.results12, go_sem, e0, e1, e2]) rfl ⟨false, none, 0, 0, none, 0, 0, 4, 0, 1, rfl, by omega, by omega, hq, hbel, .inl ⟨.inl HE.out, rfl, rfl, rfl⟩⟩
    | true =>
      rintro e w3 ⟨rfl, rfl⟩
      have HO1 : Hid (a = [48] ∨ isPos a = true) := .inr hpos
      clear hpos h48
      cases p with
      | false =>
        have HOKD := Lib.hid (HOK.out HO1.out (.inl rfl))
        clear HOK HB5
        have HDD := Lib.hid (HDG.out HOKD.out).1
        have hu64 : u.length ≤ 64 := (HDG.out HOKD.out).2
        by_cases hlong : 4933 < a.length
        · have t2 : (4933 : Int) < (a.length : Int) := by omega
          have HLONG := Lib.hid (long_dec s HOKD.out hlong)
          clear hlong
          go_wp2
          obtain ⟨e0, e1, e2, hq, hbel⟩ := HF2.out.finQ (cap := 0) (bc := 0) 0 rfl (Q32.zero _)
          exact bodyPost_ret (v := .tuple #[.agg #[.bool false, .slice none 0 0, .slice none 0 0], .int .i64 3]) (by simp only [Nat.add_zero] at e0 e1 e2; simp [results, Tryz.results12, go_sem, e0, e1, e2]) rfl ⟨false, none, 0, 0, none, 0, 0, 3, 0, 1, rfl, by omega, by omega, hq, hbel, .inr ⟨HOKD.out, HLONG.out.1, .inr ⟨HLONG.out.2, rfl, rfl, rfl⟩⟩⟩
        · have t2 : ¬ (4933 : Int) < (a.length : Int) := by omega
          have l1 : ¬ 9223372036854775807 < a.length + u.length := by omega
          go_wp2_with fail
          rw [bytes_append]
          refine (readDigits_any (a ++ u) _ (by rw [List.length_append]; omega) HDD.out).mono ?_
          have hlen : (a ++ u).length ≤ 5000 := by rw [List.length_append]; omega
          rintro e w3 ⟨ro, rl, rc, rfl, hr, hb⟩
          have HF3 := Lib.hid (HF2.out.later hb)
          have HR := Lib.hid hr
          have HRZ := Lib.hid hr.zero
          clear hb hr g0 g1 g2 gf0 gf1 gf2 t2 l1 hlong
          have g0 : w3.cell? ⟨W.heap.size, 0, none⟩ = some (.bool false) := HF3.out.cell 0 0 rfl rfl
          have g1 : w3.cell? ⟨W.heap.size, 1, none⟩ = some (.slice none 0 0) := HF3.out.cell 0 1 rfl rfl
          have g2 : w3.cell? ⟨W.heap.size, 2, none⟩ = some (.slice none 0 0) := HF3.out.cell 0 2 rfl rfl
          have gf0 : w3.frozen? ⟨W.heap.size, 0, none⟩ = false := HF3.out.frozen 0 0 rfl
          have gf1 : w3.frozen? ⟨W.heap.size, 1, none⟩ = false := HF3.out.frozen 0 1 rfl
          have gf2 : w3.frozen? ⟨W.heap.size, 2, none⟩ = false := HF3.out.frozen 0 2 rfl
          cases s with
          | true =>
            by_cases h0 : rl = 0
            · have t4 : ((rl : Int) == 0) = true := by rw [h0]; rfl
              have HZ : Hid (decN a b = 0) := by show _ = _; rw [HN.out]; exact HRZ.out.2 h0
              clear h0
              go_wp2
              obtain ⟨e0, e1, e2, hq, hbel⟩ := HF3.out.finQ (cap := 0) (bc := 0) 0 rfl (Q32.zero _)
              exact bodyPost_ret (v := .tuple #[.agg #[.bool false, .slice none 0 0, .slice none 0 0], .int .i64 4]) (by simp only [Nat.add_zero] at e0 e1 e2; simp [results, Tryz.results12, go_sem, e0, e1, e2]) rfl ⟨false, none, 0, 0, none, 0, 0, 4, 0, 1, rfl, by omega, by omega, hq, hbel, .inl ⟨.inr ⟨rfl, HZ.out⟩, rfl, rfl, rfl⟩⟩
            · have t4 : ((rl : Int) == 0) = false := by simp; omega
              have HNZ : Hid (¬ (true = true ∧ decN a b = 0)) := fun h => h0 (HRZ.out.1 (HN.out.symm.trans h.2))
              clear h0
              go_wp2_with fail
              refine (powerOfTen_any _ u.length _ rfl (by omega)).mono ?_
              rintro e w4 ⟨o4, l4, c4, rfl, hten, hl4, hb⟩
              have HF4 := Lib.hid (HF3.out.later hb)
              have HR4 := Lib.hid (HR.out.keep hb)
              clear hb
              go_wp2_with fail
              refine (signed_any false _ _ _ (10 ^ u.length) _ hten).mono ?_
              rintro e w5 ⟨n2, o2, l2, c2, rfl, hz2, hb⟩
              have hl2 : l2 ≤ 65 := by
                have h1 := hz2.n32
                rw [sgn_natAbs] at h1
                exact Nat.le_trans (h1.len_le hten.lt) (by omega)
              rw [HD.out] at hz2
              have HF5 := Lib.hid (HF4.out.later hb)
              have HR5 := Lib.hid (HR4.out.keep hb)
              obtain ⟨V, hV⟩ : ∃ V, V = w5.alloc (.cells #[.bool n2, .slice o2 l2 c2] 25) := ⟨_, rfl⟩
              have hf6 : Fr w5 V [(25, #[.bool n2, .slice o2 l2 c2])] := by rw [hV]; exact (Fr.nil w5).alloc rfl _ _
              have HF6 := Lib.hid (HF5.out.later hf6.below)
              have HG6 := Lib.hid hf6
              have HR6 := Lib.hid (HR5.out.keep hf6.below)
              have HZ6 := Lib.hid (hz2.keep hf6.below)
              have hsz : W.heap.size + 1 ≤ w5.heap.size := by have := HF5.out.size; simpa using this
              clear hb hf6 hz2 hten
              go_wp2_with fail
              rw [← hV]
              clear hV
              have a0 : V.cell? ⟨w5.heap.size, 0, none⟩ = some (.bool n2) := HG6.out.cell 0 0 rfl rfl
              have a1 : V.cell? ⟨w5.heap.size, 1, none⟩ = some (.slice o2 l2 c2) := HG6.out.cell 0 1 rfl rfl
              go_region_held3 (fun w' => w'.cell? ⟨w5.heap.size, 0, none⟩ = some (.bool n2) ∧ w'.cell? ⟨w5.heap.size, 1, none⟩ = some (.slice o2 l2 c2)) (first | (go_keep; done) | ((try dsimp only); (repeat' apply And.intro) <;> (first | (go_keep; done) | (rw [cell_set3 _ _ _ _ _ _ _ (by omega)]; assumption))))
                (first | (go_at_call 48; refine ((fittingRat_any _ _ _ _ _ _ _ (lowP (sgn true (dec (a ++ u))) (decD b)) (lowQ (sgn true (dec (a ++ u))) (decD b)) _ HQb.out (by omega) (by omega)).mono fun e w h => h.told).mono ?_; rintro e v3 ⟨n8, o8, l8, c8, u8, m8, d8, e8, P8, Q8, rfl, hl8, hm8, hz, hb, ht⟩; have HFc := Lib.hid (HFb.out.later hb); have HGc := Lib.hid (HGb.out.later hb); have HQc := Lib.hid hz; have HT := Lib.hid ht; clear hb hz ht; have f0 : v3.cell? ⟨w5.heap.size, 0, none⟩ = some (.bool n2) := HGc.out.cell 0 0 rfl rfl; have f1 : v3.cell? ⟨w5.heap.size, 1, none⟩ = some (.slice o2 l2 c2) := HGc.out.cell 0 1 rfl rfl; have z0 : v3.cell? ⟨W.heap.size, 0, none⟩ = some (.bool false) := HFc.out.cell 0 0 rfl rfl; have z1 : v3.cell? ⟨W.heap.size, 1, none⟩ = some (.slice none 0 0) := HFc.out.cell 0 1 rfl rfl; have z2 : v3.cell? ⟨W.heap.size, 2, none⟩ = some (.slice none 0 0) := HFc.out.cell 0 2 rfl rfl; have zf0 : v3.frozen? ⟨W.heap.size, 0, none⟩ = false := HFc.out.frozen 0 0 rfl; have zf1 : v3.frozen? ⟨W.heap.size, 1, none⟩ = false := HFc.out.frozen 0 1 rfl; have zf2 : v3.frozen? ⟨W.heap.size, 2, none⟩ = false := HFc.out.frozen 0 2 rfl) | (go_at_call 49; refine (reduced_L _ _ _ _ _ _ _ _ (sgn true (dec (a ++ u))) (decD b) _ HYa.out HZa.out hl3 (by omega) (decD_ne b)).mono ?_; rintro e v2 ⟨n7, o7, l7, c7, u7, m7, d7, rfl, hl7, hm7, hz, hb⟩; have HFb := Lib.hid (HFa.out.later hb); have HGb := Lib.hid (HGa.out.later hb); have HQb := Lib.hid hz; clear hb hz; have d0 : v2.cell? ⟨w5.heap.size, 0, none⟩ = some (.bool n2) := HGb.out.cell 0 0 rfl rfl; have d1 : v2.cell? ⟨w5.heap.size, 1, none⟩ = some (.slice o2 l2 c2) := HGb.out.cell 0 1 rfl rfl) | (go_at_call 46; refine (signed_any true _ _ _ (dec (a ++ u)) V.drew (HR6.out.keep (Below.refl _ _).drew)).mono ?_; rintro e v1 ⟨n3, o3, l3, c3, rfl, hz, hb⟩; have hbb := below_of_drew hb; have HFa := Lib.hid (HF6.out.later hbb); have HGa := Lib.hid (HG6.out.later hbb); have HZa := Lib.hid (HZ6.out.keep hbb); have HYa := Lib.hid hz; have hl3 : l3 ≤ 1000000000 := Nat.le_trans (hz.n32.len_le (by rw [sgn_natAbs]; exact dec_len HDD.out)) (by omega); clear hb hbb hz; have b0 : v1.cell? ⟨w5.heap.size, 0, none⟩ = some (.bool n2) := HGa.out.cell 0 0 rfl rfl; have b1 : v1.cell? ⟨w5.heap.size, 1, none⟩ = some (.slice o2 l2 c2) := HGa.out.cell 0 1 rfl rfl))
              go_wp2
              obtain ⟨e0, e1, e2, hq, hbel⟩ := HFc.out.finQ (cap := c8) (bc := d8) 0 rfl HQc.out
              exact bodyPost_ret (v := .tuple #[.agg #[.bool n8, .slice o8 l8 c8, .slice u8 m8 d8], .int .i64 e8]) (by simp only [Nat.add_zero] at e0 e1 e2; simp [results, Tryz.results12, go_sem, e0, e1, e2]) rfl ⟨n8, o8, l8, c8, u8, m8, d8, e8, P8, Q8, rfl, hl8, hm8, hq, hbel, .inr ⟨HOKD.out, fun h => HNZ.out ⟨trivial, h.2⟩, by rw [HN.out]; exact HT.out⟩⟩
          | false =>
            have HNZ : Hid (¬ (false = true ∧ decN a b = 0)) := fun h => absurd h.1 (by decide)
            go_wp2_with fail
            refine (powerOfTen_any _ u.length _ rfl (by omega)).mono ?_
            rintro e w4 ⟨o4, l4, c4, rfl, hten, hl4, hb⟩
            have HF4 := Lib.hid (HF3.out.later hb)
            have HR4 := Lib.hid (HR.out.keep hb)
            clear hb
            go_wp2_with fail
            refine (signed_any false _ _ _ (10 ^ u.length) _ hten).mono ?_
            rintro e w5 ⟨n2, o2, l2, c2, rfl, hz2, hb⟩
            have hl2 : l2 ≤ 65 := by
              have h1 := hz2.n32
              rw [sgn_natAbs] at h1
              exact Nat.le_trans (h1.len_le hten.lt) (by omega)
            rw [HD.out] at hz2
            have HF5 := Lib.hid (HF4.out.later hb)
            have HR5 := Lib.hid (HR4.out.keep hb)
            obtain ⟨V, hV⟩ : ∃ V, V = w5.alloc (.cells #[.bool n2, .slice o2 l2 c2] 25) := ⟨_, rfl⟩
            have hf6 : Fr w5 V [(25, #[.bool n2, .slice o2 l2 c2])] := by rw [hV]; exact (Fr.nil w5).alloc rfl _ _
            have HF6 := Lib.hid (HF5.out.later hf6.below)
            have HG6 := Lib.hid hf6
            have HR6 := Lib.hid (HR5.out.keep hf6.below)
            have HZ6 := Lib.hid (hz2.keep hf6.below)
            have hsz : W.heap.size + 1 ≤ w5.heap.size := by have := HF5.out.size; simpa using this
            clear hb hf6 hz2 hten
            go_wp2_with fail
            rw [← hV]
            clear hV
            have a0 : V.cell? ⟨w5.heap.size, 0, none⟩ = some (.bool n2) := HG6.out.cell 0 0 rfl rfl
            have a1 : V.cell? ⟨w5.heap.size, 1, none⟩ = some (.slice o2 l2 c2) := HG6.out.cell 0 1 rfl rfl
            go_region_held3 (fun w' => w'.cell? ⟨w5.heap.size, 0, none⟩ = some (.bool n2) ∧ w'.cell? ⟨w5.heap.size, 1, none⟩ = some (.slice o2 l2 c2)) (first | (go_keep; done) | ((try dsimp only); (repeat' apply And.intro) <;> (first | (go_keep; done) | (rw [cell_set3 _ _ _ _ _ _ _ (by omega)]; assumption))))
              (first | (go_at_call 48; refine ((fittingRat_any _ _ _ _ _ _ _ (lowP (sgn false (dec (a ++ u))) (decD b)) (lowQ (sgn false (dec (a ++ u))) (decD b)) _ HQb.out (by omega) (by omega)).mono fun e w h => h.told).mono ?_; rintro e v3 ⟨n8, o8, l8, c8, u8, m8, d8, e8, P8, Q8, rfl, hl8, hm8, hz, hb, ht⟩; have HFc := Lib.hid (HFb.out.later hb); have HGc := Lib.hid (HGb.out.later hb); have HQc := Lib.hid hz; have HT := Lib.hid ht; clear hb hz ht; have f0 : v3.cell? ⟨w5.heap.size, 0, none⟩ = some (.bool n2) := HGc.out.cell 0 0 rfl rfl; have f1 : v3.cell? ⟨w5.heap.size, 1, none⟩ = some (.slice o2 l2 c2) := HGc.out.cell 0 1 rfl rfl; have z0 : v3.cell? ⟨W.heap.size, 0, none⟩ = some (.bool false) := HFc.out.cell 0 0 rfl rfl; have z1 : v3.cell? ⟨W.heap.size, 1, none⟩ = some (.slice none 0 0) := HFc.out.cell 0 1 rfl rfl; have z2 : v3.cell? ⟨W.heap.size, 2, none⟩ = some (.slice none 0 0) := HFc.out.cell 0 2 rfl rfl; have zf0 : v3.frozen? ⟨W.heap.size, 0, none⟩ = false := HFc.out.frozen 0 0 rfl; have zf1 : v3.frozen? ⟨W.heap.size, 1, none⟩ = false := HFc.out.frozen 0 1 rfl; have zf2 : v3.frozen? ⟨W.heap.size, 2, none⟩ = false := HFc.out.frozen 0 2 rfl) | (go_at_call 49; refine (reduced_L _ _ _ _ _ _ _ _ (sgn false (dec (a ++ u))) (decD b) _ HYa.out HZa.out hl3 (by omega) (decD_ne b)).mono ?_; rintro e v2 ⟨n7, o7, l7, c7, u7, m7, d7, rfl, hl7, hm7, hz, hb⟩; have HFb := Lib.hid (HFa.out.later hb); have HGb := Lib.hid (HGa.out.later hb); have HQb := Lib.hid hz; clear hb hz; have d0 : v2.cell? ⟨w5.heap.size, 0, none⟩ = some (.bool n2) := HGb.out.cell 0 0 rfl rfl; have d1 : v2.cell? ⟨w5.heap.size, 1, none⟩ = some (.slice o2 l2 c2) := HGb.out.cell 0 1 rfl rfl) | (go_at_call 46; refine (signed_any false _ _ _ (dec (a ++ u)) V.drew (HR6.out.keep (Below.refl _ _).drew)).mono ?_; rintro e v1 ⟨n3, o3, l3, c3, rfl, hz, hb⟩; have hbb := below_of_drew hb; have HFa := Lib.hid (HF6.out.later hbb); have HGa := Lib.hid (HG6.out.later hbb); have HZa := Lib.hid (HZ6.out.keep hbb); have HYa := Lib.hid hz; have hl3 : l3 ≤ 1000000000 := Nat.le_trans (hz.n32.len_le (by rw [sgn_natAbs]; exact dec_len HDD.out)) (by omega); clear hb hbb hz; have b0 : v1.cell? ⟨w5.heap.size, 0, none⟩ = some (.bool n2) := HGa.out.cell 0 0 rfl rfl; have b1 : v1.cell? ⟨w5.heap.size, 1, none⟩ = some (.slice o2 l2 c2) := HGa.out.cell 0 1 rfl rfl))
            go_wp2
            obtain ⟨e0, e1, e2, hq, hbel⟩ := HFc.out.finQ (cap := c8) (bc := d8) 0 rfl HQc.out
            exact bodyPost_ret (v := .tuple #[.agg #[.bool n8, .slice o8 l8 c8, .slice u8 m8 d8], .int .i64 e8]) (by simp only [Nat.add_zero] at e0 e1 e2; simp [results, Tryz.results12, go_sem, e0, e1, e2]) rfl ⟨n8, o8, l8, c8, u8, m8, d8, e8, P8, Q8, rfl, hl8, hm8, hq, hbel, .inr ⟨HOKD.out, HNZ.out, by rw [HN.out]; exact HT.out⟩⟩
      | true =>
        go_wp2_with fail
        refine (hasDigits_any u _ (by omega)).mono ?_
        cases hd : hasDigs u with
        | false =>
          rintro e w3 ⟨rfl, rfl⟩
          have HE := Lib.hid (HB5.out trivial (.inl hd))
          clear hd
          go_wp2
          obtain ⟨e0, e1, e2, hq, hbel⟩ := HF2.out.finQ (cap := 0) (bc := 0) 0 rfl (Q32.zero _)
          exact bodyPost_ret (v := .tuple #[.agg #[.bool false, .slice none 0 0, .slice none 0 0], .int .i64 4]) (by simp only [Nat.add_zero] at e0 e1 e2; simp [results, Tryz.results12, go_sem, e0, e1, e2]) rfl ⟨false, none, 0, 0, none, 0, 0, 4, 0, 1, rfl, by omega, by omega, hq, hbel, .inl ⟨.inl HE.out, rfl, rfl, rfl⟩⟩
        | true =>
          rintro e w3 ⟨rfl, rfl⟩
          by_cases h64 : u.length ≤ 64
          · have HOKD := Lib.hid (HOK.out HO1.out (.inr ⟨hd, h64⟩))
            have t5 : ¬ (64 : Int) < (u.length : Int) := by omega
            clear HOK HB5 hd h64
            have HDD := Lib.hid (HDG.out HOKD.out).1
            have hu64 : u.length ≤ 64 := (HDG.out HOKD.out).2
            by_cases hlong : 4933 < a.length
            · have t2 : (4933 : Int) < (a.length : Int) := by omega
              have HLONG := Lib.hid (long_dec s HOKD.out hlong)
              clear hlong
              go_wp2
              obtain ⟨e0, e1, e2, hq, hbel⟩ := HF2.out.finQ (cap := 0) (bc := 0) 0 rfl (Q32.zero _)
              exact bodyPost_ret (v := .tuple #[.agg #[.bool false, .slice none 0 0, .slice none 0 0], .int .i64 3]) (by simp only [Nat.add_zero] at e0 e1 e2; simp [results, Tryz.results12, go_sem, e0, e1, e2]) rfl ⟨false, none, 0, 0, none, 0, 0, 3, 0, 1, rfl, by omega, by omega, hq, hbel, .inr ⟨HOKD.out, HLONG.out.1, .inr ⟨HLONG.out.2, rfl, rfl, rfl⟩⟩⟩
            · have t2 : ¬ (4933 : Int) < (a.length : Int) := by omega
              have l1 : ¬ 9223372036854775807 < a.length + u.length := by omega
              go_wp2_with fail
              rw [bytes_append]
              refine (readDigits_any (a ++ u) _ (by rw [List.length_append]; omega) HDD.out).mono ?_
              have hlen : (a ++ u).length ≤ 5000 := by rw [List.length_append]; omega
              rintro e w3 ⟨ro, rl, rc, rfl, hr, hb⟩
              have HF3 := Lib.hid (HF2.out.later hb)
              have HR := Lib.hid hr
              have HRZ := Lib.hid hr.zero
              clear hb hr g0 g1 g2 gf0 gf1 gf2 t2 l1 hlong
              have g0 : w3.cell? ⟨W.heap.size, 0, none⟩ = some (.bool false) := HF3.out.cell 0 0 rfl rfl
              have g1 : w3.cell? ⟨W.heap.size, 1, none⟩ = some (.slice none 0 0) := HF3.out.cell 0 1 rfl rfl
              have g2 : w3.cell? ⟨W.heap.size, 2, none⟩ = some (.slice none 0 0) := HF3.out.cell 0 2 rfl rfl
              have gf0 : w3.frozen? ⟨W.heap.size, 0, none⟩ = false := HF3.out.frozen 0 0 rfl
              have gf1 : w3.frozen? ⟨W.heap.size, 1, none⟩ = false := HF3.out.frozen 0 1 rfl
              have gf2 : w3.frozen? ⟨W.heap.size, 2, none⟩ = false := HF3.out.frozen 0 2 rfl
              cases s with
              | true =>
                by_cases h0 : rl = 0
                · have t4 : ((rl : Int) == 0) = true := by rw [h0]; rfl
                  have HZ : Hid (decN a b = 0) := by show _ = _; rw [HN.out]; exact HRZ.out.2 h0
                  clear h0
                  go_wp2
                  obtain ⟨e0, e1, e2, hq, hbel⟩ := HF3.out.finQ (cap := 0) (bc := 0) 0 rfl (Q32.zero _)
                  exact bodyPost_ret (v := .tuple #[.agg #[.bool false, .slice none 0 0, .slice none 0 0], .int .i64 4]) (by simp only [Nat.add_zero] at e0 e1 e2; simp [results, Tryz.results12, go_sem, e0, e1, e2]) rfl ⟨false, none, 0, 0, none, 0, 0, 4, 0, 1, rfl, by omega, by omega, hq, hbel, .inl ⟨.inr ⟨rfl, HZ.out⟩, rfl, rfl, rfl⟩⟩
                · have t4 : ((rl : Int) == 0) = false := by simp; omega
                  have HNZ : Hid (¬ (true = true ∧ decN a b = 0)) := fun h => h0 (HRZ.out.1 (HN.out.symm.trans h.2))
                  clear h0
                  go_wp2_with fail
                  refine (powerOfTen_any _ u.length _ rfl (by omega)).mono ?_
                  rintro e w4 ⟨o4, l4, c4, rfl, hten, hl4, hb⟩
                  have HF4 := Lib.hid (HF3.out.later hb)
                  have HR4 := Lib.hid (HR.out.keep hb)
                  clear hb
                  go_wp2_with fail
                  refine (signed_any false _ _ _ (10 ^ u.length) _ hten).mono ?_
                  rintro e w5 ⟨n2, o2, l2, c2, rfl, hz2, hb⟩
                  have hl2 : l2 ≤ 65 := by
                    have h1 := hz2.n32
                    rw [sgn_natAbs] at h1
                    exact Nat.le_trans (h1.len_le hten.lt) (by omega)
                  rw [HD.out] at hz2
                  have HF5 := Lib.hid (HF4.out.later hb)
                  have HR5 := Lib.hid (HR4.out.keep hb)
                  obtain ⟨V, hV⟩ : ∃ V, V = w5.alloc (.cells #[.bool n2, .slice o2 l2 c2] 25) := ⟨_, rfl⟩
                  have hf6 : Fr w5 V [(25, #[.bool n2, .slice o2 l2 c2])] := by rw [hV]; exact (Fr.nil w5).alloc rfl _ _
                  have HF6 := Lib.hid (HF5.out.later hf6.below)
                  have HG6 := Lib.hid hf6
                  have HR6 := Lib.hid (HR5.out.keep hf6.below)
                  have HZ6 := Lib.hid (hz2.keep hf6.below)
                  have hsz : W.heap.size + 1 ≤ w5.heap.size := by have := HF5.out.size; simpa using this
                  clear hb hf6 hz2 hten
                  go_wp2_with fail
                  rw [← hV]
                  clear hV
                  have a0 : V.cell? ⟨w5.heap.size, 0, none⟩ = some (.bool n2) := HG6.out.cell 0 0 rfl rfl
                  have a1 : V.cell? ⟨w5.heap.size, 1, none⟩ = some (.slice o2 l2 c2) := HG6.out.cell 0 1 rfl rfl
                  go_region_held3 (fun w' => w'.cell? ⟨w5.heap.size, 0, none⟩ = some (.bool n2) ∧ w'.cell? ⟨w5.heap.size, 1, none⟩ = some (.slice o2 l2 c2)) (first | (go_keep; done) | ((try dsimp only); (repeat' apply And.intro) <;> (first | (go_keep; done) | (rw [cell_set3 _ _ _ _ _ _ _ (by omega)]; assumption))))
                    (first | (go_at_call 48; refine ((fittingRat_any _ _ _ _ _ _ _ (lowP (sgn true (dec (a ++ u))) (decD b)) (lowQ (sgn true (dec (a ++ u))) (decD b)) _ HQb.out (by omega) (by omega)).mono fun e w h => h.told).mono ?_; rintro e v3 ⟨n8, o8, l8, c8, u8, m8, d8, e8, P8, Q8, rfl, hl8, hm8, hz, hb, ht⟩; have HFc := Lib.hid (HFb.out.later hb); have HGc := Lib.hid (HGb.out.later hb); have HQc := Lib.hid hz; have HT := Lib.hid ht; clear hb hz ht; have f0 : v3.cell? ⟨w5.heap.size, 0, none⟩ = some (.bool n2) := HGc.out.cell 0 0 rfl rfl; have f1 : v3.cell? ⟨w5.heap.size, 1, none⟩ = some (.slice o2 l2 c2) := HGc.out.cell 0 1 rfl rfl; have z0 : v3.cell? ⟨W.heap.size, 0, none⟩ = some (.bool false) := HFc.out.cell 0 0 rfl rfl; have z1 : v3.cell? ⟨W.heap.size, 1, none⟩ = some (.slice none 0 0) := HFc.out.cell 0 1 rfl rfl; have z2 : v3.cell? ⟨W.heap.size, 2, none⟩ = some (.slice none 0 0) := HFc.out.cell 0 2 rfl rfl; have zf0 : v3.frozen? ⟨W.heap.size, 0, none⟩ = false := HFc.out.frozen 0 0 rfl; have zf1 : v3.frozen? ⟨W.heap.size, 1, none⟩ = false := HFc.out.frozen 0 1 rfl; have zf2 : v3.frozen? ⟨W.heap.size, 2, none⟩ = false := HFc.out.frozen 0 2 rfl) | (go_at_call 49; refine (reduced_L _ _ _ _ _ _ _ _ (sgn true (dec (a ++ u))) (decD b) _ HYa.out HZa.out hl3 (by omega) (decD_ne b)).mono ?_; rintro e v2 ⟨n7, o7, l7, c7, u7, m7, d7, rfl, hl7, hm7, hz, hb⟩; have HFb := Lib.hid (HFa.out.later hb); have HGb := Lib.hid (HGa.out.later hb); have HQb := Lib.hid hz; clear hb hz; have d0 : v2.cell? ⟨w5.heap.size, 0, none⟩ = some (.bool n2) := HGb.out.cell 0 0 rfl rfl; have d1 : v2.cell? ⟨w5.heap.size, 1, none⟩ = some (.slice o2 l2 c2) := HGb.out.cell 0 1 rfl rfl) | (go_at_call 46; refine (signed_any true _ _ _ (dec (a ++ u)) V.drew (HR6.out.keep (Below.refl _ _).drew)).mono ?_; rintro e v1 ⟨n3, o3, l3, c3, rfl, hz, hb⟩; have hbb := below_of_drew hb; have HFa := Lib.hid (HF6.out.later hbb); have HGa := Lib.hid (HG6.out.later hbb); have HZa := Lib.hid (HZ6.out.keep hbb); have HYa := Lib.hid hz; have hl3 : l3 ≤ 1000000000 := Nat.le_trans (hz.n32.len_le (by rw [sgn_natAbs]; exact dec_len HDD.out)) (by omega); clear hb hbb hz; have b0 : v1.cell? ⟨w5.heap.size, 0, none⟩ = some (.bool n2) := HGa.out.cell 0 0 rfl rfl; have b1 : v1.cell? ⟨w5.heap.size, 1, none⟩ = some (.slice o2 l2 c2) := HGa.out.cell 0 1 rfl rfl))
                  go_wp2
                  obtain ⟨e0, e1, e2, hq, hbel⟩ := HFc.out.finQ (cap := c8) (bc := d8) 0 rfl HQc.out
                  exact bodyPost_ret (v := .tuple #[.agg #[.bool n8, .slice o8 l8 c8, .slice u8 m8 d8], .int .i64 e8]) (by simp only [Nat.add_zero] at e0 e1 e2; simp [results, Tryz.results12, go_sem, e0, e1, e2]) rfl ⟨n8, o8, l8, c8, u8, m8, d8, e8, P8, Q8, rfl, hl8, hm8, hq, hbel, .inr ⟨HOKD.out, fun h => HNZ.out ⟨trivial, h.2⟩, by rw [HN.out]; exact HT.out⟩⟩
              | false =>
                have HNZ : Hid (¬ (false = true ∧ decN a b = 0)) := fun h => absurd h.1 (by decide)
                go_wp2_with fail
                refine (powerOfTen_any _ u.length _ rfl (by omega)).mono ?_
                rintro e w4 ⟨o4, l4, c4, rfl, hten, hl4, hb⟩
                have HF4 := Lib.hid (HF3.out.later hb)
                have HR4 := Lib.hid (HR.out.keep hb)
                clear hb
                go_wp2_with fail
                refine (signed_any false _ _ _ (10 ^ u.length) _ hten).mono ?_
                rintro e w5 ⟨n2, o2, l2, c2, rfl, hz2, hb⟩
                have hl2 : l2 ≤ 65 := by
                  have h1 := hz2.n32
                  rw [sgn_natAbs] at h1
                  exact Nat.le_trans (h1.len_le hten.lt) (by omega)
                rw [HD.out] at hz2
                have HF5 := Lib.hid (HF4.out.later hb)
                have HR5 := Lib.hid (HR4.out.keep hb)
                obtain ⟨V, hV⟩ : ∃ V, V = w5.alloc (.cells #[.bool n2, .slice o2 l2 c2] 25) := ⟨_, rfl⟩
                have hf6 : Fr w5 V [(25, #[.bool n2, .slice o2 l2 c2])] := by rw [hV]; exact (Fr.nil w5).alloc rfl _ _
                have HF6 := Lib.hid (HF5.out.later hf6.below)
                have HG6 := Lib.hid hf6
                have HR6 := Lib.hid (HR5.out.keep hf6.below)
                have HZ6 := Lib.hid (hz2.keep hf6.below)
                have hsz : W.heap.size + 1 ≤ w5.heap.size := by have := HF5.out.size; simpa using this
                clear hb hf6 hz2 hten
                go_wp2_with fail
                rw [← hV]
                clear hV
                have a0 : V.cell? ⟨w5.heap.size, 0, none⟩ = some (.bool n2) := HG6.out.cell 0 0 rfl rfl
                have a1 : V.cell? ⟨w5.heap.size, 1, none⟩ = some (.slice o2 l2 c2) := HG6.out.cell 0 1 rfl rfl
                go_region_held3 (fun w' => w'.cell? ⟨w5.heap.size, 0, none⟩ = some (.bool n2) ∧ w'.cell? ⟨w5.heap.size, 1, none⟩ = some (.slice o2 l2 c2)) (first | (go_keep; done) | ((try dsimp only); (repeat' apply And.intro) <;> (first | (go_keep; done) | (rw [cell_set3 _ _ _ _ _ _ _ (by omega)]; assumption))))
                  (first | (go_at_call 48; refine ((fittingRat_any _ _ _ _ _ _ _ (lowP (sgn false (dec (a ++ u))) (decD b)) (lowQ (sgn false (dec (a ++ u))) (decD b)) _ HQb.out (by omega) (by omega)).mono fun e w h => h.told).mono ?_; rintro e v3 ⟨n8, o8, l8, c8, u8, m8, d8, e8, P8, Q8, rfl, hl8, hm8, hz, hb, ht⟩; have HFc := Lib.hid (HFb.out.later hb); have HGc := Lib.hid (HGb.out.later hb); have HQc := Lib.hid hz; have HT := Lib.hid ht; clear hb hz ht; have f0 : v3.cell? ⟨w5.heap.size, 0, none⟩ = some (.bool n2) := HGc.out.cell 0 0 rfl rfl; have f1 : v3.cell? ⟨w5.heap.size, 1, none⟩ = some (.slice o2 l2 c2) := HGc.out.cell 0 1 rfl rfl; have z0 : v3.cell? ⟨W.heap.size, 0, none⟩ = some (.bool false) := HFc.out.cell 0 0 rfl rfl; have z1 : v3.cell? ⟨W.heap.size, 1, none⟩ = some (.slice none 0 0) := HFc.out.cell 0 1 rfl rfl; have z2 : v3.cell? ⟨W.heap.size, 2, none⟩ = some (.slice none 0 0) := HFc.out.cell 0 2 rfl rfl; have zf0 : v3.frozen? ⟨W.heap.size, 0, none⟩ = false := HFc.out.frozen 0 0 rfl; have zf1 : v3.frozen? ⟨W.heap.size, 1, none⟩ = false := HFc.out.frozen 0 1 rfl; have zf2 : v3.frozen? ⟨W.heap.size, 2, none⟩ = false := HFc.out.frozen 0 2 rfl) | (go_at_call 49; refine (reduced_L _ _ _ _ _ _ _ _ (sgn false (dec (a ++ u))) (decD b) _ HYa.out HZa.out hl3 (by omega) (decD_ne b)).mono ?_; rintro e v2 ⟨n7, o7, l7, c7, u7, m7, d7, rfl, hl7, hm7, hz, hb⟩; have HFb := Lib.hid (HFa.out.later hb); have HGb := Lib.hid (HGa.out.later hb); have HQb := Lib.hid hz; clear hb hz; have d0 : v2.cell? ⟨w5.heap.size, 0, none⟩ = some (.bool n2) := HGb.out.cell 0 0 rfl rfl; have d1 : v2.cell? ⟨w5.heap.size, 1, none⟩ = some (.slice o2 l2 c2) := HGb.out.cell 0 1 rfl rfl) | (go_at_call 46; refine (signed_any false _ _ _ (dec (a ++ u)) V.drew (HR6.out.keep (Below.refl _ _).drew)).mono ?_; rintro e v1 ⟨n3, o3, l3, c3, rfl, hz, hb⟩; have hbb := below_of_drew hb; have HFa := Lib.hid (HF6.out.later hbb); have HGa := Lib.hid (HG6.out.later hbb); have HZa := Lib.hid (HZ6.out.keep hbb); have HYa := Lib.hid hz; have hl3 : l3 ≤ 1000000000 := Nat.le_trans (hz.n32.len_le (by rw [sgn_natAbs]; exact dec_len HDD.out)) (by omega); clear hb hbb hz; have b0 : v1.cell? ⟨w5.heap.size, 0, none⟩ = some (.bool n2) := HGa.out.cell 0 0 rfl rfl; have b1 : v1.cell? ⟨w5.heap.size, 1, none⟩ = some (.slice o2 l2 c2) := HGa.out.cell 0 1 rfl rfl))
                go_wp2
                obtain ⟨e0, e1, e2, hq, hbel⟩ := HFc.out.finQ (cap := c8) (bc := d8) 0 rfl HQc.out
                exact bodyPost_ret (v := .tuple #[.agg #[.bool n8, .slice o8 l8 c8, .slice u8 m8 d8], .int .i64 e8]) (by simp only [Nat.add_zero] at e0 e1 e2; simp [results, Tryz.results12, go_sem, e0, e1, e2]) rfl ⟨n8, o8, l8, c8, u8, m8, d8, e8, P8, Q8, rfl, hl8, hm8, hq, hbel, .inr ⟨HOKD.out, HNZ.out, by rw [HN.out]; exact HT.out⟩⟩
          · have HE := Lib.hid (HB5.out trivial (.inr (by omega)))
            have t5 : (64 : Int) < (u.length : Int) := by omega
            clear hd h64
            go_wp2
            obtain ⟨e0, e1, e2, hq, hbel⟩ := HF2.out.finQ (cap := 0) (bc := 0) 0 rfl (Q32.zero _)
            exact bodyPost_ret (v := .tuple #[.agg #[.bool false, .slice none 0 0, .slice none 0 0], .int .i64 4]) (by simp only [Nat.add_zero] at e0 e1 e2; simp [results, Tryz.results12, go_sem, e0, e1, e2]) rfl ⟨false, none, 0, 0, none, 0, 0, 4, 0, 1, rfl, by omega, by omega, hq, hbel, .inl ⟨.inl HE.out, rfl, rfl, rfl⟩⟩
end Go.Proofs.YtcgnmihabkgecaaGreat

/- withPoint, for every number of places. -/
set_option linter.unusedVariables false
namespace Go.Proofs.YtcgnmihabkgecaaGreat
open Go.RowKit

/-- with zeros ahead, so that a digit stands before the point -/
def padded (l : List UInt8) (k : Nat) : List UInt8 := List.replicate (k + 1 - l.length) 48 ++ l
def pointedZ (l : List UInt8) (k : Nat) : List UInt8 := if k = 0 then l else pointed (padded l k) k

theorem repeat48 (c : Nat) : Lib.repeatL [48] c = List.replicate c (48 : UInt8) := by
  induction c with
  | zero => rfl
  | succ c ih => rw [List.replicate_succ, ← ih]; rfl

theorem padded_long {l : List UInt8} {k : Nat} (h : k < l.length) : padded l k = l := by
  unfold padded
  rw [show k + 1 - l.length = 0 by omega]; rfl

theorem padded_len (l : List UInt8) (k : Nat) : (padded l k).length ≤ l.length + k + 1 := by
  unfold padded; simp; omega

theorem pointedZ_len (l : List UInt8) (k : Nat) : (pointedZ l k).length ≤ l.length + k + 2 := by
  unfold pointedZ
  by_cases h : k = 0
  · rw [if_pos h]; omega
  · rw [if_neg h]
    have h1 := padded_len l k
    unfold pointed
    rw [if_neg h]
    simp
    omega

set_option maxHeartbeats 1000000 in
theorem withPoint_all (l : List UInt8) (K : Int) (k : Nat) (W : World) (hK : K = (k : Int)) (hk : k ≤ 64) (hl : l.length ≤ 1000000000000) :
    Calls Tryz.prog 68 #[.string ⟨l.toArray⟩, .int .i64 K] W (fun e w' => e = .returned (.string ⟨(pointedZ l k).toArray⟩) ∧ Below W.heap.size W w') := by
  by_cases h0 : k = 0
  · refine (withPoint_any l K k W hK (.inl h0) hl).mono fun e w h => ⟨?_, h.2.below⟩
    rw [h.1]
    unfold pointedZ pointed
    rw [if_pos h0, if_pos h0]
  by_cases h1 : k < l.length
  · refine (withPoint_any l K k W hK (.inr h1) hl).mono fun e w h => ⟨?_, h.2.below⟩
    rw [h.1]
    unfold pointedZ
    rw [if_neg h0, padded_long h1]
  subst hK
  obtain ⟨c, hc⟩ : ∃ c, c = k + 1 - l.length := ⟨_, rfl⟩
  have hc1 : 1 ≤ c := by omega
  have hc2 : c ≤ 65 := by omega
  have e1 : (k : Int) + 1 - (l.length : Int) = (c : Int) := by omega
  have b0 : ((k : Int) == 0) = false := by simp; omega
  have b1 : (l.length : Int) ≤ (k : Int) := by omega
  obtain ⟨p, hp⟩ : ∃ p, p = padded l k := ⟨_, rfl⟩
  have hpl : p.length = k + 1 := by rw [hp]; unfold padded; simp; omega
  have HE : Hid (pointedZ l k = p.take 1 ++ [46] ++ p.drop 1) := by
    show _ = _
    unfold pointedZ
    rw [if_neg h0, ← hp]
    unfold pointed
    rw [if_neg h0, hpl, show k + 1 - k = 1 by omega]
  have happ : (⟨(Lib.repeatL [48] c).toArray⟩ ++ ⟨l.toArray⟩ : ByteArray) = ⟨p.toArray⟩ := by
    rw [bytes_append, repeat48, hp, hc]; rfl
  have hrl : (Lib.repeatL [48] c).length = c := by rw [repeat48]; simp
  have HP := Lib.hid hpl
  rw [HE.out]
  clear hc hp h0 h1
  go_enter Tryz.func68, Tryz.ntmps68
  go_wp2_with fail
  refine (Tryz.strings_Repeat ⟨#[48]⟩ c _ (by omega) (by show 1 * c ≤ _; omega)).mono ?_
  rintro e w1 ⟨rfl, hb⟩
  have HB := Lib.hid hb
  clear hb
  go_upto_region 5 with fail
  have ej : ((p.length : Int) - (k : Int)) = 1 := by have := HP.out; omega
  have c2 : (1 : Int) ≤ (p.length : Int) := by have := HP.out; omega
  have c3 : 1 ≤ p.length := by have := HP.out; omega
  have c4 : ¬ p.length < 1 := by omega
  go_wp2_with fail
  go_region
  go_wp2
  go_ret
  refine ⟨congrArg (fun x => Ending.returned (Value.string x)) ?_, HB.out.drew⟩
  rw [bytes_extract, bytes_extract]
  have h1 := bytes_append (List.take (1 - 0) (List.drop 0 p)) [46]
  have h2 := bytes_append (List.take (1 - 0) (List.drop 0 p) ++ [46]) (List.take (k + 1 - 1) (List.drop 1 p))
  rw [← h1] at h2
  refine h2.trans ?_
  rw [List.drop_zero, Nat.sub_zero, List.take_of_length_le (l := List.drop 1 p) (by have := HP.out; simp; omega)]
end Go.Proofs.YtcgnmihabkgecaaGreat
