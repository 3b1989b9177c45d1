/- Part 14 of the contracts: RefRatP, Same, RatTextF, PlanC. -/
import Derived.Test.YtcgnmihabkgecaaGreatPart13

/- The specification's ParseRat. -/
set_option linter.unusedVariables false
set_option linter.unusedSimpArgs false
namespace Go.Proofs.YtcgnmihabkgecaaGreat
open Go.RowKit Go.Proofs

def RatJ (W : World) (a : List UInt8) (b : Option (List UInt8)) (e : Ending) (w' : World) : Prop :=
  ∃ s1 o1 l1 c1 s2 o2 l2 c2 er p q, e = .returned (.tuple #[.agg #[.bool s1, .slice o1 l1 c1, .bool s2, .slice o2 l2 c2], .int .i64 er]) ∧ Below W.heap.size W w' ∧ RatSays a b er p q ∧
    (er = 0 → l1 ≤ 1024 ∧ l2 ≤ 1024 ∧ Z16 w' s1 o1 l1 p ∧ Z16 w' s2 o2 l2 (q : Int))

def PJ (W : World) (ok : Int → Prop) (e : Ending) (w' : World) : Prop :=
  ∃ neg ao len cap er, e = .returned (.tuple #[.agg #[.bool neg, .slice ao len cap], .int .i64 er]) ∧ ok er ∧ Below W.heap.size W w'
theorem ParseJ.any {xs : List UInt8} {W w' : World} {e : Ending} (h : ParseJ xs W e w') : PJ W (fun _ => True) e w' := by
  obtain ⟨neg, ao, len, cap, er, he, hb, _⟩ := h
  exact ⟨neg, ao, len, cap, er, he, trivial, hb⟩
theorem ParseJ.bad {xs : List UInt8} {W w' : World} {e : Ending} (h : ParseJ xs W e w') (hn : isNum xs = false) : PJ W (fun er => er = 4) e w' := by
  obtain ⟨neg, ao, len, cap, er, he, hb, ⟨_, h1⟩ | ⟨h1, _⟩ | ⟨h1, _⟩⟩ := h
  · exact ⟨neg, ao, len, cap, er, he, h1, hb⟩
  · rw [hn] at h1; cases h1
  · rw [hn] at h1; cases h1
theorem ParseJ.num {xs : List UInt8} {W w' : World} {e : Ending} (h : ParseJ xs W e w') (hn : isNum xs = true) : PJ W (fun er => (er == 4) = false) e w' := by
  obtain ⟨neg, ao, len, cap, er, he, hb, ⟨h1, _⟩ | ⟨_, _, h1⟩ | ⟨_, _, h1, _⟩⟩ := h
  · rw [hn] at h1; cases h1
  · exact ⟨neg, ao, len, cap, er, he, by rw [h1]; rfl, hb⟩
  · exact ⟨neg, ao, len, cap, er, he, by rw [h1]; rfl, hb⟩
theorem ParseJ.nofit {xs : List UInt8} {W w' : World} {e : Ending} (h : ParseJ xs W e w') (hn : isNum xs = true) (hf : ¬ Fits (numZ xs)) : PJ W (fun er => er = 3) e w' := by
  obtain ⟨neg, ao, len, cap, er, he, hb, ⟨h1, _⟩ | ⟨_, _, h1⟩ | ⟨_, h1, _⟩⟩ := h
  · rw [hn] at h1; cases h1
  · exact ⟨neg, ao, len, cap, er, he, h1, hb⟩
  · exact absurd h1 hf
def PJF (W : World) (z : Int) (e : Ending) (w' : World) : Prop :=
  ∃ neg ao len cap, e = .returned (.tuple #[.agg #[.bool neg, .slice ao len cap], .int .i64 0]) ∧ len ≤ 1024 ∧ len ≤ cap ∧ cap ≤ 9223372036854775807 ∧ Z16 w' neg ao len z ∧ Below W.heap.size W w'
theorem ParseJ.fit {xs : List UInt8} {W w' : World} {e : Ending} (h : ParseJ xs W e w') (hn : isNum xs = true) (hf : Fits (numZ xs)) : PJF W (numZ xs) e w' := by
  obtain ⟨neg, ao, len, cap, er, he, hb, ⟨h1, _⟩ | ⟨_, h1, _⟩ | ⟨_, _, h1, h2, h3, h4⟩⟩ := h
  · rw [hn] at h1; cases h1
  · exact absurd hf h1
  · rw [h1] at he
    exact ⟨neg, ao, len, cap, he, fits_len16 h4 hf, h2, h3, h4, hb⟩

set_option maxRecDepth 4000 in
set_option maxHeartbeats 4000000 in
theorem refParseRat_none (xs : List UInt8) (W : World) (hl : xs.length ≤ 100000000) (hc : 47 ∉ xs) :
    Calls Tryz.prog 9 #[.string ⟨xs.toArray⟩] W (RatJ W xs none) := by
  have hf : Fr W (W.alloc (.cells #[.bool false, .slice none 0 0, .bool false, .slice none 0 0] 35)) [(35, #[.bool false, .slice none 0 0, .bool false, .slice none 0 0])] := (Fr.nil W).alloc rfl _ _
  have HF := Lib.hid hf
  have HC := Lib.hid hc
  clear hf hc
  go_enter Tryz.func9, Tryz.ntmps9
  go_wp2_with fail
  go_loop [4] (fun t => ∃ k : Nat, k ≤ xs.length ∧ t = .int .i64 k) (fun t => xs.length - (intOf t).toNat)
  case atStart => exact ⟨0, by omega, rfl⟩
  case round =>
    obtain ⟨k, hk, rfl⟩ := hrel
    by_cases hlt : k < xs.length
    · have t1 : (k : Int) < (xs.length : Int) := by omega
      have hs : k < (⟨xs.toArray⟩ : ByteArray).size := by rw [str_size]; exact hlt
      have h7 : xs[k].toNat ≠ 47 := fun e => HC.out (by rw [← show xs[k] = 47 from UInt8.toNat_inj.1 e]; exact List.getElem_mem hlt)
      have t2 : ¬ ((((⟨xs.toArray⟩ : ByteArray)[k]'hs).toNat : Nat) : Int) = 47 := by show ¬ ((xs[k].toNat : Nat) : Int) = 47; omega
      have t3 : (((((⟨xs.toArray⟩ : ByteArray)[k]'hs).toNat : Nat) : Int) == 47) = false := by simpa using t2
      have t4 : (((((⟨xs.toArray⟩ : ByteArray)[k]'hs).toNat : Nat) : Int) != 47) = true := by simpa using t2
      clear h7
      go_wp2
      go_round
      case rel => exact ⟨k + 1, by omega, by go_num⟩
      case measure => simp [intOf]; omega
    · obtain rfl : k = xs.length := by omega
      have t1 : ¬ (xs.length : Int) < (xs.length : Int) := by omega
      clear hlt hk
      cases hn : isNum xs with
      | false =>
        go_wp2_with fail
        refine ((refParse_any xs _ hl).mono fun e w h => h.bad hn).mono ?_
        rintro e w1 ⟨n1, o1, l1, c1, er, rfl, rfl, hb⟩
        have HN : Hid (textOk xs none = false) := hn
        have HF1 := Lib.hid (HF.out.later hb)
        have hf2 : Fr w1 (w1.alloc (.cells #[.bool n1, .slice o1 l1 c1] 33)) [(33, #[.bool n1, .slice o1 l1 c1])] := (Fr.nil w1).alloc rfl _ _
        have HF2 := Lib.hid (HF1.out.later hf2.below)
        clear hn hb hf2
        have g0 : (w1.alloc (.cells #[.bool n1, .slice o1 l1 c1] 33)).cell? ⟨W.heap.size, 0, none⟩ = some (.bool false) := HF2.out.cell 0 0 rfl rfl
        have g1 : (w1.alloc (.cells #[.bool n1, .slice o1 l1 c1] 33)).cell? ⟨W.heap.size, 1, none⟩ = some (.slice none 0 0) := HF2.out.cell 0 1 rfl rfl
        have g2 : (w1.alloc (.cells #[.bool n1, .slice o1 l1 c1] 33)).cell? ⟨W.heap.size, 2, none⟩ = some (.bool false) := HF2.out.cell 0 2 rfl rfl
        have g3 : (w1.alloc (.cells #[.bool n1, .slice o1 l1 c1] 33)).cell? ⟨W.heap.size, 3, none⟩ = some (.slice none 0 0) := HF2.out.cell 0 3 rfl rfl
        have gf0 : (w1.alloc (.cells #[.bool n1, .slice o1 l1 c1] 33)).frozen? ⟨W.heap.size, 0, none⟩ = false := HF2.out.frozen 0 0 rfl
        have gf1 : (w1.alloc (.cells #[.bool n1, .slice o1 l1 c1] 33)).frozen? ⟨W.heap.size, 1, none⟩ = false := HF2.out.frozen 0 1 rfl
        have gf2 : (w1.alloc (.cells #[.bool n1, .slice o1 l1 c1] 33)).frozen? ⟨W.heap.size, 2, none⟩ = false := HF2.out.frozen 0 2 rfl
        have gf3 : (w1.alloc (.cells #[.bool n1, .slice o1 l1 c1] 33)).frozen? ⟨W.heap.size, 3, none⟩ = false := HF2.out.frozen 0 3 rfl
        go_wp2
        obtain ⟨e0, e1, e2, e3, k1, k2, hbel⟩ := HF2.out.finK (c1 := 0) (c2 := 0) 0 rfl (Z16.nil _) (Z16.nil _)
        exact bodyPost_ret (v := .tuple #[.agg #[.bool false, .slice none 0 0, .bool false, .slice none 0 0], .int .i64 4]) (by simp only [Nat.add_zero] at e0 e1 e2 e3; simp [results, Tryz.results9, go_sem, e0, e1, e2, e3]) rfl ⟨false, none, 0, 0, false, none, 0, 0, 4, 0, 1, rfl, hbel, .inl ⟨HN.out, rfl, rfl, rfl⟩, fun h => absurd h (by decide)⟩
      | true =>
        by_cases hfit : Fits (numZ xs)
        · go_wp2_with fail
          refine ((refParse_any xs _ hl).mono fun e w h => h.fit hn hfit).mono ?_
          rintro e w1 ⟨n1, o1, l1, c1, rfl, hl1, hc1, hm1, hz, hb⟩
          have HN : Hid (textOk xs none = true) := hn
          have HFIT : Hid (bothFit xs none) := hfit
          have HF1 := Lib.hid (HF.out.later hb)
          obtain ⟨V, hV⟩ : ∃ V, V = w1.alloc (.cells #[.bool n1, .slice o1 l1 c1] 33) := ⟨_, rfl⟩
          have hf2 : Fr w1 V [(33, #[.bool n1, .slice o1 l1 c1])] := by rw [hV]; exact (Fr.nil w1).alloc rfl _ _
          have HF2 := Lib.hid (HF1.out.later hf2.below)
          have HG2 := Lib.hid hf2
          have HZ2 := Lib.hid (hz.keep hf2.below)
          have hsz : W.heap.size + 1 ≤ w1.heap.size := by have := HF1.out.size; simpa using this
          clear hn hfit hz hb hf2
          go_wp2_with fail
          rw [← hV]
          clear hV
          have a0 : V.cell? ⟨w1.heap.size, 0, none⟩ = some (.bool n1) := HG2.out.cell 0 0 rfl rfl
          have a1 : V.cell? ⟨w1.heap.size, 1, none⟩ = some (.slice o1 l1 c1) := HG2.out.cell 0 1 rfl rfl
          go_region_held3 (fun w' => w'.cell? ⟨w1.heap.size, 0, none⟩ = some (.bool n1) ∧ w'.cell? ⟨w1.heap.size, 1, none⟩ = some (.slice o1 l1 c1)) (first | (go_keep; done) | ((try dsimp only); (repeat' apply And.intro) <;> (first | (go_keep; done) | (rw [cell_set4 _ _ _ _ _ _ _ _ (by omega)]; assumption))))
            ((go_at_call 36; refine (refOf_any 1 V.drew (by omega) (by omega)).mono ?_; rintro e w3 ⟨n2, o2, l2, c2, rfl, hc2, hm2, hy, hb⟩; have hbb := below_of_drew hb; have HF3 := Lib.hid (HF2.out.later hbb); have HG3 := Lib.hid (HG2.out.later hbb); have HZ3 := Lib.hid (HZ2.out.keep hbb); have HY3 := Lib.hid hy; clear hb hbb hy; have b0 : w3.cell? ⟨w1.heap.size, 0, none⟩ = some (.bool n1) := HG3.out.cell 0 0 rfl rfl; have b1 : w3.cell? ⟨w1.heap.size, 1, none⟩ = some (.slice o1 l1 c1) := HG3.out.cell 0 1 rfl rfl; have g0 : w3.cell? ⟨W.heap.size, 0, none⟩ = some (.bool false) := HF3.out.cell 0 0 rfl rfl; have g1 : w3.cell? ⟨W.heap.size, 1, none⟩ = some (.slice none 0 0) := HF3.out.cell 0 1 rfl rfl; have g2 : w3.cell? ⟨W.heap.size, 2, none⟩ = some (.bool false) := HF3.out.cell 0 2 rfl rfl; have g3 : w3.cell? ⟨W.heap.size, 3, none⟩ = some (.slice none 0 0) := HF3.out.cell 0 3 rfl rfl; have gf0 : w3.frozen? ⟨W.heap.size, 0, none⟩ = false := HF3.out.frozen 0 0 rfl; have gf1 : w3.frozen? ⟨W.heap.size, 1, none⟩ = false := HF3.out.frozen 0 1 rfl; have gf2 : w3.frozen? ⟨W.heap.size, 2, none⟩ = false := HF3.out.frozen 0 2 rfl; have gf3 : w3.frozen? ⟨W.heap.size, 3, none⟩ = false := HF3.out.frozen 0 3 rfl))
          go_wp2
          obtain ⟨e0, e1, e2, e3, k1, k2, hbel⟩ := HF3.out.finK (c1 := c1) (c2 := c2) 0 rfl HZ3.out HY3.out
          exact bodyPost_ret (v := .tuple #[.agg #[.bool n1, .slice o1 l1 c1, .bool n2, .slice o2 l2 c2], .int .i64 0]) (by simp only [Nat.add_zero] at e0 e1 e2 e3; simp [results, Tryz.results9, go_sem, e0, e1, e2, e3]) rfl ⟨n1, o1, l1, c1, n2, o2, l2, c2, 0, _, _, rfl, hbel, .inr (.inr (.inr ⟨HN.out, HFIT.out, Nat.gcd_one_right _, rfl, rfl, rfl⟩)), fun _ => ⟨hl1, Nat.le_trans (HY3.out.n16.len_le (k := 1) (by decide)) (by omega), k1, k2⟩⟩
        · go_wp2_with fail
          refine ((refParse_any xs _ hl).mono fun e w h => h.nofit hn hfit).mono ?_
          rintro e w1 ⟨n1, o1, l1, c1, er, rfl, rfl, hb⟩
          have HN : Hid (textOk xs none = true) := hn
          have HFIT : Hid (¬ bothFit xs none) := hfit
          have HF1 := Lib.hid (HF.out.later hb)
          have hf2 : Fr w1 (w1.alloc (.cells #[.bool n1, .slice o1 l1 c1] 33)) [(33, #[.bool n1, .slice o1 l1 c1])] := (Fr.nil w1).alloc rfl _ _
          have HF2 := Lib.hid (HF1.out.later hf2.below)
          clear hn hfit hb hf2
          have g0 : (w1.alloc (.cells #[.bool n1, .slice o1 l1 c1] 33)).cell? ⟨W.heap.size, 0, none⟩ = some (.bool false) := HF2.out.cell 0 0 rfl rfl
          have g1 : (w1.alloc (.cells #[.bool n1, .slice o1 l1 c1] 33)).cell? ⟨W.heap.size, 1, none⟩ = some (.slice none 0 0) := HF2.out.cell 0 1 rfl rfl
          have g2 : (w1.alloc (.cells #[.bool n1, .slice o1 l1 c1] 33)).cell? ⟨W.heap.size, 2, none⟩ = some (.bool false) := HF2.out.cell 0 2 rfl rfl
          have g3 : (w1.alloc (.cells #[.bool n1, .slice o1 l1 c1] 33)).cell? ⟨W.heap.size, 3, none⟩ = some (.slice none 0 0) := HF2.out.cell 0 3 rfl rfl
          have gf0 : (w1.alloc (.cells #[.bool n1, .slice o1 l1 c1] 33)).frozen? ⟨W.heap.size, 0, none⟩ = false := HF2.out.frozen 0 0 rfl
          have gf1 : (w1.alloc (.cells #[.bool n1, .slice o1 l1 c1] 33)).frozen? ⟨W.heap.size, 1, none⟩ = false := HF2.out.frozen 0 1 rfl
          have gf2 : (w1.alloc (.cells #[.bool n1, .slice o1 l1 c1] 33)).frozen? ⟨W.heap.size, 2, none⟩ = false := HF2.out.frozen 0 2 rfl
          have gf3 : (w1.alloc (.cells #[.bool n1, .slice o1 l1 c1] 33)).frozen? ⟨W.heap.size, 3, none⟩ = false := HF2.out.frozen 0 3 rfl
          go_wp2
          obtain ⟨e0, e1, e2, e3, k1, k2, hbel⟩ := HF2.out.finK (c1 := 0) (c2 := 0) 0 rfl (Z16.nil _) (Z16.nil _)
          exact bodyPost_ret (v := .tuple #[.agg #[.bool false, .slice none 0 0, .bool false, .slice none 0 0], .int .i64 3]) (by simp only [Nat.add_zero] at e0 e1 e2 e3; simp [results, Tryz.results9, go_sem, e0, e1, e2, e3]) rfl ⟨false, none, 0, 0, false, none, 0, 0, 3, 0, 1, rfl, hbel, .inr (.inl ⟨HN.out, HFIT.out, rfl, rfl, rfl⟩), fun h => absurd h (by decide)⟩

theorem isPos_numB {t : List UInt8} (h : isPos t = true) : numB t = true ∧ t ≠ [48] := by
  refine ⟨by rw [numB_eq, h, Bool.or_true], ?_⟩
  intro e
  obtain ⟨x, s, rfl, h1, _⟩ := isPos_parts h
  have : x = 48 := by simpa using (List.cons.inj e).1
  subst this
  exact absurd h1 (by decide)

set_option maxRecDepth 4000 in
set_option maxHeartbeats 8000000 in
theorem refParseRat_at (a t : List UInt8) (W : World) (hl : (a ++ 47 :: t).length ≤ 100000000) (hc : 47 ∉ a) :
    Calls Tryz.prog 9 #[.string ⟨(a ++ 47 :: t).toArray⟩] W (RatJ W a (some t)) := by
  have hf : Fr W (W.alloc (.cells #[.bool false, .slice none 0 0, .bool false, .slice none 0 0] 35)) [(35, #[.bool false, .slice none 0 0, .bool false, .slice none 0 0])] := (Fr.nil W).alloc rfl _ _
  have HF := Lib.hid hf
  have hla0 : a.length ≤ 100000000 := by simp at hl; omega
  have hlt0 : t.length ≤ 100000000 := by simp at hl; omega
  obtain ⟨xs, hxs⟩ : ∃ xs, xs = a ++ 47 :: t := ⟨_, rfl⟩
  obtain ⟨n, hn⟩ : ∃ n, n = a.length := ⟨_, rfl⟩
  have hlen : n + 1 ≤ xs.length := by rw [hxs, hn]; simp
  have HA : Hid ((⟨xs.toArray⟩ : ByteArray).extract 0 n = ⟨a.toArray⟩) := by show _ = _; rw [str_take xs n (by omega), hxs, hn]; simp
  have HB : Hid ((⟨xs.toArray⟩ : ByteArray).extract (n + 1) xs.length = ⟨t.toArray⟩) := by show _ = _; rw [str_drop, hxs, hn]; simp
  have HNE : Hid (∀ k (h : k < xs.length), k < n → xs[k].toNat ≠ 47) := by
    intro k h hk e
    have h2 : xs[k] = a[k]'(by omega) := by subst hxs; rw [List.getElem_append_left]
    exact hc (by rw [← show xs[k] = 47 from UInt8.toNat_inj.1 e, h2]; exact List.getElem_mem _)
  have HEQ : Hid (∀ h : n < xs.length, xs[n] = 47) := by
    intro h
    subst hxs hn
    rw [List.getElem_append_right (by omega)]
    simp
  rw [← hxs] at hl ⊢
  clear hf hc hxs hn
  go_enter Tryz.func9, Tryz.ntmps9
  go_wp2_with fail
  go_loop [4] (fun t => ∃ k : Nat, k ≤ n ∧ t = .int .i64 k) (fun t => xs.length - (intOf t).toNat)
  case atStart => exact ⟨0, by omega, rfl⟩
  case round =>
    obtain ⟨k, hk, rfl⟩ := hrel
    have t1 : (k : Int) < (xs.length : Int) := by omega
    have hs : k < (⟨xs.toArray⟩ : ByteArray).size := by rw [str_size]; omega
    by_cases hlt : k < n
    · have h7 := HNE.out k (by omega) hlt
      have t2 : ¬ ((((⟨xs.toArray⟩ : ByteArray)[k]'hs).toNat : Nat) : Int) = 47 := by show ¬ ((xs[k].toNat : Nat) : Int) = 47; omega
      have t3 : (((((⟨xs.toArray⟩ : ByteArray)[k]'hs).toNat : Nat) : Int) == 47) = false := by simpa using t2
      have t4 : (((((⟨xs.toArray⟩ : ByteArray)[k]'hs).toNat : Nat) : Int) != 47) = true := by simpa using t2
      clear h7
      go_wp2
      go_round
      case rel => exact ⟨k + 1, by omega, by go_num⟩
      case measure => simp [intOf]; omega
    · obtain rfl : k = n := by omega
      have h7 : xs[k]'(by omega) = 47 := HEQ.out (by omega)
      have t2 : ((((⟨xs.toArray⟩ : ByteArray)[k]'hs).toNat : Nat) : Int) = 47 := by show ((xs[k].toNat : Nat) : Int) = 47; rw [h7]; rfl
      have t3 : (((((⟨xs.toArray⟩ : ByteArray)[k]'hs).toNat : Nat) : Int) == 47) = true := by simpa using t2
      have t4 : (((((⟨xs.toArray⟩ : ByteArray)[k]'hs).toNat : Nat) : Int) != 47) = false := by simpa using t2
      have t5 : ((k : Int) == (xs.length : Int)) = false := by simp; omega
      have t6 : (0 : Int) ≤ (k : Int) + 1 := by omega
      have t7 : (k : Int) + 1 ≤ (xs.length : Int) := by omega
      have t8 : (k : Int) ≤ (xs.length : Int) := by omega
      clear hlt hk h7 t2
      go_wp2_with fail
      go_region
      go_wp2_with fail
      rw [HA.out, HB.out]
      clear t3 t4 t5 t6 t7 t8
      have hU : Fr W (W.alloc (.cells #[.bool false, .slice none 0 0, .bool false, .slice none 0 0] 35)).drew [(35, #[.bool false, .slice none 0 0, .bool false, .slice none 0 0])] := HF.out.drew
      have HU := Lib.hid hU
      clear hU
      cases hn : isNum a with
      | false =>
        go_wp2_with fail
        refine ((refParse_any a _ hla0).mono fun e w h => h.bad hn).mono ?_
        rintro e w1 ⟨n1, o1, l1, c1, er, rfl, rfl, hb⟩
        have HF1 := Lib.hid (HF.out.later (w' := w1) (by first | exact hb | exact below_of_drew hb))
        have HN : Hid (textOk a (some t) = false) := by show (isNum a && (isPos t && decide (t ≠ [49]))) = false; rw [hn]; rfl
        have hf2 : Fr w1 (w1.alloc (.cells #[.bool n1, .slice o1 l1 c1] 33)) [(33, #[.bool n1, .slice o1 l1 c1])] := (Fr.nil w1).alloc rfl _ _
        have HF2 := Lib.hid (HF1.out.later hf2.below)
        clear hb hf2
        clear hn
        have g0 : (w1.alloc (.cells #[.bool n1, .slice o1 l1 c1] 33)).cell? ⟨W.heap.size, 0, none⟩ = some (.bool false) := HF2.out.cell 0 0 rfl rfl
        have g1 : (w1.alloc (.cells #[.bool n1, .slice o1 l1 c1] 33)).cell? ⟨W.heap.size, 1, none⟩ = some (.slice none 0 0) := HF2.out.cell 0 1 rfl rfl
        have g2 : (w1.alloc (.cells #[.bool n1, .slice o1 l1 c1] 33)).cell? ⟨W.heap.size, 2, none⟩ = some (.bool false) := HF2.out.cell 0 2 rfl rfl
        have g3 : (w1.alloc (.cells #[.bool n1, .slice o1 l1 c1] 33)).cell? ⟨W.heap.size, 3, none⟩ = some (.slice none 0 0) := HF2.out.cell 0 3 rfl rfl
        have gf0 : (w1.alloc (.cells #[.bool n1, .slice o1 l1 c1] 33)).frozen? ⟨W.heap.size, 0, none⟩ = false := HF2.out.frozen 0 0 rfl
        have gf1 : (w1.alloc (.cells #[.bool n1, .slice o1 l1 c1] 33)).frozen? ⟨W.heap.size, 1, none⟩ = false := HF2.out.frozen 0 1 rfl
        have gf2 : (w1.alloc (.cells #[.bool n1, .slice o1 l1 c1] 33)).frozen? ⟨W.heap.size, 2, none⟩ = false := HF2.out.frozen 0 2 rfl
        have gf3 : (w1.alloc (.cells #[.bool n1, .slice o1 l1 c1] 33)).frozen? ⟨W.heap.size, 3, none⟩ = false := HF2.out.frozen 0 3 rfl
        go_wp2
        obtain ⟨e0, e1, e2, e3, k1, k2, hbel⟩ := HF2.out.finK (c1 := 0) (c2 := 0) 0 rfl (Z16.nil _) (Z16.nil _)
        exact bodyPost_ret (v := .tuple #[.agg #[.bool false, .slice none 0 0, .bool false, .slice none 0 0], .int .i64 4]) (by simp only [Nat.add_zero] at e0 e1 e2 e3; simp [results, Tryz.results9, go_sem, e0, e1, e2, e3]) rfl ⟨false, none, 0, 0, false, none, 0, 0, 4, 0, 1, rfl, hbel, .inl ⟨HN.out, rfl, rfl, rfl⟩, fun h => absurd h (by decide)⟩
      | true =>
        by_cases hok : isPos t = true ∧ t ≠ [49]
        · obtain ⟨hp, h9⟩ := hok
          have HN : Hid (textOk a (some t) = true) := by show (isNum a && (isPos t && decide (t ≠ [49]))) = true; rw [hn, hp, decide_eq_true h9]; rfl
          have HZT := Lib.hid (isPos_num hp).1
          have HGT := Lib.hid (isPos_gt hp).1
          have hnt := (isPos_num hp).2
          have hnb := (isPos_numB hp).1
          have h48 : (t == [48]) = false := by simpa using (isPos_numB hp).2
          have h49 : (t == [49]) = false := by simpa using h9
          clear hp h9
          by_cases hfa : Fits (numZ a)
          · go_wp2_with fail
            refine ((refParse_any a _ hla0).mono fun e w h => h.fit hn hfa).mono ?_
            rintro e w1 ⟨n1, o1, l1, c1, rfl, hl1, hc1, hm1, hz, hb⟩
            have HF1 := Lib.hid (HF.out.later (w' := w1) (by first | exact hb | exact below_of_drew hb))
            have HFA := Lib.hid hfa
            obtain ⟨V, hV⟩ : ∃ V, V = (w1.alloc (.cells #[.bool n1, .slice o1 l1 c1] 33)) := ⟨_, rfl⟩
            have hf2 : Fr w1 V [(33, #[.bool n1, .slice o1 l1 c1])] := by rw [hV]; exact (Fr.nil w1).alloc rfl _ _
            have HF2 := Lib.hid (HF1.out.later hf2.below)
            have HG2 := Lib.hid hf2
            have HZ2 := Lib.hid (hz.keep hf2.below)
            clear hb hf2 hz hn hfa
            go_wp2_with fail
            rw [← hV]
            clear hV
            by_cases hft : Fits (numZ t)
            · refine (numeral16_any t _ (by omega)).mono ?_
              rw [hnb]
              rintro e w3 ⟨rfl, hw⟩
              obtain rfl : V = w3 := hw
              go_wp2_with fail
              refine ((refParse_any t _ hlt0).mono fun e w h => h.fit hnt hft).mono ?_
              rintro e w4 ⟨n2, o2, l2, c2, rfl, hl2, hc2, hm2, hz, hb⟩
              have HFT := Lib.hid hft
              rw [HZT.out] at hz
              have HF4 := Lib.hid (HF2.out.later hb)
              have HG4 := Lib.hid (HG2.out.later hb)
              have HZ4 := Lib.hid (HZ2.out.keep hb)
              have hf5 : Fr w4 (w4.alloc (.cells #[.bool n2, .slice o2 l2 c2] 33)) [(33, #[.bool n2, .slice o2 l2 c2])] := (Fr.nil w4).alloc rfl _ _
              have HF5 := Lib.hid (HF4.out.later hf5.below)
              have HG5 := Lib.hid (HG4.out.later hf5.below)
              have HH5 := Lib.hid hf5
              have HZ5 := Lib.hid (HZ4.out.keep hf5.below)
              have HY5 := Lib.hid (hz.keep hf5.below)
              clear hb hf5 hz hft hnt hnb h48 h49
              have a0 : (w4.alloc (.cells #[.bool n2, .slice o2 l2 c2] 33)).cell? ⟨w1.heap.size, 0, none⟩ = some (.bool n1) := HG5.out.cell 0 0 rfl rfl
              have a1 : (w4.alloc (.cells #[.bool n2, .slice o2 l2 c2] 33)).cell? ⟨w1.heap.size, 1, none⟩ = some (.slice o1 l1 c1) := HG5.out.cell 0 1 rfl rfl
              have d0 : (w4.alloc (.cells #[.bool n2, .slice o2 l2 c2] 33)).cell? ⟨w4.heap.size, 0, none⟩ = some (.bool n2) := HH5.out.cell 0 0 rfl rfl
              have d1 : (w4.alloc (.cells #[.bool n2, .slice o2 l2 c2] 33)).cell? ⟨w4.heap.size, 1, none⟩ = some (.slice o2 l2 c2) := HH5.out.cell 0 1 rfl rfl
              go_wp2_with fail
              refine (gcdZ16_any _ _ _ _ _ _ _ _ _ _ _ HZ5.out HY5.out (by omega) (by omega) hc1 hm1 hc2 hm2).mono ?_
              rintro e w6 ⟨n3, o3, l3, c3, rfl, hc3, hm3, hg, hb⟩
              have hgl : l3 ≤ 1000000 := by
                have h1 := hg.n16
                rw [Int.natAbs_natCast] at h1
                have h2 : Nat.gcd (numZ a).natAbs (dec t) < B16 ^ (l2 + 1) := by
                  have h3 := HY5.out.n16.lt
                  rw [Int.natAbs_natCast] at h3
                  by_cases h0 : dec t = 0
                  · have h4 := HZ5.out.n16.lt
                    exact absurd h0 (by have := HGT.out; omega)
                  · exact Nat.lt_of_le_of_lt (Nat.gcd_le_right _ (by omega)) (Nat.lt_of_lt_of_le h3 (Nat.pow_le_pow_right (by decide) (by omega)))
                exact Nat.le_trans (h1.len_le h2) (by omega)
              obtain ⟨g, hgg⟩ : ∃ g, g = Int.gcd (numZ a) (dec t : Int) := ⟨_, rfl⟩
              have HGG : Hid (Nat.gcd (numZ a).natAbs (denOf (some t)) = g) := by show Nat.gcd (numZ a).natAbs (dec t) = g; rw [hgg]; unfold Int.gcd; rw [Int.natAbs_natCast]
              rw [← hgg] at hg
              clear hgg a0 a1 d0 d1
              have HF6 := Lib.hid (HF5.out.later hb)
              have HG6 := Lib.hid (HG5.out.later hb)
              have HH6 := Lib.hid (HH5.out.later hb)
              have HZ6 := Lib.hid (HZ5.out.keep hb)
              have HY6 := Lib.hid (HY5.out.keep hb)
              have HX6 := Lib.hid hg
              clear hb hg
              go_wp2_with fail
              refine (refOf_any 1 _ (by omega) (by omega)).mono ?_
              rintro e w7 ⟨n4, o4, l4, c4, rfl, hc4, hm4, hz, hb⟩
              have hl4 : l4 ≤ 1024 := Nat.le_trans (hz.n16.len_le (k := 1) (by decide)) (by omega)
              have HF7 := Lib.hid (HF6.out.later hb)
              have HG7 := Lib.hid (HG6.out.later hb)
              have HH7 := Lib.hid (HH6.out.later hb)
              have HZ7 := Lib.hid (HZ6.out.keep hb)
              have HY7 := Lib.hid (HY6.out.keep hb)
              have HX7 := Lib.hid (HX6.out.keep hb)
              have HO7 := Lib.hid hz
              clear hb hz
              go_wp2_with fail
              refine (cmpZ16_any _ _ _ _ _ _ _ _ _ _ _ HX7.out HO7.out (by omega) (by omega) hc4 hm4).mono ?_
              obtain ⟨s, hs1⟩ : ∃ s, s = ((g : Int) - 1).sign := ⟨_, rfl⟩
              rw [← hs1]
              rintro e w8 ⟨rfl, hb⟩
              have HF8 := Lib.hid (HF7.out.later hb)
              have HG8 := Lib.hid (HG7.out.later hb)
              have HH8 := Lib.hid (HH7.out.later hb)
              have HZ8 := Lib.hid (HZ7.out.keep hb)
              have HY8 := Lib.hid (HY7.out.keep hb)
              clear hb
              have a0 : w8.cell? ⟨w1.heap.size, 0, none⟩ = some (.bool n1) := HG8.out.cell 0 0 rfl rfl
              have a1 : w8.cell? ⟨w1.heap.size, 1, none⟩ = some (.slice o1 l1 c1) := HG8.out.cell 0 1 rfl rfl
              have d0 : w8.cell? ⟨w4.heap.size, 0, none⟩ = some (.bool n2) := HH8.out.cell 0 0 rfl rfl
              have d1 : w8.cell? ⟨w4.heap.size, 1, none⟩ = some (.slice o2 l2 c2) := HH8.out.cell 0 1 rfl rfl
              have g0 : w8.cell? ⟨W.heap.size, 0, none⟩ = some (.bool false) := HF8.out.cell 0 0 rfl rfl
              have g1 : w8.cell? ⟨W.heap.size, 1, none⟩ = some (.slice none 0 0) := HF8.out.cell 0 1 rfl rfl
              have g2 : w8.cell? ⟨W.heap.size, 2, none⟩ = some (.bool false) := HF8.out.cell 0 2 rfl rfl
              have g3 : w8.cell? ⟨W.heap.size, 3, none⟩ = some (.slice none 0 0) := HF8.out.cell 0 3 rfl rfl
              have gf0 : w8.frozen? ⟨W.heap.size, 0, none⟩ = false := HF8.out.frozen 0 0 rfl
              have gf1 : w8.frozen? ⟨W.heap.size, 1, none⟩ = false := HF8.out.frozen 0 1 rfl
              have gf2 : w8.frozen? ⟨W.heap.size, 2, none⟩ = false := HF8.out.frozen 0 2 rfl
              have gf3 : w8.frozen? ⟨W.heap.size, 3, none⟩ = false := HF8.out.frozen 0 3 rfl
              by_cases hg1 : g = 1
              · have hs0 : s = 0 := by rw [hs1, hg1]; rfl
                have hsb : (s != 0) = false := by rw [hs0]; rfl
                have HG1 : Hid (Nat.gcd (numZ a).natAbs (denOf (some t)) = 1) := by show _ = _; rw [HGG.out]; exact hg1
                clear hg1 hs1 hs0
                go_wp2
                obtain ⟨e0, e1, e2, e3, k1, k2, hbel⟩ := HF8.out.finK (c1 := c1) (c2 := c2) 0 rfl HZ8.out HY8.out
                exact bodyPost_ret (v := .tuple #[.agg #[.bool n1, .slice o1 l1 c1, .bool n2, .slice o2 l2 c2], .int .i64 0]) (by simp only [Nat.add_zero] at e0 e1 e2 e3; simp [results, Tryz.results9, go_sem, e0, e1, e2, e3]) rfl ⟨n1, o1, l1, c1, n2, o2, l2, c2, 0, _, _, rfl, hbel, .inr (.inr (.inr ⟨HN.out, ⟨HFA.out, HFT.out⟩, HG1.out, rfl, rfl, rfl⟩)), fun _ => ⟨hl1, hl2, k1, k2⟩⟩
              · have hs0 : s ≠ 0 := by
                  rw [hs1]; intro h
                  have := Int.sign_eq_zero_iff_zero.1 h
                  omega
                have hsb : (s != 0) = true := by simpa using hs0
                have HG1 : Hid (Nat.gcd (numZ a).natAbs (denOf (some t)) ≠ 1) := by show _ ≠ _; rw [HGG.out]; exact hg1
                clear hg1 hs1 hs0
                go_wp2
                obtain ⟨e0, e1, e2, e3, k1, k2, hbel⟩ := HF8.out.finK (c1 := 0) (c2 := 0) 0 rfl (Z16.nil _) (Z16.nil _)
                exact bodyPost_ret (v := .tuple #[.agg #[.bool false, .slice none 0 0, .bool false, .slice none 0 0], .int .i64 4]) (by simp only [Nat.add_zero] at e0 e1 e2 e3; simp [results, Tryz.results9, go_sem, e0, e1, e2, e3]) rfl ⟨false, none, 0, 0, false, none, 0, 0, 4, 0, 1, rfl, hbel, .inr (.inr (.inl ⟨HN.out, ⟨HFA.out, HFT.out⟩, HG1.out, rfl, rfl, rfl⟩)), fun h => absurd h (by decide)⟩
            · refine (numeral16_any t _ (by omega)).mono ?_
              rw [hnb]
              rintro e w3 ⟨rfl, hw⟩
              obtain rfl : V = w3 := hw
              go_wp2_with fail
              refine ((refParse_any t _ hlt0).mono fun e w h => h.nofit hnt hft).mono ?_
              rintro e w4 ⟨n2, o2, l2, c2, fr, rfl, rfl, hb⟩
              have HX : Hid (¬ bothFit a (some t)) := fun h => hft h.2
              have HF4 := Lib.hid (HF2.out.later hb)
              have hf5 : Fr w4 (w4.alloc (.cells #[.bool n2, .slice o2 l2 c2] 33)) [(33, #[.bool n2, .slice o2 l2 c2])] := (Fr.nil w4).alloc rfl _ _
              have HF5 := Lib.hid (HF4.out.later hf5.below)
              clear hb hf5
              clear hft hnt hnb h48 h49
              have g0 : (w4.alloc (.cells #[.bool n2, .slice o2 l2 c2] 33)).cell? ⟨W.heap.size, 0, none⟩ = some (.bool false) := HF5.out.cell 0 0 rfl rfl
              have g1 : (w4.alloc (.cells #[.bool n2, .slice o2 l2 c2] 33)).cell? ⟨W.heap.size, 1, none⟩ = some (.slice none 0 0) := HF5.out.cell 0 1 rfl rfl
              have g2 : (w4.alloc (.cells #[.bool n2, .slice o2 l2 c2] 33)).cell? ⟨W.heap.size, 2, none⟩ = some (.bool false) := HF5.out.cell 0 2 rfl rfl
              have g3 : (w4.alloc (.cells #[.bool n2, .slice o2 l2 c2] 33)).cell? ⟨W.heap.size, 3, none⟩ = some (.slice none 0 0) := HF5.out.cell 0 3 rfl rfl
              have gf0 : (w4.alloc (.cells #[.bool n2, .slice o2 l2 c2] 33)).frozen? ⟨W.heap.size, 0, none⟩ = false := HF5.out.frozen 0 0 rfl
              have gf1 : (w4.alloc (.cells #[.bool n2, .slice o2 l2 c2] 33)).frozen? ⟨W.heap.size, 1, none⟩ = false := HF5.out.frozen 0 1 rfl
              have gf2 : (w4.alloc (.cells #[.bool n2, .slice o2 l2 c2] 33)).frozen? ⟨W.heap.size, 2, none⟩ = false := HF5.out.frozen 0 2 rfl
              have gf3 : (w4.alloc (.cells #[.bool n2, .slice o2 l2 c2] 33)).frozen? ⟨W.heap.size, 3, none⟩ = false := HF5.out.frozen 0 3 rfl
              go_wp2
              obtain ⟨e0, e1, e2, e3, k1, k2, hbel⟩ := HF5.out.finK (c1 := 0) (c2 := 0) 0 rfl (Z16.nil _) (Z16.nil _)
              exact bodyPost_ret (v := .tuple #[.agg #[.bool false, .slice none 0 0, .bool false, .slice none 0 0], .int .i64 3]) (by simp only [Nat.add_zero] at e0 e1 e2 e3; simp [results, Tryz.results9, go_sem, e0, e1, e2, e3]) rfl ⟨false, none, 0, 0, false, none, 0, 0, 3, 0, 1, rfl, hbel, .inr (.inl ⟨HN.out, HX.out, rfl, rfl, rfl⟩), fun h => absurd h (by decide)⟩
          · go_wp2_with fail
            refine ((refParse_any a _ hla0).mono fun e w h => h.nofit hn hfa).mono ?_
            rintro e w1 ⟨n1, o1, l1, c1, er, rfl, rfl, hb⟩
            have HF1 := Lib.hid (HF.out.later (w' := w1) (by first | exact hb | exact below_of_drew hb))
            have HX : Hid (¬ bothFit a (some t)) := fun h => hfa h.1
            obtain ⟨V, hV⟩ : ∃ V, V = (w1.alloc (.cells #[.bool n1, .slice o1 l1 c1] 33)) := ⟨_, rfl⟩
            have hf2 : Fr w1 V [(33, #[.bool n1, .slice o1 l1 c1])] := by rw [hV]; exact (Fr.nil w1).alloc rfl _ _
            have HF2 := Lib.hid (HF1.out.later hf2.below)
            clear hb hf2 hn hfa
            go_wp2_with fail
            rw [← hV]
            clear hV
            refine (numeral16_any t _ (by omega)).mono ?_
            rw [hnb]
            rintro e w3 ⟨rfl, hw⟩
            obtain rfl : V = w3 := hw
            go_wp2_with fail
            refine ((refParse_any t _ hlt0).mono fun e w h => h.any).mono ?_
            rintro e w4 ⟨n2, o2, l2, c2, fr, rfl, _, hb⟩
            have HF4 := Lib.hid (HF2.out.later hb)
            have hf5 : Fr w4 (w4.alloc (.cells #[.bool n2, .slice o2 l2 c2] 33)) [(33, #[.bool n2, .slice o2 l2 c2])] := (Fr.nil w4).alloc rfl _ _
            have HF5 := Lib.hid (HF4.out.later hf5.below)
            clear hb hf5
            clear hnt hnb h48 h49
            have g0 : (w4.alloc (.cells #[.bool n2, .slice o2 l2 c2] 33)).cell? ⟨W.heap.size, 0, none⟩ = some (.bool false) := HF5.out.cell 0 0 rfl rfl
            have g1 : (w4.alloc (.cells #[.bool n2, .slice o2 l2 c2] 33)).cell? ⟨W.heap.size, 1, none⟩ = some (.slice none 0 0) := HF5.out.cell 0 1 rfl rfl
            have g2 : (w4.alloc (.cells #[.bool n2, .slice o2 l2 c2] 33)).cell? ⟨W.heap.size, 2, none⟩ = some (.bool false) := HF5.out.cell 0 2 rfl rfl
            have g3 : (w4.alloc (.cells #[.bool n2, .slice o2 l2 c2] 33)).cell? ⟨W.heap.size, 3, none⟩ = some (.slice none 0 0) := HF5.out.cell 0 3 rfl rfl
            have gf0 : (w4.alloc (.cells #[.bool n2, .slice o2 l2 c2] 33)).frozen? ⟨W.heap.size, 0, none⟩ = false := HF5.out.frozen 0 0 rfl
            have gf1 : (w4.alloc (.cells #[.bool n2, .slice o2 l2 c2] 33)).frozen? ⟨W.heap.size, 1, none⟩ = false := HF5.out.frozen 0 1 rfl
            have gf2 : (w4.alloc (.cells #[.bool n2, .slice o2 l2 c2] 33)).frozen? ⟨W.heap.size, 2, none⟩ = false := HF5.out.frozen 0 2 rfl
            have gf3 : (w4.alloc (.cells #[.bool n2, .slice o2 l2 c2] 33)).frozen? ⟨W.heap.size, 3, none⟩ = false := HF5.out.frozen 0 3 rfl
            go_wp2
            obtain ⟨e0, e1, e2, e3, k1, k2, hbel⟩ := HF5.out.finK (c1 := 0) (c2 := 0) 0 rfl (Z16.nil _) (Z16.nil _)
            exact bodyPost_ret (v := .tuple #[.agg #[.bool false, .slice none 0 0, .bool false, .slice none 0 0], .int .i64 3]) (by simp only [Nat.add_zero] at e0 e1 e2 e3; simp [results, Tryz.results9, go_sem, e0, e1, e2, e3]) rfl ⟨false, none, 0, 0, false, none, 0, 0, 3, 0, 1, rfl, hbel, .inr (.inl ⟨HN.out, HX.out, rfl, rfl, rfl⟩), fun h => absurd h (by decide)⟩
        · have HN : Hid (textOk a (some t) = false) := by
            show (isNum a && (isPos t && decide (t ≠ [49]))) = false
            rw [hn, Bool.true_and, Bool.and_eq_false_iff]
            cases hp : isPos t with
            | false => exact .inl rfl
            | true => exact .inr (by simpa using fun h => hok ⟨hp, h⟩)
          go_wp2_with fail
          refine ((refParse_any a _ hla0).mono fun e w h => h.num hn).mono ?_
          rintro e w1 ⟨n1, o1, l1, c1, er, rfl, her, hb⟩
          have HF1 := Lib.hid (HF.out.later (w' := w1) (by first | exact hb | exact below_of_drew hb))
          have hf2 : Fr w1 (w1.alloc (.cells #[.bool n1, .slice o1 l1 c1] 33)) [(33, #[.bool n1, .slice o1 l1 c1])] := (Fr.nil w1).alloc rfl _ _
          have HF2 := Lib.hid (HF1.out.later hf2.below)
          clear hb hf2
          clear hn
          have g0 : (w1.alloc (.cells #[.bool n1, .slice o1 l1 c1] 33)).cell? ⟨W.heap.size, 0, none⟩ = some (.bool false) := HF2.out.cell 0 0 rfl rfl
          have g1 : (w1.alloc (.cells #[.bool n1, .slice o1 l1 c1] 33)).cell? ⟨W.heap.size, 1, none⟩ = some (.slice none 0 0) := HF2.out.cell 0 1 rfl rfl
          have g2 : (w1.alloc (.cells #[.bool n1, .slice o1 l1 c1] 33)).cell? ⟨W.heap.size, 2, none⟩ = some (.bool false) := HF2.out.cell 0 2 rfl rfl
          have g3 : (w1.alloc (.cells #[.bool n1, .slice o1 l1 c1] 33)).cell? ⟨W.heap.size, 3, none⟩ = some (.slice none 0 0) := HF2.out.cell 0 3 rfl rfl
          have gf0 : (w1.alloc (.cells #[.bool n1, .slice o1 l1 c1] 33)).frozen? ⟨W.heap.size, 0, none⟩ = false := HF2.out.frozen 0 0 rfl
          have gf1 : (w1.alloc (.cells #[.bool n1, .slice o1 l1 c1] 33)).frozen? ⟨W.heap.size, 1, none⟩ = false := HF2.out.frozen 0 1 rfl
          have gf2 : (w1.alloc (.cells #[.bool n1, .slice o1 l1 c1] 33)).frozen? ⟨W.heap.size, 2, none⟩ = false := HF2.out.frozen 0 2 rfl
          have gf3 : (w1.alloc (.cells #[.bool n1, .slice o1 l1 c1] 33)).frozen? ⟨W.heap.size, 3, none⟩ = false := HF2.out.frozen 0 3 rfl
          go_wp2_with fail
          refine (numeral16_any t _ (by omega)).mono ?_
          cases hnb : numB t with
          | false =>
            rintro e w3 ⟨rfl, rfl⟩
            clear hnb hok
            go_wp2
            obtain ⟨e0, e1, e2, e3, k1, k2, hbel⟩ := HF2.out.finK (c1 := 0) (c2 := 0) 0 rfl (Z16.nil _) (Z16.nil _)
            exact bodyPost_ret (v := .tuple #[.agg #[.bool false, .slice none 0 0, .bool false, .slice none 0 0], .int .i64 4]) (by simp only [Nat.add_zero] at e0 e1 e2 e3; simp [results, Tryz.results9, go_sem, e0, e1, e2, e3]) rfl ⟨false, none, 0, 0, false, none, 0, 0, 4, 0, 1, rfl, hbel, .inl ⟨HN.out, rfl, rfl, rfl⟩, fun h => absurd h (by decide)⟩
          | true =>
            rintro e w3 ⟨rfl, rfl⟩
            by_cases h48 : t = [48]
            · have t48 : (t == [48]) = true := by simpa using h48
              clear hnb hok h48
              go_wp2
              obtain ⟨e0, e1, e2, e3, k1, k2, hbel⟩ := HF2.out.finK (c1 := 0) (c2 := 0) 0 rfl (Z16.nil _) (Z16.nil _)
              exact bodyPost_ret (v := .tuple #[.agg #[.bool false, .slice none 0 0, .bool false, .slice none 0 0], .int .i64 4]) (by simp only [Nat.add_zero] at e0 e1 e2 e3; simp [results, Tryz.results9, go_sem, e0, e1, e2, e3]) rfl ⟨false, none, 0, 0, false, none, 0, 0, 4, 0, 1, rfl, hbel, .inl ⟨HN.out, rfl, rfl, rfl⟩, fun h => absurd h (by decide)⟩
            · have t48 : (t == [48]) = false := by simpa using h48
              have h49 : t = [49] := by
                rw [numB_eq, decide_eq_false h48, Bool.false_or] at hnb
                exact Classical.byContradiction fun h => hok ⟨hnb, h⟩
              have t49 : (t == [49]) = true := by simpa using h49
              clear hnb hok h48 h49
              go_wp2
              obtain ⟨e0, e1, e2, e3, k1, k2, hbel⟩ := HF2.out.finK (c1 := 0) (c2 := 0) 0 rfl (Z16.nil _) (Z16.nil _)
              exact bodyPost_ret (v := .tuple #[.agg #[.bool false, .slice none 0 0, .bool false, .slice none 0 0], .int .i64 4]) (by simp only [Nat.add_zero] at e0 e1 e2 e3; simp [results, Tryz.results9, go_sem, e0, e1, e2, e3]) rfl ⟨false, none, 0, 0, false, none, 0, 0, 4, 0, 1, rfl, hbel, .inl ⟨HN.out, rfl, rfl, rfl⟩, fun h => absurd h (by decide)⟩
end Go.Proofs.YtcgnmihabkgecaaGreat

/- The laws' helper same. -/
set_option linter.unusedVariables false
set_option linter.unusedSimpArgs false
namespace Go.Proofs.YtcgnmihabkgecaaGreat
open Go.RowKit Go.Proofs

theorem fits_cast (q : Nat) : Fits (q : Int) ↔ blen q ≤ 16384 := by unfold Fits; rw [Int.natAbs_natCast]

set_option maxHeartbeats 1000000 in
theorem refFitsQ_any (s1 s2 : Bool) (o1 o2 : Option Addr) (l1 l2 c1 c2 : Nat) (p : Int) (q : Nat) (W : World) (h1 : Z16 W s1 o1 l1 p) (h2 : Z16 W s2 o2 l2 (q : Int)) (hl1 : l1 ≤ 1000000) (hl2 : l2 ≤ 1000000) :
    Calls Tryz.prog 41 #[.agg #[.bool s1, .slice o1 l1 c1, .bool s2, .slice o2 l2 c2]] W (fun e w' => ((FitsQ p q ∧ e = .returned (.bool true)) ∨ (¬ FitsQ p q ∧ e = .returned (.bool false))) ∧ Below W.heap.size W w') := by
  have hf : Fr W (W.alloc (.cells #[.bool s1, .slice o1 l1 c1, .bool s2, .slice o2 l2 c2] 35)) [(35, #[.bool s1, .slice o1 l1 c1, .bool s2, .slice o2 l2 c2])] := (Fr.nil W).alloc rfl _ _
  have HF := Lib.hid hf
  have HP := Lib.hid (h1.keep hf.below)
  have HQ := Lib.hid (h2.keep hf.below)
  clear hf h1 h2
  go_enter Tryz.func41, Tryz.ntmps41
  go_wp2_with fail
  refine (fits16_any _ _ _ _ p _ HP.out (by omega)).mono ?_
  rintro e w1 ⟨⟨hfp, rfl⟩ | ⟨hfp, rfl⟩, hb⟩
  · have HF1 := Lib.hid (HF.out.later hb)
    have HQ1 := Lib.hid (HQ.out.keep hb)
    have HFP := Lib.hid hfp
    clear hb hfp
    have c2' : w1.cell? ⟨W.heap.size, 2, none⟩ = some (.bool s2) := HF1.out.cell 0 2 rfl rfl
    have c3' : w1.cell? ⟨W.heap.size, 3, none⟩ = some (.slice o2 l2 c2) := HF1.out.cell 0 3 rfl rfl
    go_wp2_with fail
    refine (fits16_any _ _ _ _ (q : Int) _ HQ1.out (by omega)).mono ?_
    rintro e w2 ⟨⟨hfq, rfl⟩ | ⟨hfq, rfl⟩, hb⟩
    · have HB := Lib.hid (below_then HF1.out.below hb)
      have HFQ := Lib.hid hfq
      clear hb hfq
      go_wp2
      go_ret
      exact ⟨.inl ⟨⟨HFP.out, (fits_cast q).1 HFQ.out⟩, rfl⟩, HB.out⟩
    · have HB := Lib.hid (below_then HF1.out.below hb)
      have HFQ := Lib.hid hfq
      clear hb hfq
      go_wp2
      go_ret
      exact ⟨.inr ⟨fun h => HFQ.out ((fits_cast q).2 h.2), rfl⟩, HB.out⟩
  · have HB := Lib.hid (below_then HF.out.below hb)
    have HFP := Lib.hid hfp
    clear hb hfp
    go_wp2
    go_ret
    exact ⟨.inr ⟨fun h => HFP.out h.1, rfl⟩, HB.out⟩

theorem textQ_zero : textQ 0 1 = [48] := by unfold textQ; rw [if_pos rfl]; rfl

set_option maxHeartbeats 2000000 in
theorem same_any (na s1 s2 : Bool) (ao bo o1 o2 : Option Addr) (la lb l1 l2 ca cb c1 c2 : Nat) (p er P : Int) (q Q : Nat) (W : World) (hf0 : Q32 W na ao la bo lb P Q) (hla : la ≤ 512) (hlb : lb ≤ 512) (h1 : Z16 W s1 o1 l1 p) (h2 : Z16 W s2 o2 l2 (q : Int)) (hl1 : l1 ≤ 1000000) (hl2 : l2 ≤ 1000000) (ht : ToldQ p q er P Q) :
    Calls Tryz.prog 11 #[.agg #[.bool na, .slice ao la ca, .slice bo lb cb], .int .i64 er, .agg #[.bool s1, .slice o1 l1 c1, .bool s2, .slice o2 l2 c2]] W (fun e w' => e = .returned (.bool true) ∧ Below W.heap.size W w') := by
  have hf : Fr W ((W.alloc (.cells #[.bool na, .slice ao la ca, .slice bo lb cb] 27)).alloc (.cells #[.bool s1, .slice o1 l1 c1, .bool s2, .slice o2 l2 c2] 35))
      [(27, #[.bool na, .slice ao la ca, .slice bo lb cb]), (35, #[.bool s1, .slice o1 l1 c1, .bool s2, .slice o2 l2 c2])] := ((Fr.nil W).alloc rfl _ _).alloc (by simp) _ _
  have HF := Lib.hid hf
  have HX := Lib.hid (hf0.keep hf.below)
  have HP := Lib.hid (h1.keep hf.below)
  have HQ := Lib.hid (h2.keep hf.below)
  clear hf h1 h2 hf0
  rcases ht with ⟨hfit, rfl, rfl, rfl⟩ | ⟨hfit, rfl, rfl, rfl⟩
  · have HFIT := Lib.hid hfit
    clear hfit
    go_enter Tryz.func11, Tryz.ntmps11
    go_wp2_with fail
    refine ((refFitsQ_any _ _ _ _ _ _ _ _ P Q _ HP.out HQ.out hl1 hl2).mono fun e w h => (⟨(h.1.resolve_right fun k => k.1 HFIT.out).2, h.2⟩ : e = .returned (.bool true) ∧ _)).mono ?_
    rintro e w1 ⟨rfl, hb⟩
    have HF1 := Lib.hid (HF.out.later hb)
    have HX1 := Lib.hid (HX.out.keep hb)
    have HP1 := Lib.hid (HP.out.keep hb)
    have HQ1 := Lib.hid (HQ.out.keep hb)
    clear hb
    have qq0 : w1.cell? ⟨W.heap.size, 0, none⟩ = some (.bool na) := HF1.out.cell 0 0 rfl rfl
    have qq1 : w1.cell? ⟨W.heap.size, 1, none⟩ = some (.slice ao la ca) := HF1.out.cell 0 1 rfl rfl
    have qq2 : w1.cell? ⟨W.heap.size, 2, none⟩ = some (.slice bo lb cb) := HF1.out.cell 0 2 rfl rfl
    have qq3 : w1.cell? ⟨W.heap.size + 1, 0, none⟩ = some (.bool s1) := HF1.out.cell 1 0 rfl rfl
    have qq4 : w1.cell? ⟨W.heap.size + 1, 1, none⟩ = some (.slice o1 l1 c1) := HF1.out.cell 1 1 rfl rfl
    have qq5 : w1.cell? ⟨W.heap.size + 1, 2, none⟩ = some (.bool s2) := HF1.out.cell 1 2 rfl rfl
    have qq6 : w1.cell? ⟨W.heap.size + 1, 3, none⟩ = some (.slice o2 l2 c2) := HF1.out.cell 1 3 rfl rfl
    go_wp2_with fail
    go_region_held3 (fun w' => w'.cell? ⟨W.heap.size, 0, none⟩ = some (.bool na) ∧ w'.cell? ⟨W.heap.size, 1, none⟩ = some (.slice ao la ca) ∧ w'.cell? ⟨W.heap.size, 2, none⟩ = some (.slice bo lb cb) ∧ w'.cell? ⟨W.heap.size + 1, 0, none⟩ = some (.bool s1) ∧ w'.cell? ⟨W.heap.size + 1, 1, none⟩ = some (.slice o1 l1 c1) ∧ w'.cell? ⟨W.heap.size + 1, 2, none⟩ = some (.bool s2) ∧ w'.cell? ⟨W.heap.size + 1, 3, none⟩ = some (.slice o2 l2 c2)) (go_keep)
      (first | (go_at_call 42; refine (text16Q_any _ _ _ _ _ _ _ _ P Q _ HPr0.out HQr0.out (by omega) (by omega)).mono ?_; rintro e rw1 ⟨rfl, hb⟩; have hbb := hb; have FPr1 := Lib.hid (FPr0.out.later hbb); have HXr1 := Lib.hid (HXr0.out.keep hbb); have HPr1 := Lib.hid (HPr0.out.keep hbb); have HQr1 := Lib.hid (HQr0.out.keep hbb); clear hb hbb; have r1c0 : rw1.cell? ⟨W.heap.size, 0, none⟩ = some (.bool na) := FPr1.out.cell 0 0 rfl rfl; have r1c1 : rw1.cell? ⟨W.heap.size, 1, none⟩ = some (.slice ao la ca) := FPr1.out.cell 0 1 rfl rfl; have r1c2 : rw1.cell? ⟨W.heap.size, 2, none⟩ = some (.slice bo lb cb) := FPr1.out.cell 0 2 rfl rfl; have r1c3 : rw1.cell? ⟨W.heap.size + 1, 0, none⟩ = some (.bool s1) := FPr1.out.cell 1 0 rfl rfl; have r1c4 : rw1.cell? ⟨W.heap.size + 1, 1, none⟩ = some (.slice o1 l1 c1) := FPr1.out.cell 1 1 rfl rfl; have r1c5 : rw1.cell? ⟨W.heap.size + 1, 2, none⟩ = some (.bool s2) := FPr1.out.cell 1 2 rfl rfl; have r1c6 : rw1.cell? ⟨W.heap.size + 1, 3, none⟩ = some (.slice o2 l2 c2) := FPr1.out.cell 1 3 rfl rfl) | (go_at_call 10; refine (ratString_any _ _ _ _ _ _ _ P Q w1.drew (HX1.out.keep (Below.refl _ _).drew) (by omega) (by omega)).mono ?_; rintro e rw0 ⟨rfl, hb⟩; have hbb := below_of_drew hb; have FPr0 := Lib.hid (HF1.out.later hbb); have HXr0 := Lib.hid (HX1.out.keep hbb); have HPr0 := Lib.hid (HP1.out.keep hbb); have HQr0 := Lib.hid (HQ1.out.keep hbb); clear hb hbb; have r0c0 : rw0.cell? ⟨W.heap.size, 0, none⟩ = some (.bool na) := FPr0.out.cell 0 0 rfl rfl; have r0c1 : rw0.cell? ⟨W.heap.size, 1, none⟩ = some (.slice ao la ca) := FPr0.out.cell 0 1 rfl rfl; have r0c2 : rw0.cell? ⟨W.heap.size, 2, none⟩ = some (.slice bo lb cb) := FPr0.out.cell 0 2 rfl rfl; have r0c3 : rw0.cell? ⟨W.heap.size + 1, 0, none⟩ = some (.bool s1) := FPr0.out.cell 1 0 rfl rfl; have r0c4 : rw0.cell? ⟨W.heap.size + 1, 1, none⟩ = some (.slice o1 l1 c1) := FPr0.out.cell 1 1 rfl rfl; have r0c5 : rw0.cell? ⟨W.heap.size + 1, 2, none⟩ = some (.bool s2) := FPr0.out.cell 1 2 rfl rfl; have r0c6 : rw0.cell? ⟨W.heap.size + 1, 3, none⟩ = some (.slice o2 l2 c2) := FPr0.out.cell 1 3 rfl rfl))
    go_wp2
    go_ret
    exact ⟨rfl, FPr1.out.below⟩
  · have HFIT := Lib.hid hfit
    clear hfit
    go_enter Tryz.func11, Tryz.ntmps11
    go_wp2_with fail
    refine ((refFitsQ_any _ _ _ _ _ _ _ _ p q _ HP.out HQ.out hl1 hl2).mono fun e w h => (⟨(h.1.resolve_left fun k => HFIT.out k.1).2, h.2⟩ : e = .returned (.bool false) ∧ _)).mono ?_
    rintro e w1 ⟨rfl, hb⟩
    have HF1 := Lib.hid (HF.out.later hb)
    have HX1 := Lib.hid (HX.out.keep hb)
    clear hb
    have c0 : w1.cell? ⟨W.heap.size, 0, none⟩ = some (.bool na) := HF1.out.cell 0 0 rfl rfl
    have c1' : w1.cell? ⟨W.heap.size, 1, none⟩ = some (.slice ao la ca) := HF1.out.cell 0 1 rfl rfl
    have c2' : w1.cell? ⟨W.heap.size, 2, none⟩ = some (.slice bo lb cb) := HF1.out.cell 0 2 rfl rfl
    go_wp2_with fail
    refine ((ratString_any _ _ _ _ _ _ _ 0 1 _ HX1.out (by omega) (by omega)).mono fun e w h => (textQ_zero ▸ h : StrPost [48] w1 e w)).mono ?_
    rintro e w2 ⟨rfl, hb⟩
    have HB := Lib.hid (below_then HF1.out.below hb)
    clear hb
    go_wp2
    go_ret
    exact ⟨rfl, HB.out⟩
end Go.Proofs.YtcgnmihabkgecaaGreat

/- Facts for the laws about texts of fractions. -/
set_option linter.unusedVariables false
namespace Go.Proofs.YtcgnmihabkgecaaGreat
open Go.RowKit Go.Proofs

theorem ratText_any (xs : List UInt8) : ∃ a b, xs = ratText a b ∧ 47 ∉ a := by
  rcases ratText_cases xs 47 with h | ⟨a, t, h, h2⟩
  · exact ⟨xs, none, rfl, h⟩
  · exact ⟨a, some t, h, h2⟩

theorem parseRat_text (a : List UInt8) (b : Option (List UInt8)) (W : World) (hl : (ratText a b).length ≤ 100000000) (hc : 47 ∉ a) :
    Calls Tryz.prog 8 #[.string ⟨(ratText a b).toArray⟩] W (OutRE W a b) := by
  cases b with
  | none => exact parseRat_none a W hl hc
  | some t => exact parseRat_at a t W hl hc

theorem refParseRat_text (a : List UInt8) (b : Option (List UInt8)) (W : World) (hl : (ratText a b).length ≤ 100000000) (hc : 47 ∉ a) :
    Calls Tryz.prog 9 #[.string ⟨(ratText a b).toArray⟩] W (RatJ W a b) := by
  cases b with
  | none => exact refParseRat_none a W hl hc
  | some t => exact refParseRat_at a t W hl hc

theorem RatSays.bad {a : List UInt8} {b : Option (List UInt8)} {er p : Int} {q : Nat} (h : RatSays a b er p q) (he : er ≠ 0) : p = 0 ∧ q = 1 := by
  rcases h with ⟨_, _, h3, h4⟩ | ⟨_, _, _, h3, h4⟩ | ⟨_, _, _, _, h3, h4⟩ | ⟨_, _, _, h3, _, _⟩
  · exact ⟨h3, h4⟩
  · exact ⟨h3, h4⟩
  · exact ⟨h3, h4⟩
  · exact absurd h3 he

theorem RatSays.fits {a : List UInt8} {b : Option (List UInt8)} {p : Int} {q : Nat} (h : RatSays a b 0 p q) : FitsQ p q := by
  rcases h with ⟨_, h2, _⟩ | ⟨_, _, h2, _⟩ | ⟨_, _, _, h2, _⟩ | ⟨h1, h2, _, _, rfl, rfl⟩
  · exact absurd h2 (by decide)
  · exact absurd h2 (by decide)
  · exact absurd h2 (by decide)
  · cases b with
    | none => exact ⟨h2, Nat.le_trans (blen_le (k := 1) |>.2 (by decide)) (by decide)⟩
    | some t =>
      refine ⟨h2.1, ?_⟩
      have h3 : (isNum a && (isPos t && decide (t ≠ [49]))) = true := h1
      rw [Bool.and_eq_true, Bool.and_eq_true] at h3
      have h4 := h2.2
      rw [(isPos_num h3.2.1).1] at h4
      exact (fits_cast _).1 h4
end Go.Proofs.YtcgnmihabkgecaaGreat

/- The region of half that makes blocks. -/
set_option linter.unusedVariables false
set_option linter.unusedSimpArgs false
namespace Go.Proofs.YtcgnmihabkgecaaGreat
open Go.RowKit Go.Proofs

def half_regionS : Shape where
  f := fun i => match i with | 0 => 16 | 1 => 17 | 2 => 18 | 3 => 19 | 4 => 20 | 5 => 21 | 6 => 9 | 7 => 10 | _ => 0
  kd := fun i => match i with | 6 => .box 33 #[.bool false, .slice none 0 0] | 7 => .box 33 #[.bool false, .slice none 0 0] | 8 => .put 6 2 | 9 => .put 7 5 | _ => .val
  need := fun i => match i with | 2 => [0, 1] | 5 => [3, 4] | 8 => [6, 2] | 9 => [7, 5] | _ => []
  st := fun i => match i with | 6 => 8 | 7 => 9 | _ => 0
  src := fun i => match i with | 6 => 2 | 7 => 5 | _ => 0

set_option maxRecDepth 4000 in
set_option maxHeartbeats 2000000 in
/-- the helper half reads its integers -/
theorem half_region {Q : Exit → Act → World → Prop} {id : Nat} {a0 : Act} {W : World} {o0 o1 o2 o3 o4 o5 o6 o7 o8 o9 : Oper} (sx sy : Bool) (ax ay : Option Addr) (lx ly kx ky M : Nat) (xs ys : List Nat) (gX : Nat) (gY : Nat) (ts2 : Array TypeId) (ts5 : Array TypeId)
    (hok : half_regionS.ok #[o0, o1, o2, o3, o4, o5, o6, o7, o8, o9] a0.tmps.size = true)
    (h0 : o0.op = .load 43 (.tmp 3)) (h1 : o1.op = .move (.tmp 2)) (h2 : o2.op = .call { callee := .value (.func 55), args := #[.tmp 16, .tmp 17], argTypes := ts2 }) (h3 : o3.op = .load 43 (.tmp 4)) (h4 : o4.op = .move (.tmp 2)) (h5 : o5.op = .call { callee := .value (.func 55), args := #[.tmp 19, .tmp 20], argTypes := ts5 }) (h6 : o6.op = .alloc 33) (h7 : o7.op = .alloc 33) (h8 : o8.op = .store 33 (.tmp 9) (.tmp 18)) (h9 : o9.op = .store 33 (.tmp 10) (.tmp 21))
    (hrX : a0.eval (.tmp 3) = .pointer (some ⟨gX, 0, none⟩)) (hgX : gX < W.heap.size) (cX_0 : W.cell? ⟨gX, 0, none⟩ = some (.bool sx)) (cX_1 : W.cell? ⟨gX, 1, none⟩ = some (.slice ax lx kx))
    (hrY : a0.eval (.tmp 4) = .pointer (some ⟨gY, 0, none⟩)) (hgY : gY < W.heap.size) (cY_0 : W.cell? ⟨gY, 0, none⟩ = some (.bool sy)) (cY_1 : W.cell? ⟨gY, 1, none⟩ = some (.slice ay ly ky))
    (hmM : a0.eval (.tmp 2) = .int .i64 (M : Int))
    (hsx : Sl .u16 W ax lx xs) (hdx : Dig B16 xs) (hsy : Sl .u16 W ay ly ys) (hdy : Dig B16 ys) (hM : M ≤ 1000000) (hlx : lx ≤ 9223372036854775807) (hly : ly ≤ 9223372036854775807)
    (hend : ∀ w b6 b7 n2 o2 l2 c2 n5 o5 l5 c5 , Below W.heap.size W w → W.heap.size ≤ b6 → Box w b6 33 #[.bool n2, .slice o2 l2 c2] → W.heap.size ≤ b7 → Box w b7 33 #[.bool n5, .slice o5 l5 c5] → b6 ≠ b7 → l2 ≤ c2 → c2 ≤ 9223372036854775807 → Z16 w n2 o2 l2 (rawZ sx xs M) → l5 ≤ c5 → c5 ≤ 9223372036854775807 → Z16 w n5 o5 l5 (rawZ sy ys M) → 
      Q .normal (puts a0 [(16, .agg #[.bool sx, .slice ax lx kx]), (17, .int .i64 (M : Int)), (18, .agg #[.bool n2, .slice o2 l2 c2]), (19, .agg #[.bool sy, .slice ay ly ky]), (20, .int .i64 (M : Int)), (21, .agg #[.bool n5, .slice o5 l5 c5]), (9, .pointer (some ⟨b6, 0, none⟩)), (10, .pointer (some ⟨b7, 0, none⟩))]) w) :
    (Code.region id #[o0, o1, o2, o3, o4, o5, o6, o7, o8, o9] true).wp Tryz.prog Q a0 W := by
  refine Shape.region half_regionS (fun i v w => (fun (v : Value) => (match i with | 0 => v = .agg #[.bool sx, .slice ax lx kx] | 1 => v = .int .i64 (M : Int) | 2 => IsJ (rawZ sx xs M) v w | 3 => v = .agg #[.bool sy, .slice ay ly ky] | 4 => v = .int .i64 (M : Int) | 5 => IsJ (rawZ sy ys M) v w | _ => True : Prop)) (v i)) (by kernel_rfl) hok
    (fun i v v' w _ hj hΦ => by rw [← hj i (.inl rfl)]; exact hΦ) ?stab ?val ?box ?put rfl ?fin
  case stab =>
    intro i v hi
    match i with
    | 0 => exact Stable.const _ _
    | 1 => exact Stable.const _ _
    | 2 => exact Stable.isJ _ _ _
    | 3 => exact Stable.const _ _
    | 4 => exact Stable.const _ _
    | 5 => exact Stable.isJ _ _ _
    | 6 => exact Stable.const _ _
    | 7 => exact Stable.const _ _
    | 8 => exact Stable.const _ _
    | 9 => exact Stable.const _ _
    | i + 10 => exact Stable.const _ _
  case val =>
    intro i o ho hv a w hA hb hz hn K' hK
    have hw := below_undrew hb
    have erX : a.eval (.tmp 3) = .pointer (some ⟨gX, 0, none⟩) := (hA.eval (show 3 ∉ half_regionS.slots 10 by decide)).trans hrX
    have kX_0 := (hb.cell (p := ⟨gX, 0, none⟩) hgX).trans cX_0
    have kX_1 := (hb.cell (p := ⟨gX, 1, none⟩) hgX).trans cX_1
    have erY : a.eval (.tmp 4) = .pointer (some ⟨gY, 0, none⟩) := (hA.eval (show 4 ∉ half_regionS.slots 10 by decide)).trans hrY
    have kY_0 := (hb.cell (p := ⟨gY, 0, none⟩) hgY).trans cY_0
    have kY_1 := (hb.cell (p := ⟨gY, 1, none⟩) hgY).trans cY_1
    have emM : a.eval (.tmp 2) = .int .i64 (M : Int) := (hA.eval (show 2 ∉ half_regionS.slots 10 by decide)).trans hmM
    match i, ho, hv with
    | 0, ho, _ =>
      have ho' : o0 = o := by simpa using ho
      subst ho'
      refine wp_value (v := .agg #[.bool sx, .slice ax lx kx]) (w' := w) ?_ (hK _ _ (Below.refl _ _) (by simp [upd]))
      unfold execOp
      rw [h0]
      dsimp only
      rw [erX]
      simp [go_sem, kX_0, kX_1]
    | 1, ho, _ =>
      have ho' : o1 = o := by simpa using ho
      subst ho'
      exact wp_value (run_move h1 a w) (hK _ _ (Below.refl _ _) (by simp [upd, emM]))
    | 2, ho, _ =>
      have ho' : o2 = o := by simpa using ho
      subst ho'
      have e0 : a.eval (.tmp 16) = .agg #[.bool sx, .slice ax lx kx] := hn 0 (by simp [half_regionS]) rfl
      have e1 : a.eval (.tmp 17) = .int .i64 (M : Int) := hn 1 (by simp [half_regionS]) rfl
      refine wp_call (run_call Tryz.func55 (by kernel_rfl) rfl h2 a w) ?_ (fun v w' hb' hφ => hK v w' hb' (by simpa [upd] using hφ))
      have em : Array.map a.eval #[Operand.tmp 16, Operand.tmp 17] = #[a.eval (.tmp 16), a.eval (.tmp 17)] := by first | (simp only [List.map_toArray, List.map_cons, List.map_nil]; done) | (simp only [List.map_toArray, List.map_cons, List.map_nil]; rfl) | rfl
      rw [em, e0, e1]
      exact (lawOf_any sx ax lx kx xs (M : Int) M w (hsx.keep hw) hdx rfl hM hlx).mono fun e w h => h.is
    | 3, ho, _ =>
      have ho' : o3 = o := by simpa using ho
      subst ho'
      refine wp_value (v := .agg #[.bool sy, .slice ay ly ky]) (w' := w) ?_ (hK _ _ (Below.refl _ _) (by simp [upd]))
      unfold execOp
      rw [h3]
      dsimp only
      rw [erY]
      simp [go_sem, kY_0, kY_1]
    | 4, ho, _ =>
      have ho' : o4 = o := by simpa using ho
      subst ho'
      exact wp_value (run_move h4 a w) (hK _ _ (Below.refl _ _) (by simp [upd, emM]))
    | 5, ho, _ =>
      have ho' : o5 = o := by simpa using ho
      subst ho'
      have e3 : a.eval (.tmp 19) = .agg #[.bool sy, .slice ay ly ky] := hn 3 (by simp [half_regionS]) rfl
      have e4 : a.eval (.tmp 20) = .int .i64 (M : Int) := hn 4 (by simp [half_regionS]) rfl
      refine wp_call (run_call Tryz.func55 (by kernel_rfl) rfl h5 a w) ?_ (fun v w' hb' hφ => hK v w' hb' (by simpa [upd] using hφ))
      have em : Array.map a.eval #[Operand.tmp 19, Operand.tmp 20] = #[a.eval (.tmp 19), a.eval (.tmp 20)] := by first | (simp only [List.map_toArray, List.map_cons, List.map_nil]; done) | (simp only [List.map_toArray, List.map_cons, List.map_nil]; rfl) | rfl
      rw [em, e3, e4]
      exact (lawOf_any sy ay ly ky ys (M : Int) M w (hsy.keep hw) hdy rfl hM hly).mono fun e w h => h.is
    | 6, _, hv => cases hv
    | 7, _, hv => cases hv
    | 8, _, hv => cases hv
    | 9, _, hv => cases hv
    | i + 10, ho, _ => simp at ho
  case box =>
    intro i o T z ho hk a w
    match i, ho, hk with
    | 0, _, hk => cases hk
    | 1, _, hk => cases hk
    | 2, _, hk => cases hk
    | 3, _, hk => cases hk
    | 4, _, hk => cases hk
    | 5, _, hk => cases hk
    | 6, ho, hk =>
      have ho' : o6 = o := by simpa using ho
      subst ho'; cases hk; unfold execOp; rw [h6]; simp [go_sem]
    | 7, ho, hk =>
      have ho' : o7 = o := by simpa using ho
      subst ho'; cases hk; unfold execOp; rw [h7]; simp [go_sem]
    | 8, _, hk => cases hk
    | 9, _, hk => cases hk
    | i + 10, ho, _ => simp at ho
  case put =>
    intro i o p' s' T z ho hk hp a w b hva hφ hbx
    match i, ho, hk with
    | 0, _, hk => cases hk
    | 1, _, hk => cases hk
    | 2, _, hk => cases hk
    | 3, _, hk => cases hk
    | 4, _, hk => cases hk
    | 5, _, hk => cases hk
    | 6, _, hk => cases hk
    | 7, _, hk => cases hk
    | 8, ho, hk =>
      have ho' : o8 = o := by simpa using ho
      subst ho'; cases hk; cases hp
      obtain ⟨n2, o2, l2, c2, e2, x2, z2, y2⟩ := hφ
      have q1 : a.eval (.tmp 18) = .agg #[.bool n2, .slice o2 l2 c2] := e2
      have q2 : a.eval (.tmp 9) = .pointer (some ⟨b, 0, none⟩) := hva
      have u0 := hbx.cell 0
      have f0 := hbx.frozen 0
      have u1 := hbx.cell 1
      have f1 := hbx.frozen 1
      refine ⟨[.bool n2, .slice o2 l2 c2], e2, rfl, by simp [isInt], ?_⟩
      unfold execOp; rw [h8]
      dsimp only
      rw [q1, q2]
      simp [go_sem, u0, f0, u1, f1, setFrom]
    | 9, ho, hk =>
      have ho' : o9 = o := by simpa using ho
      subst ho'; cases hk; cases hp
      obtain ⟨n5, o5, l5, c5, e5, x5, z5, y5⟩ := hφ
      have q1 : a.eval (.tmp 21) = .agg #[.bool n5, .slice o5 l5 c5] := e5
      have q2 : a.eval (.tmp 10) = .pointer (some ⟨b, 0, none⟩) := hva
      have u0 := hbx.cell 0
      have f0 := hbx.frozen 0
      have u1 := hbx.cell 1
      have f1 := hbx.frozen 1
      refine ⟨[.bool n5, .slice o5 l5 c5], e5, rfl, by simp [isInt], ?_⟩
      unfold execOp; rw [h9]
      dsimp only
      rw [q1, q2]
      simp [go_sem, u0, f0, u1, f1, setFrom]
    | i + 10, ho, _ => simp at ho
  case fin =>
    intro a w blk hI
    have n8 : (#[o0, o1, o2, o3, o4, o5, o6, o7, o8, o9] : Array Oper).size = 10 := rfl
    rw [n8] at hI
    have hf := hI.agree.form
    have e0 : a.eval (.tmp 16) = .agg #[.bool sx, .slice ax lx kx] := hI.vals 0 (by decide) (by decide) rfl
    have e1 : a.eval (.tmp 17) = .int .i64 (M : Int) := hI.vals 1 (by decide) (by decide) rfl
    obtain ⟨n2, o2, l2, c2, e2, x2, z2, y2⟩ : IsJ (rawZ sx xs M) (a.eval (.tmp 18)) w := hI.vals 2 (by decide) (by decide) rfl
    have e3 : a.eval (.tmp 19) = .agg #[.bool sy, .slice ay ly ky] := hI.vals 3 (by decide) (by decide) rfl
    have e4 : a.eval (.tmp 20) = .int .i64 (M : Int) := hI.vals 4 (by decide) (by decide) rfl
    obtain ⟨n5, o5, l5, c5, e5, x5, z5, y5⟩ : IsJ (rawZ sy ys M) (a.eval (.tmp 21)) w := hI.vals 5 (by decide) (by decide) rfl
    obtain ⟨p6, r6, _, k6⟩ := hI.boxes 6 33 #[.bool false, .slice none 0 0] (by decide) (by decide) rfl
    obtain ⟨us6, i6, _, _, j6⟩ := k6 (show (8 : Nat) < 10 by decide)
    have y_6 : a.eval (.tmp 18) = .agg us6.toArray := i6
    rw [e2] at y_6
    cases y_6
    have e6 : a.eval (.tmp 9) = .pointer (some ⟨blk 6, 0, none⟩) := p6
    obtain ⟨p7, r7, _, k7⟩ := hI.boxes 7 33 #[.bool false, .slice none 0 0] (by decide) (by decide) rfl
    obtain ⟨us7, i7, _, _, j7⟩ := k7 (show (9 : Nat) < 10 by decide)
    have y_7 : a.eval (.tmp 21) = .agg us7.toArray := i7
    rw [e5] at y_7
    cases y_7
    have e7 : a.eval (.tmp 10) = .pointer (some ⟨blk 7, 0, none⟩) := p7
    have hsl : half_regionS.slots 10 = [16, 17, 18, 19, 20, 21, 9, 10] := rfl
    rw [hsl] at hf
    simp only [List.map_cons, List.map_nil, e0, e1, e2, e3, e4, e5, e6, e7] at hf
    rw [hf]
    exact hend w (blk 6) (blk 7) n2 o2 l2 c2 n5 o5 l5 c5  (below_undrew hI.below) r6 j6 r7 j7 (hI.apart 6 7 _ _ _ _ (by decide) (by decide) (by decide) (by decide) rfl rfl (by decide)) x2 z2 y2 x5 z5 y5
end Go.Proofs.YtcgnmihabkgecaaGreat
