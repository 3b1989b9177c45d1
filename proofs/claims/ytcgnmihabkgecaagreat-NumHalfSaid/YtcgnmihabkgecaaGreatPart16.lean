/- Part 16 of the contracts: RefRatP, RatTextF, FieldF, DecF. -/
import Derived.Test.YtcgnmihabkgecaaGreatPart15

/- The specification's ParseRat. -/
set_option linter.unusedVariables false
set_option linter.unusedSimpArgs false
namespace Go.Proofs.YtcgnmihabkgecaaGreat
open Go.RowKit Go.Proofs

def RatJ (W : World) (a : List UInt8) (b : Option (List UInt8)) (e : Ending) (w' : World) : Prop :=
  ∃ s1 o1 l1 c1 s2 o2 l2 c2 er p q, e = .returned (.tuple #[.agg #[.bool s1, .slice o1 l1 c1, .bool s2, .slice o2 l2 c2], .int .i64 er]) ∧ Below W.heap.size W w' ∧ RatSays a b er p q ∧
    (er = 0 → l1 ≤ 1024 ∧ l2 ≤ 1024 ∧ Z16 w' s1 o1 l1 p ∧ Z16 w' s2 o2 l2 (q : Int))

def PJ (W : World) (ok : Int → Prop) (e : Ending) (w' : World) : Prop :=
  ∃ neg ao len cap er, e = .returned (.tuple #[.agg #[.bool neg, .slice ao len cap], .int .i64 er]) ∧ ok er ∧ Below W.heap.size W w'
theorem ParseJ.any {xs : List UInt8} {W w' : World} {e : Ending} (h : ParseJ xs W e w') : PJ W (fun _ => True) e w' := by
  obtain ⟨neg, ao, len, cap, er, he, hb, _⟩ := h
  exact ⟨neg, ao, len, cap, er, he, trivial, hb⟩
theorem ParseJ.bad {xs : List UInt8} {W w' : World} {e : Ending} (h : ParseJ xs W e w') (hn : isNum xs = false) : PJ W (fun er => er = 4) e w' := by
  obtain ⟨neg, ao, len, cap, er, he, hb, ⟨_, h1⟩ | ⟨h1, _⟩ | ⟨h1, _⟩⟩ := h
  · exact ⟨neg, ao, len, cap, er, he, h1, hb⟩
  · rw [hn] at h1; cases h1
  · rw [hn] at h1; cases h1
theorem ParseJ.num {xs : List UInt8} {W w' : World} {e : Ending} (h : ParseJ xs W e w') (hn : isNum xs = true) : PJ W (fun er => (er == 4) = false) e w' := by
  obtain ⟨neg, ao, len, cap, er, he, hb, ⟨h1, _⟩ | ⟨_, _, h1⟩ | ⟨_, _, h1, _⟩⟩ := h
  · rw [hn] at h1; cases h1
  · exact ⟨neg, ao, len, cap, er, he, by rw [h1]; rfl, hb⟩
  · exact ⟨neg, ao, len, cap, er, he, by rw [h1]; rfl, hb⟩
theorem ParseJ.nofit {xs : List UInt8} {W w' : World} {e : Ending} (h : ParseJ xs W e w') (hn : isNum xs = true) (hf : ¬ Fits (numZ xs)) : PJ W (fun er => er = 3) e w' := by
  obtain ⟨neg, ao, len, cap, er, he, hb, ⟨h1, _⟩ | ⟨_, _, h1⟩ | ⟨_, h1, _⟩⟩ := h
  · rw [hn] at h1; cases h1
  · exact ⟨neg, ao, len, cap, er, he, h1, hb⟩
  · exact absurd h1 hf
def PJF (W : World) (z : Int) (e : Ending) (w' : World) : Prop :=
  ∃ neg ao len cap, e = .returned (.tuple #[.agg #[.bool neg, .slice ao len cap], .int .i64 0]) ∧ len ≤ 1024 ∧ len ≤ cap ∧ cap ≤ 9223372036854775807 ∧ Z16 w' neg ao len z ∧ Below W.heap.size W w'
theorem ParseJ.fit {xs : List UInt8} {W w' : World} {e : Ending} (h : ParseJ xs W e w') (hn : isNum xs = true) (hf : Fits (numZ xs)) : PJF W (numZ xs) e w' := by
  obtain ⟨neg, ao, len, cap, er, he, hb, ⟨h1, _⟩ | ⟨_, h1, _⟩ | ⟨_, _, h1, h2, h3, h4⟩⟩ := h
  · rw [hn] at h1; cases h1
  · exact absurd hf h1
  · rw [h1] at he
    exact ⟨neg, ao, len, cap, he, fits_len16 h4 hf, h2, h3, h4, hb⟩

set_option maxRecDepth 4000 in
set_option maxHeartbeats 4000000 in
theorem refParseRat_none (xs : List UInt8) (W : World) (hl : xs.length ≤ 100000000) (hc : 47 ∉ xs) :
    Calls Tryz.prog 9 #[.string ⟨xs.toArray⟩] W (RatJ W xs none) := by
  have hf : Fr W (W.alloc (.cells #[.bool false, .slice none 0 0, .bool false, .slice none 0 0] 35)) [(35, #[.bool false, .slice none 0 0, .bool false, .slice none 0 0])] := (Fr.nil W).alloc rfl _ _
  have HF := Lib.hid hf
  have HC := Lib.hid hc
  clear hf hc
  go_enter Tryz.func9, Tryz.ntmps9
  go_wp2_with fail
  go_loop [4] (fun t => ∃ k : Nat, k ≤ xs.length ∧ t = .int .i64 k) (fun t => xs.length - (intOf t).toNat)
  case atStart => exact ⟨0, by omega, rfl⟩
  case round =>
    obtain ⟨k, hk, rfl⟩ := hrel
    by_cases hlt : k < xs.length
    · have t1 : (k : Int) < (xs.length : Int) := by omega
      have hs : k < (⟨xs.toArray⟩ : ByteArray).size := by rw [str_size]; exact hlt
      have h7 : xs[k].toNat ≠ 47 := fun e => HC.out (by rw [← show xs[k] = 47 from UInt8.toNat_inj.1 e]; exact List.getElem_mem hlt)
      have t2 : ¬ ((((⟨xs.toArray⟩ : ByteArray)[k]'hs).toNat : Nat) : Int) = 47 := by show ¬ ((xs[k].toNat : Nat) : Int) = 47; omega
      have t3 : (((((⟨xs.toArray⟩ : ByteArray)[k]'hs).toNat : Nat) : Int) == 47) = false := by simpa using t2
      have t4 : (((((⟨xs.toArray⟩ : ByteArray)[k]'hs).toNat : Nat) : Int) != 47) = true := by simpa using t2
      clear h7
      go_wp2
      go_round
      case rel => exact ⟨k + 1, by omega, by go_num⟩
      case measure => simp [intOf]; omega
    · obtain rfl : k = xs.length := by omega
      have t1 : ¬ (xs.length : Int) < (xs.length : Int) := by omega
      clear hlt hk
      cases hn : isNum xs with
      | false =>
        go_wp2_with fail
        refine ((refParse_any xs _ hl).mono fun e w h => h.bad hn).mono ?_
        rintro e w1 ⟨n1, o1, l1, c1, er, rfl, rfl, hb⟩
        have HN : Hid (textOk xs none = false) := hn
        have HF1 := Lib.hid (HF.out.later hb)
        have hf2 : Fr w1 (w1.alloc (.cells #[.bool n1, .slice o1 l1 c1] 33)) [(33, #[.bool n1, .slice o1 l1 c1])] := (Fr.nil w1).alloc rfl _ _
        have HF2 := Lib.hid (HF1.out.later hf2.below)
        clear hn hb hf2
        have g0 : (w1.alloc (.cells #[.bool n1, .slice o1 l1 c1] 33)).cell? ⟨W.heap.size, 0, none⟩ = some (.bool false) := HF2.out.cell 0 0 rfl rfl
        have g1 : (w1.alloc (.cells #[.bool n1, .slice o1 l1 c1] 33)).cell? ⟨W.heap.size, 1, none⟩ = some (.slice none 0 0) := HF2.out.cell 0 1 rfl rfl
        have g2 : (w1.alloc (.cells #[.bool n1, .slice o1 l1 c1] 33)).cell? ⟨W.heap.size, 2, none⟩ = some (.bool false) := HF2.out.cell 0 2 rfl rfl
        have g3 : (w1.alloc (.cells #[.bool n1, .slice o1 l1 c1] 33)).cell? ⟨W.heap.size, 3, none⟩ = some (.slice none 0 0) := HF2.out.cell 0 3 rfl rfl
        have gf0 : (w1.alloc (.cells #[.bool n1, .slice o1 l1 c1] 33)).frozen? ⟨W.heap.size, 0, none⟩ = false := HF2.out.frozen 0 0 rfl
        have gf1 : (w1.alloc (.cells #[.bool n1, .slice o1 l1 c1] 33)).frozen? ⟨W.heap.size, 1, none⟩ = false := HF2.out.frozen 0 1 rfl
        have gf2 : (w1.alloc (.cells #[.bool n1, .slice o1 l1 c1] 33)).frozen? ⟨W.heap.size, 2, none⟩ = false := HF2.out.frozen 0 2 rfl
        have gf3 : (w1.alloc (.cells #[.bool n1, .slice o1 l1 c1] 33)).frozen? ⟨W.heap.size, 3, none⟩ = false := HF2.out.frozen 0 3 rfl
        go_wp2
        obtain ⟨e0, e1, e2, e3, k1, k2, hbel⟩ := HF2.out.finK (c1 := 0) (c2 := 0) 0 rfl (Z16.nil _) (Z16.nil _)
        exact bodyPost_ret (v := .tuple #[.agg #[.bool false, .slice none 0 0, .bool false, .slice none 0 0], .int .i64 4]) (by simp only [Nat.add_zero] at e0 e1 e2 e3; simp [results, Tryz.results9, go_sem, e0, e1, e2, e3]) rfl ⟨false, none, 0, 0, false, none, 0, 0, 4, 0, 1, rfl, hbel, .inl ⟨HN.out, rfl, rfl, rfl⟩, fun h => absurd h (by decide)⟩
      | true =>
        by_cases hfit : Fits (numZ xs)
        · go_wp2_with fail
          refine ((refParse_any xs _ hl).mono fun e w h => h.fit hn hfit).mono ?_
          rintro e w1 ⟨n1, o1, l1, c1, rfl, hl1, hc1, hm1, hz, hb⟩
          have HN : Hid (textOk xs none = true) := hn
          have HFIT : Hid (bothFit xs none) := hfit
          have HF1 := Lib.hid (HF.out.later hb)
          obtain ⟨V, hV⟩ : ∃ V, V = w1.alloc (.cells #[.bool n1, .slice o1 l1 c1] 33) := ⟨_, rfl⟩
          have hf2 : Fr w1 V [(33, #[.bool n1, .slice o1 l1 c1])] := by rw [hV]; exact (Fr.nil w1).alloc rfl _ _
          have HF2 := Lib.hid (HF1.out.later hf2.below)
          have HG2 := Lib.hid hf2
          have HZ2 := Lib.hid (hz.keep hf2.below)
          have hsz : W.heap.size + 1 ≤ w1.heap.size := by have := HF1.out.size; simpa using this
          clear hn hfit hz hb hf2
          go_wp2_with fail
          rw [← hV]
          clear hV
          have a0 : V.cell? ⟨w1.heap.size, 0, none⟩ = some (.bool n1) := HG2.out.cell 0 0 rfl rfl
          have a1 : V.cell? ⟨w1.heap.size, 1, none⟩ = some (.slice o1 l1 c1) := HG2.out.cell 0 1 rfl rfl
          go_region_held3 (fun w' => w'.cell? ⟨w1.heap.size, 0, none⟩ = some (.bool n1) ∧ w'.cell? ⟨w1.heap.size, 1, none⟩ = some (.slice o1 l1 c1)) (first | (go_keep; done) | ((try dsimp only); (repeat' apply And.intro) <;> (first | (go_keep; done) | (rw [cell_set4 _ _ _ _ _ _ _ _ (by omega)]; assumption))))
            ((go_at_call 36; refine (refOf_any 1 V.drew (by omega) (by omega)).mono ?_; rintro e w3 ⟨n2, o2, l2, c2, rfl, hc2, hm2, hy, hb⟩; have hbb := below_of_drew hb; have HF3 := Lib.hid (HF2.out.later hbb); have HG3 := Lib.hid (HG2.out.later hbb); have HZ3 := Lib.hid (HZ2.out.keep hbb); have HY3 := Lib.hid hy; clear hb hbb hy; have b0 : w3.cell? ⟨w1.heap.size, 0, none⟩ = some (.bool n1) := HG3.out.cell 0 0 rfl rfl; have b1 : w3.cell? ⟨w1.heap.size, 1, none⟩ = some (.slice o1 l1 c1) := HG3.out.cell 0 1 rfl rfl; have g0 : w3.cell? ⟨W.heap.size, 0, none⟩ = some (.bool false) := HF3.out.cell 0 0 rfl rfl; have g1 : w3.cell? ⟨W.heap.size, 1, none⟩ = some (.slice none 0 0) := HF3.out.cell 0 1 rfl rfl; have g2 : w3.cell? ⟨W.heap.size, 2, none⟩ = some (.bool false) := HF3.out.cell 0 2 rfl rfl; have g3 : w3.cell? ⟨W.heap.size, 3, none⟩ = some (.slice none 0 0) := HF3.out.cell 0 3 rfl rfl; have gf0 : w3.frozen? ⟨W.heap.size, 0, none⟩ = false := HF3.out.frozen 0 0 rfl; have gf1 : w3.frozen? ⟨W.heap.size, 1, none⟩ = false := HF3.out.frozen 0 1 rfl; have gf2 : w3.frozen? ⟨W.heap.size, 2, none⟩ = false := HF3.out.frozen 0 2 rfl; have gf3 : w3.frozen? ⟨W.heap.size, 3, none⟩ = false := HF3.out.frozen 0 3 rfl))
          go_wp2
          obtain ⟨e0, e1, e2, e3, k1, k2, hbel⟩ := HF3.out.finK (c1 := c1) (c2 := c2) 0 rfl HZ3.out HY3.out
          exact bodyPost_ret (v := .tuple #[.agg #[.bool n1, .slice o1 l1 c1, .bool n2, .slice o2 l2 c2], .int .i64 0]) (by simp only [Nat.add_zero] at e0 e1 e2 e3; simp [results, Tryz.results9, go_sem, e0, e1, e2, e3]) rfl ⟨n1, o1, l1, c1, n2, o2, l2, c2, 0, _, _, rfl, hbel, .inr (.inr (.inr ⟨HN.out, HFIT.out, Nat.gcd_one_right _, rfl, rfl, rfl⟩)), fun _ => ⟨hl1, Nat.le_trans (HY3.out.n16.len_le (k := 1) (by decide)) (by omega), k1, k2⟩⟩
        · go_wp2_with fail
          refine ((refParse_any xs _ hl).mono fun e w h => h.nofit hn hfit).mono ?_
          rintro e w1 ⟨n1, o1, l1, c1, er, rfl, rfl, hb⟩
          have HN : Hid (textOk xs none = true) := hn
          have HFIT : Hid (¬ bothFit xs none) := hfit
          have HF1 := Lib.hid (HF.out.later hb)
          have hf2 : Fr w1 (w1.alloc (.cells #[.bool n1, .slice o1 l1 c1] 33)) [(33, #[.bool n1, .slice o1 l1 c1])] := (Fr.nil w1).alloc rfl _ _
          have HF2 := Lib.hid (HF1.out.later hf2.below)
          clear hn hfit hb hf2
          have g0 : (w1.alloc (.cells #[.bool n1, .slice o1 l1 c1] 33)).cell? ⟨W.heap.size, 0, none⟩ = some (.bool false) := HF2.out.cell 0 0 rfl rfl
          have g1 : (w1.alloc (.cells #[.bool n1, .slice o1 l1 c1] 33)).cell? ⟨W.heap.size, 1, none⟩ = some (.slice none 0 0) := HF2.out.cell 0 1 rfl rfl
          have g2 : (w1.alloc (.cells #[.bool n1, .slice o1 l1 c1] 33)).cell? ⟨W.heap.size, 2, none⟩ = some (.bool false) := HF2.out.cell 0 2 rfl rfl
          have g3 : (w1.alloc (.cells #[.bool n1, .slice o1 l1 c1] 33)).cell? ⟨W.heap.size, 3, none⟩ = some (.slice none 0 0) := HF2.out.cell 0 3 rfl rfl
          have gf0 : (w1.alloc (.cells #[.bool n1, .slice o1 l1 c1] 33)).frozen? ⟨W.heap.size, 0, none⟩ = false := HF2.out.frozen 0 0 rfl
          have gf1 : (w1.alloc (.cells #[.bool n1, .slice o1 l1 c1] 33)).frozen? ⟨W.heap.size, 1, none⟩ = false := HF2.out.frozen 0 1 rfl
          have gf2 : (w1.alloc (.cells #[.bool n1, .slice o1 l1 c1] 33)).frozen? ⟨W.heap.size, 2, none⟩ = false := HF2.out.frozen 0 2 rfl
          have gf3 : (w1.alloc (.cells #[.bool n1, .slice o1 l1 c1] 33)).frozen? ⟨W.heap.size, 3, none⟩ = false := HF2.out.frozen 0 3 rfl
          go_wp2
          obtain ⟨e0, e1, e2, e3, k1, k2, hbel⟩ := HF2.out.finK (c1 := 0) (c2 := 0) 0 rfl (Z16.nil _) (Z16.nil _)
          exact bodyPost_ret (v := .tuple #[.agg #[.bool false, .slice none 0 0, .bool false, .slice none 0 0], .int .i64 3]) (by simp only [Nat.add_zero] at e0 e1 e2 e3; simp [results, Tryz.results9, go_sem, e0, e1, e2, e3]) rfl ⟨false, none, 0, 0, false, none, 0, 0, 3, 0, 1, rfl, hbel, .inr (.inl ⟨HN.out, HFIT.out, rfl, rfl, rfl⟩), fun h => absurd h (by decide)⟩

theorem isPos_numB {t : List UInt8} (h : isPos t = true) : numB t = true ∧ t ≠ [48] := by
  refine ⟨by rw [numB_eq, h, Bool.or_true], ?_⟩
  intro e
  obtain ⟨x, s, rfl, h1, _⟩ := isPos_parts h
  have : x = 48 := by simpa using (List.cons.inj e).1
  subst this
  exact absurd h1 (by decide)

set_option maxRecDepth 4000 in
set_option maxHeartbeats 8000000 in
theorem refParseRat_at (a t : List UInt8) (W : World) (hl : (a ++ 47 :: t).length ≤ 100000000) (hc : 47 ∉ a) :
    Calls Tryz.prog 9 #[.string ⟨(a ++ 47 :: t).toArray⟩] W (RatJ W a (some t)) := by
  have hf : Fr W (W.alloc (.cells #[.bool false, .slice none 0 0, .bool false, .slice none 0 0] 35)) [(35, #[.bool false, .slice none 0 0, .bool false, .slice none 0 0])] := (Fr.nil W).alloc rfl _ _
  have HF := Lib.hid hf
  have hla0 : a.length ≤ 100000000 := by simp at hl; omega
  have hlt0 : t.length ≤ 100000000 := by simp at hl; omega
  obtain ⟨xs, hxs⟩ : ∃ xs, xs = a ++ 47 :: t := ⟨_, rfl⟩
  obtain ⟨n, hn⟩ : ∃ n, n = a.length := ⟨_, rfl⟩
  have hlen : n + 1 ≤ xs.length := by rw [hxs, hn]; simp
  have HA : Hid ((⟨xs.toArray⟩ : ByteArray).extract 0 n = ⟨a.toArray⟩) := by show _ = _; rw [str_take xs n (by omega), hxs, hn]; simp
  have HB : Hid ((⟨xs.toArray⟩ : ByteArray).extract (n + 1) xs.length = ⟨t.toArray⟩) := by show _ = _; rw [str_drop, hxs, hn]; simp
  have HNE : Hid (∀ k (h : k < xs.length), k < n → xs[k].toNat ≠ 47) := by
    intro k h hk e
    have h2 : xs[k] = a[k]'(by omega) := by subst hxs; rw [List.getElem_append_left]
    exact hc (by rw [← show xs[k] = 47 from UInt8.toNat_inj.1 e, h2]; exact List.getElem_mem _)
  have HEQ : Hid (∀ h : n < xs.length, xs[n] = 47) := by
    intro h
    subst hxs hn
    rw [List.getElem_append_right (by omega)]
    simp
  rw [← hxs] at hl ⊢
  clear hf hc hxs hn
  go_enter Tryz.func9, Tryz.ntmps9
  go_wp2_with fail
  go_loop [4] (fun t => ∃ k : Nat, k ≤ n ∧ t = .int .i64 k) (fun t => xs.length - (intOf t).toNat)
  case atStart => exact ⟨0, by omega, rfl⟩
  case round =>
    obtain ⟨k, hk, rfl⟩ := hrel
    have t1 : (k : Int) < (xs.length : Int) := by omega
    have hs : k < (⟨xs.toArray⟩ : ByteArray).size := by rw [str_size]; omega
    by_cases hlt : k < n
    · have h7 := HNE.out k (by omega) hlt
      have t2 : ¬ ((((⟨xs.toArray⟩ : ByteArray)[k]'hs).toNat : Nat) : Int) = 47 := by show ¬ ((xs[k].toNat : Nat) : Int) = 47; omega
      have t3 : (((((⟨xs.toArray⟩ : ByteArray)[k]'hs).toNat : Nat) : Int) == 47) = false := by simpa using t2
      have t4 : (((((⟨xs.toArray⟩ : ByteArray)[k]'hs).toNat : Nat) : Int) != 47) = true := by simpa using t2
      clear h7
      go_wp2
      go_round
      case rel => exact ⟨k + 1, by omega, by go_num⟩
      case measure => simp [intOf]; omega
    · obtain rfl : k = n := by omega
      have h7 : xs[k]'(by omega) = 47 := HEQ.out (by omega)
      have t2 : ((((⟨xs.toArray⟩ : ByteArray)[k]'hs).toNat : Nat) : Int) = 47 := by show ((xs[k].toNat : Nat) : Int) = 47; rw [h7]; rfl
      have t3 : (((((⟨xs.toArray⟩ : ByteArray)[k]'hs).toNat : Nat) : Int) == 47) = true := by simpa using t2
      have t4 : (((((⟨xs.toArray⟩ : ByteArray)[k]'hs).toNat : Nat) : Int) != 47) = false := by simpa using t2
      have t5 : ((k : Int) == (xs.length : Int)) = false := by simp; omega
      have t6 : (0 : Int) ≤ (k : Int) + 1 := by omega
      have t7 : (k : Int) + 1 ≤ (xs.length : Int) := by omega
      have t8 : (k : Int) ≤ (xs.length : Int) := by omega
      clear hlt hk h7 t2
      go_wp2_with fail
      go_region
      go_wp2_with fail
      rw [HA.out, HB.out]
      clear t3 t4 t5 t6 t7 t8
      have hU : Fr W (W.alloc (.cells #[.bool false, .slice none 0 0, .bool false, .slice none 0 0] 35)).drew [(35, #[.bool false, .slice none 0 0, .bool false, .slice none 0 0])] := HF.out.drew
      have HU := Lib.hid hU
      clear hU
      cases hn : isNum a with
      | false =>
        go_wp2_with fail
        refine ((refParse_any a _ hla0).mono fun e w h => h.bad hn).mono ?_
        rintro e w1 ⟨n1, o1, l1, c1, er, rfl, rfl, hb⟩
        have HF1 := Lib.hid (HF.out.later (w' := w1) (by first | exact hb | exact below_of_drew hb))
        have HN : Hid (textOk a (some t) = false) := by show (isNum a && (isPos t && decide (t ≠ [49]))) = false; rw [hn]; rfl
        have hf2 : Fr w1 (w1.alloc (.cells #[.bool n1, .slice o1 l1 c1] 33)) [(33, #[.bool n1, .slice o1 l1 c1])] := (Fr.nil w1).alloc rfl _ _
        have HF2 := Lib.hid (HF1.out.later hf2.below)
        clear hb hf2
        clear hn
        have g0 : (w1.alloc (.cells #[.bool n1, .slice o1 l1 c1] 33)).cell? ⟨W.heap.size, 0, none⟩ = some (.bool false) := HF2.out.cell 0 0 rfl rfl
        have g1 : (w1.alloc (.cells #[.bool n1, .slice o1 l1 c1] 33)).cell? ⟨W.heap.size, 1, none⟩ = some (.slice none 0 0) := HF2.out.cell 0 1 rfl rfl
        have g2 : (w1.alloc (.cells #[.bool n1, .slice o1 l1 c1] 33)).cell? ⟨W.heap.size, 2, none⟩ = some (.bool false) := HF2.out.cell 0 2 rfl rfl
        have g3 : (w1.alloc (.cells #[.bool n1, .slice o1 l1 c1] 33)).cell? ⟨W.heap.size, 3, none⟩ = some (.slice none 0 0) := HF2.out.cell 0 3 rfl rfl
        have gf0 : (w1.alloc (.cells #[.bool n1, .slice o1 l1 c1] 33)).frozen? ⟨W.heap.size, 0, none⟩ = false := HF2.out.frozen 0 0 rfl
        have gf1 : (w1.alloc (.cells #[.bool n1, .slice o1 l1 c1] 33)).frozen? ⟨W.heap.size, 1, none⟩ = false := HF2.out.frozen 0 1 rfl
        have gf2 : (w1.alloc (.cells #[.bool n1, .slice o1 l1 c1] 33)).frozen? ⟨W.heap.size, 2, none⟩ = false := HF2.out.frozen 0 2 rfl
        have gf3 : (w1.alloc (.cells #[.bool n1, .slice o1 l1 c1] 33)).frozen? ⟨W.heap.size, 3, none⟩ = false := HF2.out.frozen 0 3 rfl
        go_wp2
        obtain ⟨e0, e1, e2, e3, k1, k2, hbel⟩ := HF2.out.finK (c1 := 0) (c2 := 0) 0 rfl (Z16.nil _) (Z16.nil _)
        exact bodyPost_ret (v := .tuple #[.agg #[.bool false, .slice none 0 0, .bool false, .slice none 0 0], .int .i64 4]) (by simp only [Nat.add_zero] at e0 e1 e2 e3; simp [results, Tryz.results9, go_sem, e0, e1, e2, e3]) rfl ⟨false, none, 0, 0, false, none, 0, 0, 4, 0, 1, rfl, hbel, .inl ⟨HN.out, rfl, rfl, rfl⟩, fun h => absurd h (by decide)⟩
      | true =>
        by_cases hok : isPos t = true ∧ t ≠ [49]
        · obtain ⟨hp, h9⟩ := hok
          have HN : Hid (textOk a (some t) = true) := by show (isNum a && (isPos t && decide (t ≠ [49]))) = true; rw [hn, hp, decide_eq_true h9]; rfl
          have HZT := Lib.hid (isPos_num hp).1
          have HGT := Lib.hid (isPos_gt hp).1
          have hnt := (isPos_num hp).2
          have hnb := (isPos_numB hp).1
          have h48 : (t == [48]) = false := by simpa using (isPos_numB hp).2
          have h49 : (t == [49]) = false := by simpa using h9
          clear hp h9
          by_cases hfa : Fits (numZ a)
          · go_wp2_with fail
            refine ((refParse_any a _ hla0).mono fun e w h => h.fit hn hfa).mono ?_
            rintro e w1 ⟨n1, o1, l1, c1, rfl, hl1, hc1, hm1, hz, hb⟩
            have HF1 := Lib.hid (HF.out.later (w' := w1) (by first | exact hb | exact below_of_drew hb))
            have HFA := Lib.hid hfa
            obtain ⟨V, hV⟩ : ∃ V, V = (w1.alloc (.cells #[.bool n1, .slice o1 l1 c1] 33)) := ⟨_, rfl⟩
            have hf2 : Fr w1 V [(33, #[.bool n1, .slice o1 l1 c1])] := by rw [hV]; exact (Fr.nil w1).alloc rfl _ _
            have HF2 := Lib.hid (HF1.out.later hf2.below)
            have HG2 := Lib.hid hf2
            have HZ2 := Lib.hid (hz.keep hf2.below)
            clear hb hf2 hz hn hfa
            go_wp2_with fail
            rw [← hV]
            clear hV
            by_cases hft : Fits (numZ t)
            · refine (numeral16_any t _ (by omega)).mono ?_
              rw [hnb]
              rintro e w3 ⟨rfl, hw⟩
              obtain rfl : V = w3 := hw
              go_wp2_with fail
              refine ((refParse_any t _ hlt0).mono fun e w h => h.fit hnt hft).mono ?_
              rintro e w4 ⟨n2, o2, l2, c2, rfl, hl2, hc2, hm2, hz, hb⟩
              have HFT := Lib.hid hft
              rw [HZT.out] at hz
              have HF4 := Lib.hid (HF2.out.later hb)
              have HG4 := Lib.hid (HG2.out.later hb)
              have HZ4 := Lib.hid (HZ2.out.keep hb)
              have hf5 : Fr w4 (w4.alloc (.cells #[.bool n2, .slice o2 l2 c2] 33)) [(33, #[.bool n2, .slice o2 l2 c2])] := (Fr.nil w4).alloc rfl _ _
              have HF5 := Lib.hid (HF4.out.later hf5.below)
              have HG5 := Lib.hid (HG4.out.later hf5.below)
              have HH5 := Lib.hid hf5
              have HZ5 := Lib.hid (HZ4.out.keep hf5.below)
              have HY5 := Lib.hid (hz.keep hf5.below)
              clear hb hf5 hz hft hnt hnb h48 h49
              have a0 : (w4.alloc (.cells #[.bool n2, .slice o2 l2 c2] 33)).cell? ⟨w1.heap.size, 0, none⟩ = some (.bool n1) := HG5.out.cell 0 0 rfl rfl
              have a1 : (w4.alloc (.cells #[.bool n2, .slice o2 l2 c2] 33)).cell? ⟨w1.heap.size, 1, none⟩ = some (.slice o1 l1 c1) := HG5.out.cell 0 1 rfl rfl
              have d0 : (w4.alloc (.cells #[.bool n2, .slice o2 l2 c2] 33)).cell? ⟨w4.heap.size, 0, none⟩ = some (.bool n2) := HH5.out.cell 0 0 rfl rfl
              have d1 : (w4.alloc (.cells #[.bool n2, .slice o2 l2 c2] 33)).cell? ⟨w4.heap.size, 1, none⟩ = some (.slice o2 l2 c2) := HH5.out.cell 0 1 rfl rfl
              go_wp2_with fail
              refine (gcdZ16_any _ _ _ _ _ _ _ _ _ _ _ HZ5.out HY5.out (by omega) (by omega) hc1 hm1 hc2 hm2).mono ?_
              rintro e w6 ⟨n3, o3, l3, c3, rfl, hc3, hm3, hg, hb⟩
              have hgl : l3 ≤ 1000000 := by
                have h1 := hg.n16
                rw [Int.natAbs_natCast] at h1
                have h2 : Nat.gcd (numZ a).natAbs (dec t) < B16 ^ (l2 + 1) := by
                  have h3 := HY5.out.n16.lt
                  rw [Int.natAbs_natCast] at h3
                  by_cases h0 : dec t = 0
                  · have h4 := HZ5.out.n16.lt
                    exact absurd h0 (by have := HGT.out; omega)
                  · exact Nat.lt_of_le_of_lt (Nat.gcd_le_right _ (by omega)) (Nat.lt_of_lt_of_le h3 (Nat.pow_le_pow_right (by decide) (by omega)))
                exact Nat.le_trans (h1.len_le h2) (by omega)
              obtain ⟨g, hgg⟩ : ∃ g, g = Int.gcd (numZ a) (dec t : Int) := ⟨_, rfl⟩
              have HGG : Hid (Nat.gcd (numZ a).natAbs (denOf (some t)) = g) := by show Nat.gcd (numZ a).natAbs (dec t) = g; rw [hgg]; unfold Int.gcd; rw [Int.natAbs_natCast]
              rw [← hgg] at hg
              clear hgg a0 a1 d0 d1
              have HF6 := Lib.hid (HF5.out.later hb)
              have HG6 := Lib.hid (HG5.out.later hb)
              have HH6 := Lib.hid (HH5.out.later hb)
              have HZ6 := Lib.hid (HZ5.out.keep hb)
              have HY6 := Lib.hid (HY5.out.keep hb)
              have HX6 := Lib.hid hg
              clear hb hg
              go_wp2_with fail
              refine (refOf_any 1 _ (by omega) (by omega)).mono ?_
              rintro e w7 ⟨n4, o4, l4, c4, rfl, hc4, hm4, hz, hb⟩
              have hl4 : l4 ≤ 1024 := Nat.le_trans (hz.n16.len_le (k := 1) (by decide)) (by omega)
              have HF7 := Lib.hid (HF6.out.later hb)
              have HG7 := Lib.hid (HG6.out.later hb)
              have HH7 := Lib.hid (HH6.out.later hb)
              have HZ7 := Lib.hid (HZ6.out.keep hb)
              have HY7 := Lib.hid (HY6.out.keep hb)
              have HX7 := Lib.hid (HX6.out.keep hb)
              have HO7 := Lib.hid hz
              clear hb hz
              go_wp2_with fail
              refine (cmpZ16_any _ _ _ _ _ _ _ _ _ _ _ HX7.out HO7.out (by omega) (by omega) hc4 hm4).mono ?_
              obtain ⟨s, hs1⟩ : ∃ s, s = ((g : Int) - 1).sign := ⟨_, rfl⟩
              rw [← hs1]
              rintro e w8 ⟨rfl, hb⟩
              have HF8 := Lib.hid (HF7.out.later hb)
              have HG8 := Lib.hid (HG7.out.later hb)
              have HH8 := Lib.hid (HH7.out.later hb)
              have HZ8 := Lib.hid (HZ7.out.keep hb)
              have HY8 := Lib.hid (HY7.out.keep hb)
              clear hb
              have a0 : w8.cell? ⟨w1.heap.size, 0, none⟩ = some (.bool n1) := HG8.out.cell 0 0 rfl rfl
              have a1 : w8.cell? ⟨w1.heap.size, 1, none⟩ = some (.slice o1 l1 c1) := HG8.out.cell 0 1 rfl rfl
              have d0 : w8.cell? ⟨w4.heap.size, 0, none⟩ = some (.bool n2) := HH8.out.cell 0 0 rfl rfl
              have d1 : w8.cell? ⟨w4.heap.size, 1, none⟩ = some (.slice o2 l2 c2) := HH8.out.cell 0 1 rfl rfl
              have g0 : w8.cell? ⟨W.heap.size, 0, none⟩ = some (.bool false) := HF8.out.cell 0 0 rfl rfl
              have g1 : w8.cell? ⟨W.heap.size, 1, none⟩ = some (.slice none 0 0) := HF8.out.cell 0 1 rfl rfl
              have g2 : w8.cell? ⟨W.heap.size, 2, none⟩ = some (.bool false) := HF8.out.cell 0 2 rfl rfl
              have g3 : w8.cell? ⟨W.heap.size, 3, none⟩ = some (.slice none 0 0) := HF8.out.cell 0 3 rfl rfl
              have gf0 : w8.frozen? ⟨W.heap.size, 0, none⟩ = false := HF8.out.frozen 0 0 rfl
              have gf1 : w8.frozen? ⟨W.heap.size, 1, none⟩ = false := HF8.out.frozen 0 1 rfl
              have gf2 : w8.frozen? ⟨W.heap.size, 2, none⟩ = false := HF8.out.frozen 0 2 rfl
              have gf3 : w8.frozen? ⟨W.heap.size, 3, none⟩ = false := HF8.out.frozen 0 3 rfl
              by_cases hg1 : g = 1
              · have hs0 : s = 0 := by rw [hs1, hg1]; rfl
                have hsb : (s != 0) = false := by rw [hs0]; rfl
                have HG1 : Hid (Nat.gcd (numZ a).natAbs (denOf (some t)) = 1) := by show _ = _; rw [HGG.out]; exact hg1
                clear hg1 hs1 hs0
                go_wp2
                obtain ⟨e0, e1, e2, e3, k1, k2, hbel⟩ := HF8.out.finK (c1 := c1) (c2 := c2) 0 rfl HZ8.out HY8.out
                exact bodyPost_ret (v := .tuple #[.agg #[.bool n1, .slice o1 l1 c1, .bool n2, .slice o2 l2 c2], .int .i64 0]) (by simp only [Nat.add_zero] at e0 e1 e2 e3; simp [results, Tryz.results9, go_sem, e0, e1, e2, e3]) rfl ⟨n1, o1, l1, c1, n2, o2, l2, c2, 0, _, _, rfl, hbel, .inr (.inr (.inr ⟨HN.out, ⟨HFA.out, HFT.out⟩, HG1.out, rfl, rfl, rfl⟩)), fun _ => ⟨hl1, hl2, k1, k2⟩⟩
              · have hs0 : s ≠ 0 := by
                  rw [hs1]; intro h
                  have := Int.sign_eq_zero_iff_zero.1 h
                  omega
                have hsb : (s != 0) = true := by simpa using hs0
                have HG1 : Hid (Nat.gcd (numZ a).natAbs (denOf (some t)) ≠ 1) := by show _ ≠ _; rw [HGG.out]; exact hg1
                clear hg1 hs1 hs0
                go_wp2
                obtain ⟨e0, e1, e2, e3, k1, k2, hbel⟩ := HF8.out.finK (c1 := 0) (c2 := 0) 0 rfl (Z16.nil _) (Z16.nil _)
                exact bodyPost_ret (v := .tuple #[.agg #[.bool false, .slice none 0 0, .bool false, .slice none 0 0], .int .i64 4]) (by simp only [Nat.add_zero] at e0 e1 e2 e3; simp [results, Tryz.results9, go_sem, e0, e1, e2, e3]) rfl ⟨false, none, 0, 0, false, none, 0, 0, 4, 0, 1, rfl, hbel, .inr (.inr (.inl ⟨HN.out, ⟨HFA.out, HFT.out⟩, HG1.out, rfl, rfl, rfl⟩)), fun h => absurd h (by decide)⟩
            · refine (numeral16_any t _ (by omega)).mono ?_
              rw [hnb]
              rintro e w3 ⟨rfl, hw⟩
              obtain rfl : V = w3 := hw
              go_wp2_with fail
              refine ((refParse_any t _ hlt0).mono fun e w h => h.nofit hnt hft).mono ?_
              rintro e w4 ⟨n2, o2, l2, c2, fr, rfl, rfl, hb⟩
              have HX : Hid (¬ bothFit a (some t)) := fun h => hft h.2
              have HF4 := Lib.hid (HF2.out.later hb)
              have hf5 : Fr w4 (w4.alloc (.cells #[.bool n2, .slice o2 l2 c2] 33)) [(33, #[.bool n2, .slice o2 l2 c2])] := (Fr.nil w4).alloc rfl _ _
              have HF5 := Lib.hid (HF4.out.later hf5.below)
              clear hb hf5
              clear hft hnt hnb h48 h49
              have g0 : (w4.alloc (.cells #[.bool n2, .slice o2 l2 c2] 33)).cell? ⟨W.heap.size, 0, none⟩ = some (.bool false) := HF5.out.cell 0 0 rfl rfl
              have g1 : (w4.alloc (.cells #[.bool n2, .slice o2 l2 c2] 33)).cell? ⟨W.heap.size, 1, none⟩ = some (.slice none 0 0) := HF5.out.cell 0 1 rfl rfl
              have g2 : (w4.alloc (.cells #[.bool n2, .slice o2 l2 c2] 33)).cell? ⟨W.heap.size, 2, none⟩ = some (.bool false) := HF5.out.cell 0 2 rfl rfl
              have g3 : (w4.alloc (.cells #[.bool n2, .slice o2 l2 c2] 33)).cell? ⟨W.heap.size, 3, none⟩ = some (.slice none 0 0) := HF5.out.cell 0 3 rfl rfl
              have gf0 : (w4.alloc (.cells #[.bool n2, .slice o2 l2 c2] 33)).frozen? ⟨W.heap.size, 0, none⟩ = false := HF5.out.frozen 0 0 rfl
              have gf1 : (w4.alloc (.cells #[.bool n2, .slice o2 l2 c2] 33)).frozen? ⟨W.heap.size, 1, none⟩ = false := HF5.out.frozen 0 1 rfl
              have gf2 : (w4.alloc (.cells #[.bool n2, .slice o2 l2 c2] 33)).frozen? ⟨W.heap.size, 2, none⟩ = false := HF5.out.frozen 0 2 rfl
              have gf3 : (w4.alloc (.cells #[.bool n2, .slice o2 l2 c2] 33)).frozen? ⟨W.heap.size, 3, none⟩ = false := HF5.out.frozen 0 3 rfl
              go_wp2
              obtain ⟨e0, e1, e2, e3, k1, k2, hbel⟩ := HF5.out.finK (c1 := 0) (c2 := 0) 0 rfl (Z16.nil _) (Z16.nil _)
              exact bodyPost_ret (v := .tuple #[.agg #[.bool false, .slice none 0 0, .bool false, .slice none 0 0], .int .i64 3]) (by simp only [Nat.add_zero] at e0 e1 e2 e3; simp [results, Tryz.results9, go_sem, e0, e1, e2, e3]) rfl ⟨false, none, 0, 0, false, none, 0, 0, 3, 0, 1, rfl, hbel, .inr (.inl ⟨HN.out, HX.out, rfl, rfl, rfl⟩), fun h => absurd h (by decide)⟩
          · go_wp2_with fail
            refine ((refParse_any a _ hla0).mono fun e w h => h.nofit hn hfa).mono ?_
            rintro e w1 ⟨n1, o1, l1, c1, er, rfl, rfl, hb⟩
            have HF1 := Lib.hid (HF.out.later (w' := w1) (by first | exact hb | exact below_of_drew hb))
            have HX : Hid (¬ bothFit a (some t)) := fun h => hfa h.1
            obtain ⟨V, hV⟩ : ∃ V, V = (w1.alloc (.cells #[.bool n1, .slice o1 l1 c1] 33)) := ⟨_, rfl⟩
            have hf2 : Fr w1 V [(33, #[.bool n1, .slice o1 l1 c1])] := by rw [hV]; exact (Fr.nil w1).alloc rfl _ _
            have HF2 := Lib.hid (HF1.out.later hf2.below)
            clear hb hf2 hn hfa
            go_wp2_with fail
            rw [← hV]
            clear hV
            refine (numeral16_any t _ (by omega)).mono ?_
            rw [hnb]
            rintro e w3 ⟨rfl, hw⟩
            obtain rfl : V = w3 := hw
            go_wp2_with fail
            refine ((refParse_any t _ hlt0).mono fun e w h => h.any).mono ?_
            rintro e w4 ⟨n2, o2, l2, c2, fr, rfl, _, hb⟩
            have HF4 := Lib.hid (HF2.out.later hb)
            have hf5 : Fr w4 (w4.alloc (.cells #[.bool n2, .slice o2 l2 c2] 33)) [(33, #[.bool n2, .slice o2 l2 c2])] := (Fr.nil w4).alloc rfl _ _
            have HF5 := Lib.hid (HF4.out.later hf5.below)
            clear hb hf5
            clear hnt hnb h48 h49
            have g0 : (w4.alloc (.cells #[.bool n2, .slice o2 l2 c2] 33)).cell? ⟨W.heap.size, 0, none⟩ = some (.bool false) := HF5.out.cell 0 0 rfl rfl
            have g1 : (w4.alloc (.cells #[.bool n2, .slice o2 l2 c2] 33)).cell? ⟨W.heap.size, 1, none⟩ = some (.slice none 0 0) := HF5.out.cell 0 1 rfl rfl
            have g2 : (w4.alloc (.cells #[.bool n2, .slice o2 l2 c2] 33)).cell? ⟨W.heap.size, 2, none⟩ = some (.bool false) := HF5.out.cell 0 2 rfl rfl
            have g3 : (w4.alloc (.cells #[.bool n2, .slice o2 l2 c2] 33)).cell? ⟨W.heap.size, 3, none⟩ = some (.slice none 0 0) := HF5.out.cell 0 3 rfl rfl
            have gf0 : (w4.alloc (.cells #[.bool n2, .slice o2 l2 c2] 33)).frozen? ⟨W.heap.size, 0, none⟩ = false := HF5.out.frozen 0 0 rfl
            have gf1 : (w4.alloc (.cells #[.bool n2, .slice o2 l2 c2] 33)).frozen? ⟨W.heap.size, 1, none⟩ = false := HF5.out.frozen 0 1 rfl
            have gf2 : (w4.alloc (.cells #[.bool n2, .slice o2 l2 c2] 33)).frozen? ⟨W.heap.size, 2, none⟩ = false := HF5.out.frozen 0 2 rfl
            have gf3 : (w4.alloc (.cells #[.bool n2, .slice o2 l2 c2] 33)).frozen? ⟨W.heap.size, 3, none⟩ = false := HF5.out.frozen 0 3 rfl
            go_wp2
            obtain ⟨e0, e1, e2, e3, k1, k2, hbel⟩ := HF5.out.finK (c1 := 0) (c2 := 0) 0 rfl (Z16.nil _) (Z16.nil _)
            exact bodyPost_ret (v := .tuple #[.agg #[.bool false, .slice none 0 0, .bool false, .slice none 0 0], .int .i64 3]) (by simp only [Nat.add_zero] at e0 e1 e2 e3; simp [results, Tryz.results9, go_sem, e0, e1, e2, e3]) rfl ⟨false, none, 0, 0, false, none, 0, 0, 3, 0, 1, rfl, hbel, .inr (.inl ⟨HN.out, HX.out, rfl, rfl, rfl⟩), fun h => absurd h (by decide)⟩
        · have HN : Hid (textOk a (some t) = false) := by
            show (isNum a && (isPos t && decide (t ≠ [49]))) = false
            rw [hn, Bool.true_and, Bool.and_eq_false_iff]
            cases hp : isPos t with
            | false => exact .inl rfl
            | true => exact .inr (by simpa using fun h => hok ⟨hp, h⟩)
          go_wp2_with fail
          refine ((refParse_any a _ hla0).mono fun e w h => h.num hn).mono ?_
          rintro e w1 ⟨n1, o1, l1, c1, er, rfl, her, hb⟩
          have HF1 := Lib.hid (HF.out.later (w' := w1) (by first | exact hb | exact below_of_drew hb))
          have hf2 : Fr w1 (w1.alloc (.cells #[.bool n1, .slice o1 l1 c1] 33)) [(33, #[.bool n1, .slice o1 l1 c1])] := (Fr.nil w1).alloc rfl _ _
          have HF2 := Lib.hid (HF1.out.later hf2.below)
          clear hb hf2
          clear hn
          have g0 : (w1.alloc (.cells #[.bool n1, .slice o1 l1 c1] 33)).cell? ⟨W.heap.size, 0, none⟩ = some (.bool false) := HF2.out.cell 0 0 rfl rfl
          have g1 : (w1.alloc (.cells #[.bool n1, .slice o1 l1 c1] 33)).cell? ⟨W.heap.size, 1, none⟩ = some (.slice none 0 0) := HF2.out.cell 0 1 rfl rfl
          have g2 : (w1.alloc (.cells #[.bool n1, .slice o1 l1 c1] 33)).cell? ⟨W.heap.size, 2, none⟩ = some (.bool false) := HF2.out.cell 0 2 rfl rfl
          have g3 : (w1.alloc (.cells #[.bool n1, .slice o1 l1 c1] 33)).cell? ⟨W.heap.size, 3, none⟩ = some (.slice none 0 0) := HF2.out.cell 0 3 rfl rfl
          have gf0 : (w1.alloc (.cells #[.bool n1, .slice o1 l1 c1] 33)).frozen? ⟨W.heap.size, 0, none⟩ = false := HF2.out.frozen 0 0 rfl
          have gf1 : (w1.alloc (.cells #[.bool n1, .slice o1 l1 c1] 33)).frozen? ⟨W.heap.size, 1, none⟩ = false := HF2.out.frozen 0 1 rfl
          have gf2 : (w1.alloc (.cells #[.bool n1, .slice o1 l1 c1] 33)).frozen? ⟨W.heap.size, 2, none⟩ = false := HF2.out.frozen 0 2 rfl
          have gf3 : (w1.alloc (.cells #[.bool n1, .slice o1 l1 c1] 33)).frozen? ⟨W.heap.size, 3, none⟩ = false := HF2.out.frozen 0 3 rfl
          go_wp2_with fail
          refine (numeral16_any t _ (by omega)).mono ?_
          cases hnb : numB t with
          | false =>
            rintro e w3 ⟨rfl, rfl⟩
            clear hnb hok
            go_wp2
            obtain ⟨e0, e1, e2, e3, k1, k2, hbel⟩ := HF2.out.finK (c1 := 0) (c2 := 0) 0 rfl (Z16.nil _) (Z16.nil _)
            exact bodyPost_ret (v := .tuple #[.agg #[.bool false, .slice none 0 0, .bool false, .slice none 0 0], .int .i64 4]) (by simp only [Nat.add_zero] at e0 e1 e2 e3; simp [results, Tryz.results9, go_sem, e0, e1, e2, e3]) rfl ⟨false, none, 0, 0, false, none, 0, 0, 4, 0, 1, rfl, hbel, .inl ⟨HN.out, rfl, rfl, rfl⟩, fun h => absurd h (by decide)⟩
          | true =>
            rintro e w3 ⟨rfl, rfl⟩
            by_cases h48 : t = [48]
            · have t48 : (t == [48]) = true := by simpa using h48
              clear hnb hok h48
              go_wp2
              obtain ⟨e0, e1, e2, e3, k1, k2, hbel⟩ := HF2.out.finK (c1 := 0) (c2 := 0) 0 rfl (Z16.nil _) (Z16.nil _)
              exact bodyPost_ret (v := .tuple #[.agg #[.bool false, .slice none 0 0, .bool false, .slice none 0 0], .int .i64 4]) (by simp only [Nat.add_zero] at e0 e1 e2 e3; simp [results, Tryz.results9, go_sem, e0, e1, e2, e3]) rfl ⟨false, none, 0, 0, false, none, 0, 0, 4, 0, 1, rfl, hbel, .inl ⟨HN.out, rfl, rfl, rfl⟩, fun h => absurd h (by decide)⟩
            · have t48 : (t == [48]) = false := by simpa using h48
              have h49 : t = [49] := by
                rw [numB_eq, decide_eq_false h48, Bool.false_or] at hnb
                exact Classical.byContradiction fun h => hok ⟨hnb, h⟩
              have t49 : (t == [49]) = true := by simpa using h49
              clear hnb hok h48 h49
              go_wp2
              obtain ⟨e0, e1, e2, e3, k1, k2, hbel⟩ := HF2.out.finK (c1 := 0) (c2 := 0) 0 rfl (Z16.nil _) (Z16.nil _)
              exact bodyPost_ret (v := .tuple #[.agg #[.bool false, .slice none 0 0, .bool false, .slice none 0 0], .int .i64 4]) (by simp only [Nat.add_zero] at e0 e1 e2 e3; simp [results, Tryz.results9, go_sem, e0, e1, e2, e3]) rfl ⟨false, none, 0, 0, false, none, 0, 0, 4, 0, 1, rfl, hbel, .inl ⟨HN.out, rfl, rfl, rfl⟩, fun h => absurd h (by decide)⟩
end Go.Proofs.YtcgnmihabkgecaaGreat

/- Facts for the laws about texts of fractions. -/
set_option linter.unusedVariables false
namespace Go.Proofs.YtcgnmihabkgecaaGreat
open Go.RowKit Go.Proofs

theorem ratText_any (xs : List UInt8) : ∃ a b, xs = ratText a b ∧ 47 ∉ a := by
  rcases ratText_cases xs 47 with h | ⟨a, t, h, h2⟩
  · exact ⟨xs, none, rfl, h⟩
  · exact ⟨a, some t, h, h2⟩

theorem parseRat_text (a : List UInt8) (b : Option (List UInt8)) (W : World) (hl : (ratText a b).length ≤ 100000000) (hc : 47 ∉ a) :
    Calls Tryz.prog 8 #[.string ⟨(ratText a b).toArray⟩] W (OutRE W a b) := by
  cases b with
  | none => exact parseRat_none a W hl hc
  | some t => exact parseRat_at a t W hl hc

theorem refParseRat_text (a : List UInt8) (b : Option (List UInt8)) (W : World) (hl : (ratText a b).length ≤ 100000000) (hc : 47 ∉ a) :
    Calls Tryz.prog 9 #[.string ⟨(ratText a b).toArray⟩] W (RatJ W a b) := by
  cases b with
  | none => exact refParseRat_none a W hl hc
  | some t => exact refParseRat_at a t W hl hc

theorem RatSays.bad {a : List UInt8} {b : Option (List UInt8)} {er p : Int} {q : Nat} (h : RatSays a b er p q) (he : er ≠ 0) : p = 0 ∧ q = 1 := by
  rcases h with ⟨_, _, h3, h4⟩ | ⟨_, _, _, h3, h4⟩ | ⟨_, _, _, _, h3, h4⟩ | ⟨_, _, _, h3, _, _⟩
  · exact ⟨h3, h4⟩
  · exact ⟨h3, h4⟩
  · exact ⟨h3, h4⟩
  · exact absurd h3 he

theorem RatSays.fits {a : List UInt8} {b : Option (List UInt8)} {p : Int} {q : Nat} (h : RatSays a b 0 p q) : FitsQ p q := by
  rcases h with ⟨_, h2, _⟩ | ⟨_, _, h2, _⟩ | ⟨_, _, _, h2, _⟩ | ⟨h1, h2, _, _, rfl, rfl⟩
  · exact absurd h2 (by decide)
  · exact absurd h2 (by decide)
  · exact absurd h2 (by decide)
  · cases b with
    | none => exact ⟨h2, Nat.le_trans (blen_le (k := 1) |>.2 (by decide)) (by decide)⟩
    | some t =>
      refine ⟨h2.1, ?_⟩
      have h3 : (isNum a && (isPos t && decide (t ≠ [49]))) = true := h1
      rw [Bool.and_eq_true, Bool.and_eq_true] at h3
      have h4 := h2.2
      rw [(isPos_num h3.2.1).1] at h4
      exact (fits_cast _).1 h4
end Go.Proofs.YtcgnmihabkgecaaGreat

/- Facts for NumField: equal fractions; a fraction's text is read again as the fraction. -/
set_option linter.unusedVariables false
namespace Go.Proofs.YtcgnmihabkgecaaGreat
open Go.RowKit Go.Proofs

/-- p / q = x / y -/
def Eqf (p q x y : Int) : Prop := p * y = x * q

theorem eqf_low {x y : Int} (hy : 0 < y) : Eqf (lowP x y) (lowQ x y) x y := by
  obtain ⟨g, hg, h1, h2⟩ := low_back (x := x) hy
  unfold Eqf
  generalize lowP x y = a at *
  generalize (lowQ x y : Int) = b at *
  rw [← h1, ← h2]; grind

theorem lowP_neg (x y : Int) (hy : y ≠ 0) : lowP (-x) (-y) = lowP x y := by
  unfold lowP
  rw [Int.natAbs_neg, Int.natAbs_neg]
  by_cases hx : x = 0
  · subst hx
    rw [Int.natAbs_zero, Nat.zero_div]
    generalize (decide ((-0 : Int) < 0) != decide (-y < 0)) = b
    generalize (decide ((0 : Int) < 0) != decide (y < 0)) = c
    cases b <;> cases c <;> rfl
  · congr 1
    by_cases h1 : x < 0 <;> by_cases h2 : y < 0
    · rw [decide_eq_false (show ¬ -x < 0 by omega), decide_eq_false (show ¬ -y < 0 by omega), decide_eq_true h1, decide_eq_true h2]; rfl
    · rw [decide_eq_false (show ¬ -x < 0 by omega), decide_eq_true (show -y < 0 by omega), decide_eq_true h1, decide_eq_false h2]; rfl
    · rw [decide_eq_true (show -x < 0 by omega), decide_eq_false (show ¬ -y < 0 by omega), decide_eq_false h1, decide_eq_true h2]; rfl
    · rw [decide_eq_true (show -x < 0 by omega), decide_eq_true (show -y < 0 by omega), decide_eq_false h1, decide_eq_false h2]; rfl
theorem lowQ_neg (x y : Int) : lowQ (-x) (-y) = lowQ x y := by unfold lowQ; rw [Int.natAbs_neg, Int.natAbs_neg]

theorem eqf_low' {x y : Int} (hy : y ≠ 0) : Eqf (lowP x y) (lowQ x y) x y := by
  rcases Int.lt_trichotomy y 0 with h | h | h
  · have := eqf_low (x := -x) (y := -y) (by omega)
    unfold Eqf at this ⊢
    rw [lowP_neg x y hy, lowQ_neg] at this
    generalize lowP x y = a at *
    generalize (lowQ x y : Int) = b at *
    grind
  · exact absurd h hy
  · exact eqf_low h

theorem eqf_trans {p q x y u v : Int} (hy : y ≠ 0) (h1 : Eqf p q x y) (h2 : Eqf x y u v) : Eqf p q u v := by
  unfold Eqf at *
  have e : (p * v) * y = (u * q) * y := by
    calc (p * v) * y = (p * y) * v := by grind
      _ = (x * v) * q := by rw [h1]; grind
      _ = (u * q) * y := by rw [h2]; grind
  exact Int.eq_of_mul_eq_mul_right hy e
theorem eqf_refl (p q : Int) : Eqf p q p q := rfl
theorem eqf_add {p q x y p' q' x' y' : Int} (h1 : Eqf p q x y) (h2 : Eqf p' q' x' y') : Eqf (p * q' + p' * q) (q * q') (x * y' + x' * y) (y * y') := by
  unfold Eqf at *
  calc (p * q' + p' * q) * (y * y') = (p * y) * (q' * y') + (p' * y') * (q * y) := by grind
    _ = (x * y' + x' * y) * (q * q') := by rw [h1, h2]; grind
theorem eqf_sub {p q x y p' q' x' y' : Int} (h1 : Eqf p q x y) (h2 : Eqf p' q' x' y') : Eqf (p * q' - p' * q) (q * q') (x * y' - x' * y) (y * y') := by
  unfold Eqf at *
  calc (p * q' - p' * q) * (y * y') = (p * y) * (q' * y') - (p' * y') * (q * y) := by grind
    _ = (x * y' - x' * y) * (q * q') := by rw [h1, h2]; grind
theorem eqf_mul {p q x y p' q' x' y' : Int} (h1 : Eqf p q x y) (h2 : Eqf p' q' x' y') : Eqf (p * p') (q * q') (x * x') (y * y') := by
  unfold Eqf at *
  calc (p * p') * (y * y') = (p * y) * (p' * y') := by grind
    _ = (x * x') * (q * q') := by rw [h1, h2]; grind
theorem eqf_quo {p q x y p' q' x' y' : Int} (h1 : Eqf p q x y) (h2 : Eqf p' q' x' y') : Eqf (p * q') (q * p') (x * y') (y * x') := by
  unfold Eqf at *
  calc (p * q') * (y * x') = (p * y) * (x' * q') := by grind
    _ = (x * y') * (q * p') := by rw [h1, ← h2]; grind
/-- fractions that are equal to equal ones -/
theorem eqf_sign {p q x y p' q' x' y' : Int} (hy : y ≠ 0) (hy' : y' ≠ 0) (h1 : Eqf p q x y) (h2 : Eqf p' q' x' y') (h : x * y' = x' * y) : (p * q' - p' * q).sign = 0 := by
  have e : p * q' = p' * q := by
    have h3 : Eqf p q x' y' := eqf_trans hy h1 h
    unfold Eqf at h2 h3
    apply Int.eq_of_mul_eq_mul_right hy'
    calc p * q' * y' = (p * y') * q' := by grind
      _ = (x' * q') * q := by rw [h3]; grind
      _ = p' * q * y' := by rw [← h2]; grind
  rw [e, Int.sub_self]; rfl

theorem Bl.low {k : Nat} {x : Int} (y : Int) (h : Bl k x) : Bl k (lowP x y) := by
  unfold Bl at *
  rw [blen_le] at *
  unfold lowP; rw [sgn_natAbs]
  exact Nat.lt_of_le_of_lt (Nat.div_le_self _ _) h
theorem Bl.lowq {k : Nat} {y : Int} (x : Int) (h : Bl k y) : Bl k (lowQ x y : Int) := by
  unfold Bl at *
  rw [Int.natAbs_natCast]
  rw [blen_le] at *
  exact Nat.lt_of_le_of_lt (Nat.div_le_self _ _) h

theorem fitsQ_of {p : Int} {q k : Nat} (hp : Bl k p) (hq : Bl k (q : Int)) (hk : k ≤ 16384) : FitsQ p q := ⟨hp.fits hk, (fits_cast _).1 (hq.fits hk)⟩

theorem fits_lt {p : Int} (h : Fits p) : p.natAbs < B32 ^ 512 := by
  obtain ⟨k, hk⟩ : ∃ k, k = 512 := ⟨_, rfl⟩
  rw [← hk, B32_pow]
  exact blen_le.1 (Nat.le_trans h (by omega))

theorem says_back {p : Int} {q : Nat} (hq : 0 < q) (hg : Nat.gcd p.natAbs q = 1) (hf : FitsQ p q) : ∃ a b, textQ p q = ratText a b ∧ 47 ∉ a ∧ ∀ er P Q, RatSays a b er P Q → er = 0 ∧ P = p ∧ Q = q := by
  by_cases h1 : q = 1
  · subst h1
    refine ⟨numeralZ p, none, by unfold textQ; rw [if_pos rfl]; rfl, numeralZ_no47 p, fun er P Q h => ?_⟩
    have h0 : RatSays (numeralZ p) none 0 p 1 := .inr (.inr (.inr ⟨isNum_numeralZ p, by show Fits (numZ (numeralZ p)); rw [numZ_numeralZ]; exact hf.1, Nat.gcd_one_right _, rfl, (numZ_numeralZ p).symm, rfl⟩))
    exact h.same h0
  · have hn0 := numeral_pos (n := q) (by omega)
    have hne : numeral q ≠ [49] := fun e => h1 (by rw [← dec_numeral q, e]; rfl)
    refine ⟨numeralZ p, some (numeral q), by unfold textQ; rw [if_neg h1, List.append_assoc]; rfl, numeralZ_no47 p, fun er P Q h => ?_⟩
    have h0 : RatSays (numeralZ p) (some (numeral q)) 0 p q := by
      refine .inr (.inr (.inr ⟨?_, ⟨by rw [numZ_numeralZ]; exact hf.1, by rw [(isPos_num hn0).1, dec_numeral]; exact (fits_cast _).2 hf.2⟩, ?_, rfl, (numZ_numeralZ p).symm, (dec_numeral q).symm⟩))
      · show (isNum (numeralZ p) && (isPos (numeral q) && decide (numeral q ≠ [49]))) = true
        rw [isNum_numeralZ, hn0, decide_eq_true hne]; rfl
      · show Nat.gcd (numZ (numeralZ p)).natAbs (dec (numeral q)) = 1
        rw [numZ_numeralZ, dec_numeral]; exact hg
    exact h.same h0

theorem parseRat_back (p : Int) (q : Nat) (W : World) (hq : 0 < q) (hg : Nat.gcd p.natAbs q = 1) (hf : FitsQ p q) :
    Calls Tryz.prog 8 #[.string ⟨(textQ p q).toArray⟩] W (OutQS W p q) := by
  obtain ⟨a, b, he, hc, hs⟩ := says_back hq hg hf
  have hl : (textQ p q).length ≤ 100000000 := by
    have h1 := numeralZ_len (fits_lt hf.1)
    have h2 := numeral_len (n := q) (k := 512) (by have := fits_lt ((fits_cast q).2 hf.2); rwa [Int.natAbs_natCast] at this)
    unfold textQ
    by_cases h : q = 1
    · rw [if_pos h]; omega
    · rw [if_neg h]; simp only [List.length_append, List.length_singleton]; omega
  rw [he] at hl ⊢
  refine (parseRat_text a b W hl hc).mono fun e w' h => ?_
  obtain ⟨na, ao, la, ca, bo, lb, cb, er, P, Q, rfl, h1, h2, h3, h4, h5⟩ := h
  obtain ⟨rfl, rfl, rfl⟩ := hs _ _ _ h5
  exact ⟨na, ao, la, ca, bo, lb, cb, rfl, h1, h2, h3, h4⟩
end Go.Proofs.YtcgnmihabkgecaaGreat

/- Facts of the texts of decimals. -/
set_option linter.unusedVariables false
namespace Go.Proofs.YtcgnmihabkgecaaGreat
open Go.RowKit Go.Proofs

/-- the text of a decimal without its sign: a, or a . b -/
def dotText (a : List UInt8) : Option (List UInt8) → List UInt8
  | none => a
  | some b => a ++ 46 :: b
def partOf : Option (List UInt8) → List UInt8
  | none => []
  | some b => b
def okPart : Option (List UInt8) → Bool
  | none => true
  | some t => hasDigs t && decide (t.length ≤ 64)
def okDec (a : List UInt8) (b : Option (List UInt8)) : Bool := (decide (a = [48]) || isPos a) && okPart b
def decN (a : List UInt8) (b : Option (List UInt8)) : Nat := dec (a ++ partOf b)
def decD (b : Option (List UInt8)) : Int := ((10 ^ (partOf b).length : Nat) : Int)

def DecSays (neg : Bool) (a : List UInt8) (b : Option (List UInt8)) (er p : Int) (q : Nat) : Prop :=
  ((okDec a b = false ∨ (neg = true ∧ decN a b = 0)) ∧ er = 4 ∧ p = 0 ∧ q = 1) ∨
  (okDec a b = true ∧ ¬ (neg = true ∧ decN a b = 0) ∧ ToldQ (lowP (sgn neg (decN a b)) (decD b)) (lowQ (sgn neg (decN a b)) (decD b)) er p q)

theorem ToldQ.same {p : Int} {q : Nat} {er er' P P' : Int} {Q Q' : Nat} (h : ToldQ p q er P Q) (h' : ToldQ p q er' P' Q') : er = er' ∧ P = P' ∧ Q = Q' := by
  rcases h with ⟨h1, h2, h3, h4⟩ | ⟨h1, h2, h3, h4⟩ <;> rcases h' with ⟨k1, k2, k3, k4⟩ | ⟨k1, k2, k3, k4⟩ <;>
  first
  | exact absurd k1 h1
  | exact absurd h1 k1
  | exact ⟨h2.trans k2.symm, h3.trans k3.symm, h4.trans k4.symm⟩

theorem DecSays.same {neg : Bool} {a : List UInt8} {b : Option (List UInt8)} {er er' p p' : Int} {q q' : Nat} (h : DecSays neg a b er p q) (h' : DecSays neg a b er' p' q') : er = er' ∧ p = p' ∧ q = q' := by
  rcases h with ⟨h1, h2, h3, h4⟩ | ⟨h1, h5, h2⟩ <;> rcases h' with ⟨k1, k2, k3, k4⟩ | ⟨k1, k5, k2⟩
  · exact ⟨h2.trans k2.symm, h3.trans k3.symm, h4.trans k4.symm⟩
  · rcases h1 with h1 | h1
    · exact absurd (h1.symm.trans k1) (by decide)
    · exact absurd h1 k5
  · rcases k1 with k1 | k1
    · exact absurd (k1.symm.trans h1) (by decide)
    · exact absurd k1 h5
  · exact h2.same k2

theorem DecSays.bad {neg : Bool} {a : List UInt8} {b : Option (List UInt8)} {er p : Int} {q : Nat} (h : DecSays neg a b er p q) (he : er ≠ 0) : p = 0 ∧ q = 1 := by
  rcases h with ⟨_, _, h3, h4⟩ | ⟨_, _, ⟨_, h1, _⟩ | ⟨_, _, h3, h4⟩⟩
  · exact ⟨h3, h4⟩
  · exact absurd h1 he
  · exact ⟨h3, h4⟩
theorem DecSays.fits {neg : Bool} {a : List UInt8} {b : Option (List UInt8)} {p : Int} {q : Nat} (h : DecSays neg a b 0 p q) : FitsQ p q := by
  rcases h with ⟨_, h1, _⟩ | ⟨_, _, ⟨h1, _, h3, h4⟩ | ⟨_, h1, _⟩⟩
  · exact absurd h1 (by decide)
  · rw [h3, h4]; exact h1
  · exact absurd h1 (by decide)

theorem decD_pos (b : Option (List UInt8)) : 0 < decD b := by
  unfold decD
  have : 0 < 10 ^ (partOf b).length := Nat.pow_pos (by decide)
  omega
theorem decD_ne (b : Option (List UInt8)) : decD b ≠ 0 := Int.ne_of_gt (decD_pos b)

theorem dec_pos_len {a : List UInt8} (h : isPos a = true) : 10 ^ (a.length - 1) ≤ dec a := by
  obtain ⟨x, s, rfl, h1, h2, h3⟩ := isPos_parts h
  rw [dec_cons]
  have h5 : 1 * 10 ^ s.length ≤ (x.toNat - 48) * 10 ^ s.length := Nat.mul_le_mul_right _ (by omega)
  have h6 : (x :: s).length - 1 = s.length := by simp
  rw [h6]
  omega

/-- a decimal with so long a whole part does not fit -/
theorem long_dec (neg : Bool) {a : List UInt8} {b : Option (List UInt8)} (h : okDec a b = true) (hl : 4933 < a.length) :
    ¬ (neg = true ∧ decN a b = 0) ∧ ¬ FitsQ (lowP (sgn neg (decN a b)) (decD b)) (lowQ (sgn neg (decN a b)) (decD b)) := by
  unfold okDec at h
  rw [Bool.and_eq_true, Bool.or_eq_true] at h
  have hp : isPos a = true := by
    rcases h.1 with h1 | h1
    · have : a = [48] := of_decide_eq_true h1
      subst this
      exact absurd hl (by decide)
    · exact h1
  have h1 := dec_pos_len hp
  obtain ⟨k, hk⟩ : ∃ k, k = (partOf b).length := ⟨_, rfl⟩
  obtain ⟨d, hd⟩ : ∃ d, d = decN a b := ⟨_, rfl⟩
  obtain ⟨m, hm⟩ : ∃ m, m = a.length - 1 := ⟨_, rfl⟩
  have hD : decD b = ((10 ^ k : Nat) : Int) := by unfold decD; rw [hk]
  have hdk : 10 ^ m * 10 ^ k ≤ d := by
    rw [hd]; unfold decN
    rw [dec_append, hk, hm]
    exact Nat.le_trans (Nat.mul_le_mul_right _ h1) (Nat.le_add_right _ _)
  rw [← hd, hD]
  have hk0 : 0 < 10 ^ k := Nat.pow_pos (by decide)
  have hm0 : 0 < 10 ^ m := Nat.pow_pos (by decide)
  have hbig := big_pow 4933 m rfl (by omega)
  generalize 10 ^ k = y at *
  generalize 10 ^ m = x at *
  have hd0 : 0 < d := Nat.lt_of_lt_of_le (Nat.mul_pos hm0 hk0) hdk
  refine ⟨fun h => by omega, fun h => ?_⟩
  have h2 := blen_le.1 h.1
  unfold lowP at h2
  rw [sgn_natAbs, sgn_natAbs, Int.natAbs_natCast] at h2
  have h3 : x ≤ d / Nat.gcd d y := by
    rw [Nat.le_div_iff_mul_le (Nat.gcd_pos_of_pos_right _ hk0)]
    exact Nat.le_trans (Nat.mul_le_mul_left _ (Nat.gcd_le_right _ hk0)) hdk
  exact Nat.lt_irrefl _ (Nat.lt_of_lt_of_le h2 (Nat.le_trans hbig h3))

theorem ok_digits {a : List UInt8} {b : Option (List UInt8)} (h : okDec a b = true) : (a ++ partOf b).all isDig = true ∧ (partOf b).length ≤ 64 := by
  unfold okDec at h
  rw [Bool.and_eq_true, Bool.or_eq_true] at h
  have ha : a.all isDig = true := by
    rcases h.1 with h1 | h1
    · have : a = [48] := of_decide_eq_true h1
      subst this; rfl
    · obtain ⟨x, s, rfl, h1, h2, h3⟩ := isPos_parts h1
      rw [List.all_cons, h3, Bool.and_true]
      simp [isDig]; omega
  rw [List.all_append, ha, Bool.true_and]
  cases b with
  | none => exact ⟨rfl, by simp [partOf]⟩
  | some t =>
    have h2 := h.2
    change (hasDigs t && decide (t.length ≤ 64)) = true at h2
    rw [Bool.and_eq_true] at h2
    have h3 := h2.1
    unfold hasDigs at h3
    rw [Bool.and_eq_true] at h3
    exact ⟨h3.1, of_decide_eq_true h2.2⟩

theorem dotText_any (xs : List UInt8) : ∃ a b, xs = dotText a b ∧ 46 ∉ a := by
  rcases ratText_cases xs 46 with h | ⟨a, t, h, h2⟩
  · exact ⟨xs, none, rfl, h⟩
  · exact ⟨a, some t, h, h2⟩

theorem dotText_len (a : List UInt8) (b : Option (List UInt8)) : a.length ≤ (dotText a b).length ∧ (partOf b).length ≤ (dotText a b).length := by
  cases b with
  | none => simp [dotText, partOf]
  | some t => simp [dotText, partOf]; omega

theorem cut_dot (a : List UInt8) (b : Option (List UInt8)) (w : World) (h : 46 ∉ a) (hl : (dotText a b).length ≤ 1000000000) :
    Calls Tryz.prog 29 #[.string ⟨(dotText a b).toArray⟩, .string ⟨#[46]⟩] w fun e w' => e = .returned (.tuple #[.string ⟨a.toArray⟩, .string ⟨(partOf b).toArray⟩, .bool b.isSome]) ∧ Below w.heap.size w w' := by
  cases b with
  | none => exact (cut_none a 46 w h).mono fun e w' h => ⟨h.1, h.2 ▸ Below.refl _ _⟩
  | some t => exact cut_at a t 46 w h hl

theorem int_pow10 (k : Nat) : sgn false (10 ^ k) = ((10 ^ k : Nat) : Int) := rfl

def OutDE (W : World) (neg : Bool) (a : List UInt8) (b : Option (List UInt8)) (e : Ending) (w' : World) : Prop :=
  ∃ na ao la ca bo lb cb er p q, e = .returned (.tuple #[.agg #[.bool na, .slice ao la ca, .slice bo lb cb], .int .i64 er]) ∧ la ≤ 512 ∧ lb ≤ 512 ∧ Q32 w' na ao la bo lb p q ∧ Below W.heap.size W w' ∧ DecSays neg a b er p q
end Go.Proofs.YtcgnmihabkgecaaGreat
