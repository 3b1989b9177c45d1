/- The specification: Parse, Fits. -/
import Derived.Test.YtdnnjjclklcihaaRefQ
set_option linter.unusedVariables false
namespace Go.Proofs.Ytdnnjjclklcihaa
open Go.RowKit Go.Proofs

theorem numB_eq (ys : List UInt8) : numB ys = (decide (ys = [48]) || isPos ys) := by
  by_cases h : ys = [48]
  · subst h; rfl
  · rw [decide_eq_false h, Bool.false_or]
    unfold numB isPos
    cases hd : hasDigs ys with
    | false => rfl
    | true =>
      rw [Bool.true_and, Bool.true_and]
      cases ys with
      | nil => rfl
      | cons x t =>
        by_cases hx : x = 48
        · subst hx
          have : t ≠ [] := fun e => h (by rw [e])
          have h2 : t.length ≠ 0 := fun e => this (List.eq_nil_of_length_eq_zero e)
          simp [this]
        · simp [hx]

/-- what the specification's Parse answers -/
def ParseJ (xs : List UInt8) (W : World) (e : Ending) (w' : World) : Prop :=
  ∃ neg ao len cap er, e = .returned (.tuple #[.agg #[.bool neg, .slice ao len cap], .int .i64 er]) ∧ Below W.heap.size W w' ∧
    ((isNum xs = false ∧ er = 4) ∨ (isNum xs = true ∧ ¬ Fits (numZ xs) ∧ er = 3) ∨
      (isNum xs = true ∧ Fits (numZ xs) ∧ er = 0 ∧ len ≤ cap ∧ cap ≤ 9223372036854775807 ∧ Z16 w' neg ao len (numZ xs)))

theorem Z16.nil (w : World) : Z16 w false none 0 0 := ⟨0, N16.nil _ _, rfl, by simp⟩

/-- behind the sign: the digits ys are parsed -/
theorem parse_tail {xs ys : List UInt8} {s : Bool} (hz : numZ xs = sgn s (dec ys)) (hb : bare xs = ys) (hnum : isNum xs = numB ys) {er : Int} {w' : World} {ao : Option Addr} {len : Nat}
    (h : (numB ys = false ∧ er = 4) ∨ (numB ys = true ∧ (5000 < ys.length ∨ 16384 < blen (dec ys)) ∧ er = 3) ∨
      (numB ys = true ∧ ys.length ≤ 5000 ∧ blen (dec ys) ≤ 16384 ∧ er = 0 ∧ N16 w' ao len (dec ys))) :
    (isNum xs = false ∧ er = 4) ∨ (isNum xs = true ∧ ¬ Fits (numZ xs) ∧ er = 3) ∨ (isNum xs = true ∧ Fits (numZ xs) ∧ er = 0 ∧ N16 w' ao len (dec ys)) := by
  have hf : Fits (numZ xs) ↔ blen (dec ys) ≤ 16384 := by unfold Fits; rw [hz, sgn_natAbs]
  rcases h with ⟨h1, h2⟩ | ⟨h1, h2, h3⟩ | ⟨h1, h2, h3, h4, h5⟩
  · exact .inl ⟨by rw [hnum, h1], h2⟩
  · refine .inr (.inl ⟨by rw [hnum, h1], ?_, h3⟩)
    rcases h2 with h2 | h2
    · exact isNum_long (by rw [hnum, h1]) (by rw [hb]; omega)
    · rw [hf]; omega
  · exact .inr (.inr ⟨by rw [hnum, h1], hf.2 h3, h4, h5⟩)

set_option maxHeartbeats 2000000 in
theorem refParse_plain (xs : List UInt8) (W : World) (hl : xs.length ≤ 1000000000) (hp : Lib.hasPrefix xs [45] = false) :
    Calls Try.prog 25 #[.string ⟨xs.toArray⟩] W (ParseJ xs W) := by
  have hf : Fr W (W.alloc (.cells #[.bool false, .slice none 0 0] 28)) [(28, #[.bool false, .slice none 0 0])] := (Fr.nil W).alloc rfl _ _
  have HF := Lib.hid hf
  have hb : bare xs = xs := by unfold bare Lib.trimPrefix; rw [hp]; rfl
  have HB := Lib.hid hb
  have HZ : Hid (numZ xs = sgn false (dec xs)) := by show _ = _; unfold numZ; rw [hp, hb]
  have HNUM : Hid (isNum xs = numB xs) := by show _ = _; rw [numB_eq]; unfold isNum; unfold bare at hb; rw [hb]
  clear hf hb
  cases xs with
  | nil =>
    clear hp
    go_enter Try.func25, Try.ntmps25
    go_wp2_with fail
    refine (parse16_any [] _ (by simp at *; try omega)).mono ?_
    rintro e w1 ⟨ao, len, cap, er, rfl, hlc, hcm, hb1, hc⟩
    have HF1 := Lib.hid (HF.out.later hb1)
    have g0 : w1.cell? ⟨W.heap.size, 0, none⟩ = some (.bool false) := HF1.out.cell 0 0 rfl rfl
    have g1 : w1.cell? ⟨W.heap.size, 1, none⟩ = some (.slice none 0 0) := HF1.out.cell 0 1 rfl rfl
    have g2 : w1.frozen? ⟨W.heap.size, 0, none⟩ = false := HF1.out.frozen 0 0 rfl
    have g3 : w1.frozen? ⟨W.heap.size, 1, none⟩ = false := HF1.out.frozen 0 1 rfl
    rcases parse_tail HZ.out HB.out HNUM.out hc with ⟨h1, rfl⟩ | ⟨h1, h2, rfl⟩ | ⟨h1, h2, rfl, h3⟩
    · have HX := Lib.hid h1
      clear hb1 hc h1
      go_wp2
      obtain ⟨e0, e1, hz, hbel, _⟩ := HF1.out.finJ (cap := 0) 0 rfl (Z16.nil _)
      exact bodyPost_ret (v := .tuple #[.agg #[.bool false, .slice none 0 0], .int .i64 4]) (by simp only [Nat.add_zero] at e0 e1; simp [results, Try.results25, go_sem, e0, e1]) rfl ⟨false, none, 0, 0, 4, rfl, hbel, .inl ⟨HX.out, rfl⟩⟩
    · have HX := Lib.hid h1
      have HX2 := Lib.hid h2
      clear hb1 hc h1 h2
      go_wp2
      obtain ⟨e0, e1, hz, hbel, _⟩ := HF1.out.finJ (cap := 0) 0 rfl (Z16.nil _)
      exact bodyPost_ret (v := .tuple #[.agg #[.bool false, .slice none 0 0], .int .i64 3]) (by simp only [Nat.add_zero] at e0 e1; simp [results, Try.results25, go_sem, e0, e1]) rfl ⟨false, none, 0, 0, 3, rfl, hbel, .inr (.inl ⟨HX.out, HX2.out, rfl⟩)⟩
    · have HX := Lib.hid h1
      have HX2 := Lib.hid h2
      have HN := Lib.hid h3
      clear hb1 hc h1 h2 h3 g0 g1 g2 g3
      go_wp2_with fail
      refine (made_any false _ _ _ (dec []) _ HN.out hlc hcm).mono ?_
      rintro e w2 ⟨neg, uo, ul, uc, rfl, huc, hum, hz2, hb2⟩
      have HF2 := Lib.hid (HF1.out.later hb2)
      rw [← HZ.out] at hz2
      have HZ2 := Lib.hid hz2
      clear hz2 hb2
      have g0 : w2.cell? ⟨W.heap.size, 0, none⟩ = some (.bool false) := HF2.out.cell 0 0 rfl rfl
      have g1 : w2.cell? ⟨W.heap.size, 1, none⟩ = some (.slice none 0 0) := HF2.out.cell 0 1 rfl rfl
      have g2 : w2.frozen? ⟨W.heap.size, 0, none⟩ = false := HF2.out.frozen 0 0 rfl
      have g3 : w2.frozen? ⟨W.heap.size, 1, none⟩ = false := HF2.out.frozen 0 1 rfl
      go_wp2
      obtain ⟨e0, e1, hz, hbel, _⟩ := HF2.out.finJ (cap := uc) 0 rfl HZ2.out
      exact bodyPost_ret (v := .tuple #[.agg #[.bool neg, .slice uo ul uc], .int .i64 0]) (by simp only [Nat.add_zero] at e0 e1; simp [results, Try.results25, go_sem, e0, e1]) rfl ⟨neg, uo, ul, uc, 0, rfl, hbel, .inr (.inr ⟨HX.out, HX2.out, rfl, huc, hum, hz⟩)⟩
  | cons x t =>
    have hx : x ≠ 45 := fun e => by subst e; simp [Lib.hasPrefix] at hp
    obtain ⟨xs, hxs⟩ : ∃ xs, xs = x :: t := ⟨_, rfl⟩
    rw [← hxs] at hl HB HZ HNUM ⊢
    have h00 : 0 < xs.length := by rw [hxs]; simp
    have hx0 : xs[0]'h00 = x := by subst hxs; rfl
    have hs0 : 0 < (⟨xs.toArray⟩ : ByteArray).size := by rw [str_size]; exact h00
    have hc0 : ((⟨xs.toArray⟩ : ByteArray)[0]'hs0).toNat = x.toNat := congrArg UInt8.toNat hx0
    have hxn : x.toNat ≠ 45 := fun e => hx (UInt8.toNat_inj.1 e)
    have t0 : (0 : Int) < (xs.length : Int) := by omega
    have t2 : ¬ ((((⟨xs.toArray⟩ : ByteArray)[0]'hs0).toNat : Nat) : Int) = 45 := by rw [hc0]; omega
    have t3 : (((((⟨xs.toArray⟩ : ByteArray)[0]'hs0).toNat : Nat) : Int) == 45) = false := by rw [hc0]; simp; omega
    clear hp hx hxs hx0 hc0 hxn
    go_enter Try.func25, Try.ntmps25
    go_wp2_with fail
    refine (parse16_any xs _ (by simp at *; try omega)).mono ?_
    rintro e w1 ⟨ao, len, cap, er, rfl, hlc, hcm, hb1, hc⟩
    have HF1 := Lib.hid (HF.out.later hb1)
    have g0 : w1.cell? ⟨W.heap.size, 0, none⟩ = some (.bool false) := HF1.out.cell 0 0 rfl rfl
    have g1 : w1.cell? ⟨W.heap.size, 1, none⟩ = some (.slice none 0 0) := HF1.out.cell 0 1 rfl rfl
    have g2 : w1.frozen? ⟨W.heap.size, 0, none⟩ = false := HF1.out.frozen 0 0 rfl
    have g3 : w1.frozen? ⟨W.heap.size, 1, none⟩ = false := HF1.out.frozen 0 1 rfl
    rcases parse_tail HZ.out HB.out HNUM.out hc with ⟨h1, rfl⟩ | ⟨h1, h2, rfl⟩ | ⟨h1, h2, rfl, h3⟩
    · have HX := Lib.hid h1
      clear hb1 hc h1
      go_wp2
      obtain ⟨e0, e1, hz, hbel, _⟩ := HF1.out.finJ (cap := 0) 0 rfl (Z16.nil _)
      exact bodyPost_ret (v := .tuple #[.agg #[.bool false, .slice none 0 0], .int .i64 4]) (by simp only [Nat.add_zero] at e0 e1; simp [results, Try.results25, go_sem, e0, e1]) rfl ⟨false, none, 0, 0, 4, rfl, hbel, .inl ⟨HX.out, rfl⟩⟩
    · have HX := Lib.hid h1
      have HX2 := Lib.hid h2
      clear hb1 hc h1 h2
      go_wp2
      obtain ⟨e0, e1, hz, hbel, _⟩ := HF1.out.finJ (cap := 0) 0 rfl (Z16.nil _)
      exact bodyPost_ret (v := .tuple #[.agg #[.bool false, .slice none 0 0], .int .i64 3]) (by simp only [Nat.add_zero] at e0 e1; simp [results, Try.results25, go_sem, e0, e1]) rfl ⟨false, none, 0, 0, 3, rfl, hbel, .inr (.inl ⟨HX.out, HX2.out, rfl⟩)⟩
    · have HX := Lib.hid h1
      have HX2 := Lib.hid h2
      have HN := Lib.hid h3
      clear hb1 hc h1 h2 h3 g0 g1 g2 g3
      go_wp2_with fail
      refine (made_any false _ _ _ (dec xs) _ HN.out hlc hcm).mono ?_
      rintro e w2 ⟨neg, uo, ul, uc, rfl, huc, hum, hz2, hb2⟩
      have HF2 := Lib.hid (HF1.out.later hb2)
      rw [← HZ.out] at hz2
      have HZ2 := Lib.hid hz2
      clear hz2 hb2
      have g0 : w2.cell? ⟨W.heap.size, 0, none⟩ = some (.bool false) := HF2.out.cell 0 0 rfl rfl
      have g1 : w2.cell? ⟨W.heap.size, 1, none⟩ = some (.slice none 0 0) := HF2.out.cell 0 1 rfl rfl
      have g2 : w2.frozen? ⟨W.heap.size, 0, none⟩ = false := HF2.out.frozen 0 0 rfl
      have g3 : w2.frozen? ⟨W.heap.size, 1, none⟩ = false := HF2.out.frozen 0 1 rfl
      go_wp2
      obtain ⟨e0, e1, hz, hbel, _⟩ := HF2.out.finJ (cap := uc) 0 rfl HZ2.out
      exact bodyPost_ret (v := .tuple #[.agg #[.bool neg, .slice uo ul uc], .int .i64 0]) (by simp only [Nat.add_zero] at e0 e1; simp [results, Try.results25, go_sem, e0, e1]) rfl ⟨neg, uo, ul, uc, 0, rfl, hbel, .inr (.inr ⟨HX.out, HX2.out, rfl, huc, hum, hz⟩)⟩

set_option maxHeartbeats 2000000 in
theorem refParse_minus (t : List UInt8) (W : World) (hl : t.length ≤ 100000000) :
    Calls Try.prog 25 #[.string ⟨(45 :: t).toArray⟩] W (ParseJ (45 :: t) W) := by
  have hf : Fr W (W.alloc (.cells #[.bool false, .slice none 0 0] 28)) [(28, #[.bool false, .slice none 0 0])] := (Fr.nil W).alloc rfl _ _
  have HF := Lib.hid hf
  have hb : bare (45 :: t) = t := by unfold bare Lib.trimPrefix; simp [Lib.hasPrefix]
  have HB := Lib.hid hb
  have HZ : Hid (numZ (45 :: t) = sgn true (dec t)) := by show _ = _; unfold numZ; rw [hb]; simp [Lib.hasPrefix]
  have hn2 : isNum (45 :: t) = isPos t := by unfold isNum; unfold bare at hb; rw [hb]; simp
  obtain ⟨xs, hxs⟩ : ∃ xs, xs = 45 :: t := ⟨_, rfl⟩
  rw [← hxs] at HB HZ hn2 ⊢
  have h00 : 0 < xs.length := by rw [hxs]; simp
  have hx0 : xs[0]'h00 = 45 := by subst hxs; rfl
  have hs0 : 0 < (⟨xs.toArray⟩ : ByteArray).size := by rw [str_size]; exact h00
  have hc0 : ((⟨xs.toArray⟩ : ByteArray)[0]'hs0).toNat = 45 := congrArg UInt8.toNat hx0
  have t0 : (0 : Int) < (xs.length : Int) := by omega
  have t2 : ((((⟨xs.toArray⟩ : ByteArray)[0]'hs0).toNat : Nat) : Int) = 45 := by rw [hc0]; rfl
  have t3 : (((((⟨xs.toArray⟩ : ByteArray)[0]'hs0).toNat : Nat) : Int) == 45) = true := by rw [hc0]; rfl
  have t4 : (⟨xs.toArray⟩ : ByteArray).extract 1 xs.length = ⟨t.toArray⟩ := by rw [str_drop, hxs]; rfl
  have hxl : xs.length ≤ 1000000000 := by rw [hxs]; simp; omega
  have t5 : (1 : Int) ≤ (xs.length : Int) := by omega
  clear hf hb hxs hx0 hc0
  by_cases ht : t = [48]
  · have HX : Hid (isNum xs = false) := by show _ = _; rw [hn2, ht]; rfl
    clear hn2
    go_enter Try.func25, Try.ntmps25
    go_wp2
    exact bodyPost_ret (v := .tuple #[.agg #[.bool false, .slice none 0 0], .int .i64 4]) (by simp [results, Try.results25, go_sem]) rfl ⟨false, none, 0, 0, 4, rfl, HF.out.below, .inl ⟨HX.out, rfl⟩⟩
  · have HNUM : Hid (isNum xs = numB t) := by show _ = _; rw [hn2, numB_eq, decide_eq_false ht, Bool.false_or]
    have ht2 : (t == [48]) = false := by simpa using ht
    clear hn2
    go_enter Try.func25, Try.ntmps25
    go_wp2_with fail
    refine (parse16_any t _ (by simp at *; try omega)).mono ?_
    rintro e w1 ⟨ao, len, cap, er, rfl, hlc, hcm, hb1, hc⟩
    have HF1 := Lib.hid (HF.out.later hb1)
    have g0 : w1.cell? ⟨W.heap.size, 0, none⟩ = some (.bool false) := HF1.out.cell 0 0 rfl rfl
    have g1 : w1.cell? ⟨W.heap.size, 1, none⟩ = some (.slice none 0 0) := HF1.out.cell 0 1 rfl rfl
    have g2 : w1.frozen? ⟨W.heap.size, 0, none⟩ = false := HF1.out.frozen 0 0 rfl
    have g3 : w1.frozen? ⟨W.heap.size, 1, none⟩ = false := HF1.out.frozen 0 1 rfl
    rcases parse_tail HZ.out HB.out HNUM.out hc with ⟨h1, rfl⟩ | ⟨h1, h2, rfl⟩ | ⟨h1, h2, rfl, h3⟩
    · have HX := Lib.hid h1
      clear hb1 hc h1
      go_wp2
      obtain ⟨e0, e1, hz, hbel, _⟩ := HF1.out.finJ (cap := 0) 0 rfl (Z16.nil _)
      exact bodyPost_ret (v := .tuple #[.agg #[.bool false, .slice none 0 0], .int .i64 4]) (by simp only [Nat.add_zero] at e0 e1; simp [results, Try.results25, go_sem, e0, e1]) rfl ⟨false, none, 0, 0, 4, rfl, hbel, .inl ⟨HX.out, rfl⟩⟩
    · have HX := Lib.hid h1
      have HX2 := Lib.hid h2
      clear hb1 hc h1 h2
      go_wp2
      obtain ⟨e0, e1, hz, hbel, _⟩ := HF1.out.finJ (cap := 0) 0 rfl (Z16.nil _)
      exact bodyPost_ret (v := .tuple #[.agg #[.bool false, .slice none 0 0], .int .i64 3]) (by simp only [Nat.add_zero] at e0 e1; simp [results, Try.results25, go_sem, e0, e1]) rfl ⟨false, none, 0, 0, 3, rfl, hbel, .inr (.inl ⟨HX.out, HX2.out, rfl⟩)⟩
    · have HX := Lib.hid h1
      have HX2 := Lib.hid h2
      have HN := Lib.hid h3
      clear hb1 hc h1 h2 h3 g0 g1 g2 g3
      go_wp2_with fail
      refine (made_any true _ _ _ (dec t) _ HN.out hlc hcm).mono ?_
      rintro e w2 ⟨neg, uo, ul, uc, rfl, huc, hum, hz2, hb2⟩
      have HF2 := Lib.hid (HF1.out.later hb2)
      rw [← HZ.out] at hz2
      have HZ2 := Lib.hid hz2
      clear hz2 hb2
      have g0 : w2.cell? ⟨W.heap.size, 0, none⟩ = some (.bool false) := HF2.out.cell 0 0 rfl rfl
      have g1 : w2.cell? ⟨W.heap.size, 1, none⟩ = some (.slice none 0 0) := HF2.out.cell 0 1 rfl rfl
      have g2 : w2.frozen? ⟨W.heap.size, 0, none⟩ = false := HF2.out.frozen 0 0 rfl
      have g3 : w2.frozen? ⟨W.heap.size, 1, none⟩ = false := HF2.out.frozen 0 1 rfl
      go_wp2
      obtain ⟨e0, e1, hz, hbel, _⟩ := HF2.out.finJ (cap := uc) 0 rfl HZ2.out
      exact bodyPost_ret (v := .tuple #[.agg #[.bool neg, .slice uo ul uc], .int .i64 0]) (by simp only [Nat.add_zero] at e0 e1; simp [results, Try.results25, go_sem, e0, e1]) rfl ⟨neg, uo, ul, uc, 0, rfl, hbel, .inr (.inr ⟨HX.out, HX2.out, rfl, huc, hum, hz⟩)⟩

theorem refParse_any (xs : List UInt8) (W : World) (hl : xs.length ≤ 100000000) : Calls Try.prog 25 #[.string ⟨xs.toArray⟩] W (ParseJ xs W) := by
  cases hp : Lib.hasPrefix xs [45] with
  | false => exact refParse_plain xs W (by omega) hp
  | true =>
    cases xs with
    | nil => simp [Lib.hasPrefix] at hp
    | cons x t =>
      have hx : x = 45 := by
        simp [Lib.hasPrefix] at hp
        exact hp.symm
      subst hx
      exact refParse_minus t W (by simp at hl; omega)

set_option maxHeartbeats 400000 in
theorem fits16_any (neg : Bool) (ao : Option Addr) (len cap : Nat) (z : Int) (W : World) (h : Z16 W neg ao len z) (hl : len ≤ 1000000000) :
    Calls Try.prog 74 #[.agg #[.bool neg, .slice ao len cap]] W (fun e w' => ((Fits z ∧ e = .returned (.bool true)) ∨ (¬ Fits z ∧ e = .returned (.bool false))) ∧ Below W.heap.size W w') := by
  have hf : Fr W (W.alloc (.cells #[.bool neg, .slice ao len cap] 28)) [(28, #[.bool neg, .slice ao len cap])] := (Fr.nil W).alloc rfl _ _
  have HF := Lib.hid hf
  have HZ := Lib.hid (h.keep hf.below)
  clear h hf
  go_enter Try.func74, Try.ntmps74
  go_wp2_with fail
  refine (bitLen16_any _ _ _ _ z _ HZ.out hl).mono ?_
  rintro e w1 ⟨rfl, hb1⟩
  have HF1 := Lib.hid (HF.out.later hb1)
  obtain ⟨k, hk⟩ : ∃ k, k = blen z.natAbs := ⟨_, rfl⟩
  rw [← hk]
  by_cases hfit : k ≤ 16384
  · have t1 : (k : Int) ≤ 16384 := by omega
    have t2 : decide ((k : Int) ≤ 16384) = true := by simpa using t1
    have HX : Hid (Fits z) := by unfold Fits; rw [← hk]; exact hfit
    clear hk hb1
    go_wp2
    go_ret
    exact ⟨.inl ⟨HX.out, ret_bool (by first | rfl | (simp; done) | (simp; omega))⟩, HF1.out.below⟩
  · have t1 : ¬ (k : Int) ≤ 16384 := by omega
    have HX : Hid (¬ Fits z) := by unfold Fits; rw [← hk]; exact hfit
    clear hk hb1
    go_wp2
    go_ret
    exact ⟨.inr ⟨HX.out, ret_bool (by first | rfl | (simp; done) | (simp; omega))⟩, HF1.out.below⟩
end Go.Proofs.Ytdnnjjclklcihaa
