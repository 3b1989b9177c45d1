/- Part 7 of the contracts: Parse, RefP, RefQ, RefS, Law2, Cut. -/
import Derived.Test.YtcgnmihabkgecaaGreatPart6

/- readNumeral, Parse. -/
set_option linter.unusedVariables false
namespace Go.Proofs.YtcgnmihabkgecaaGreat
open Go.RowKit Go.Proofs

def bare (xs : List UInt8) : List UInt8 := Lib.trimPrefix xs [45]
/-- the integer of a numeral -/
def numZ (xs : List UInt8) : Int := sgn (Lib.hasPrefix xs [45]) (dec (bare xs))

theorem dec_cons (x : UInt8) (t : List UInt8) : dec (x :: t) = (x.toNat - 48) * 10 ^ t.length + dec t := by
  show (t.foldl (fun a c => 10 * a + (c.toNat - 48)) (10 * 0 + (x.toNat - 48))) = _
  rw [foldl_dec]; simp

theorem isNum_digits {xs : List UInt8} (h : isNum xs = true) : (bare xs).all isDig = true := by
  unfold isNum at h
  rw [Bool.or_eq_true] at h
  rcases h with h | h
  · have : xs = [48] := by simpa using h
    subst this; rfl
  · unfold isPos at h
    rw [Bool.and_eq_true] at h
    have h1 := h.1
    unfold hasDigs at h1
    rw [Bool.and_eq_true] at h1
    exact h1.1

theorem big_pow (n k : Nat) (hn : n = 4933) (h : n ≤ k) : 2 ^ 16384 ≤ 10 ^ k := by
  have h1 : 10 ^ n ≤ 10 ^ k := Nat.pow_le_pow_right (by decide) h
  have h2 : 2 ^ 16384 ≤ 10 ^ n := by subst hn; decide +kernel
  exact Nat.le_trans h2 h1

theorem isNum_long {xs : List UInt8} (h : isNum xs = true) (hl : 4933 < (bare xs).length) : ¬ Fits (numZ xs) := by
  unfold isNum at h
  rw [Bool.or_eq_true] at h
  rcases h with h | h
  · have : xs = [48] := by simpa using h
    subst this
    exact absurd hl (by decide)
  · unfold isPos at h
    rw [Bool.and_eq_true] at h
    have h1 := h.1
    unfold hasDigs at h1
    rw [Bool.and_eq_true] at h1
    have h2 := h.2
    unfold Fits numZ
    rw [sgn_natAbs]
    change (bare xs).all isDig = true ∧ _ at h1
    change decide ((bare xs).head? ≠ some 48) = true at h2
    cases hb : bare xs with
    | nil => rw [hb] at hl; simp at hl
    | cons x t =>
      rw [hb] at h1 h2 hl
      have h3 := h1.1
      rw [List.all_cons, Bool.and_eq_true] at h3
      have h4 : 48 ≤ x.toNat ∧ x.toNat ≤ 57 := by simpa [isDig] using h3.1
      have h5 : x ≠ 48 := by simpa using h2
      have h6 : x.toNat ≠ 48 := fun e => h5 (UInt8.toNat_inj.1 e)
      have h10 : 4933 ≤ t.length := by rw [List.length_cons] at hl; omega
      intro hbl
      have hlt := blen_le.1 hbl
      rw [dec_cons] at hlt
      have h7 : 1 * 10 ^ t.length ≤ (x.toNat - 48) * 10 ^ t.length := Nat.mul_le_mul_right _ (by omega)
      have h8 := big_pow 4933 t.length rfl h10
      have : (2 ^ 16384 : Nat) < 2 ^ 16384 := Nat.lt_of_le_of_lt (Nat.le_trans h8 (by omega)) hlt
      exact Nat.lt_irrefl _ this

theorem dec_len {xs : List UInt8} (h : xs.all isDig = true) : dec xs < B32 ^ xs.length := Nat.lt_of_lt_of_le (dec_lt h) (Nat.pow_le_pow_left (by decide) _)

theorem cut_any (xs : List UInt8) (W : World) :
    Calls Tryz.prog 43 #[.string ⟨xs.toArray⟩, .string ⟨#[45]⟩] W fun e w' => e = .returned (.tuple #[.string ⟨(bare xs).toArray⟩, .bool (Lib.hasPrefix xs [45])]) ∧ w' = W := Tryz.strings_CutPrefix _ _ _

set_option maxHeartbeats 1000000 in
theorem readNumeral_any (xs : List UInt8) (W : World) (hl : xs.length ≤ 100000000) (hn : isNum xs = true) :
    Calls Tryz.prog 32 #[.string ⟨xs.toArray⟩] W (OutF W (numZ xs)) := by
  have hf : Fr W (W.alloc (.cells #[.bool false, .slice none 0 0] 25)) [(25, #[.bool false, .slice none 0 0])] := (Fr.nil W).alloc rfl _ _
  have HF := Lib.hid hf
  have HDG := Lib.hid (isNum_digits hn)
  have HLG := Lib.hid (fun h => isNum_long hn h)
  have hble : (bare xs).length ≤ xs.length := Lib.trimPrefix_le xs [45]
  obtain ⟨ys, hys⟩ : ∃ ys, ys = bare xs := ⟨_, rfl⟩
  obtain ⟨s, hs⟩ : ∃ s, s = Lib.hasPrefix xs [45] := ⟨_, rfl⟩
  have hz : numZ xs = sgn s (dec ys) := by unfold numZ; rw [hs, hys]
  rw [← hys] at HDG HLG hble
  rw [hz] at HLG ⊢
  have HS := Lib.hid hs
  have HYS := Lib.hid hys
  clear hf hn hz hs hys
  go_enter Tryz.func32, Tryz.ntmps32
  go_wp2_with fail
  refine (cut_any xs _).mono ?_
  rintro e w1 ⟨rfl, rfl⟩
  rw [← HYS.out, ← HS.out]
  by_cases hlong : 4933 < ys.length
  · have t1 : (4933 : Int) < (ys.length : Int) := by omega
    have HX := Lib.hid (HLG.out hlong)
    clear hlong
    go_wp2
    exact bodyPost_ret (v := .tuple #[.agg #[.bool false, .slice none 0 0], .int .i64 3]) (by simp [results, Tryz.results32, go_sem]) rfl (.inr ⟨HX.out, rfl, HF.out.below⟩)
  · have t1 : ¬ (4933 : Int) < (ys.length : Int) := by omega
    go_wp2_with fail
    refine (readDigits_any ys _ (by omega) HDG.out).mono ?_
    rintro e w1 ⟨ro, rl, rc, rfl, hr, hb1⟩
    have HF1 := Lib.hid (HF.out.later hb1)
    have HR := Lib.hid hr
    have hrl : rl ≤ 1000000000 := Nat.le_trans (hr.len_le (dec_len HDG.out)) (by omega)
    clear hr hb1
    go_wp2_with fail
    refine (signed_any s _ _ _ (dec ys) _ HR.out).mono ?_
    rintro e w2 ⟨s2, so, sl, sc, rfl, hz2, hb2⟩
    have HF2 := Lib.hid (HF1.out.later hb2)
    have HZ2 := Lib.hid hz2
    have hsl : sl ≤ 1000000000 := by
      have h1 := hz2.n32
      rw [sgn_natAbs] at h1
      exact Nat.le_trans (h1.len_le (dec_len HDG.out)) (by omega)
    clear hz2 hb2
    go_wp2_with fail
    refine ((fitting_any _ _ _ _ (sgn s (dec ys)) _ HZ2.out hsl).mono fun e w h => h.one).mono ?_
    rintro e w3 ⟨neg, fo, fl, fc, er, z', rfl, hz, hb3, hx⟩
    have HF3 := Lib.hid (HF2.out.later hb3)
    have HZ := Lib.hid hz
    have HX := Lib.hid hx
    clear hb3 hz hx
    have g0 : w3.cell? ⟨W.heap.size, 0, none⟩ = some (.bool false) := HF3.out.cell 0 0 rfl rfl
    have g1 : w3.cell? ⟨W.heap.size, 1, none⟩ = some (.slice none 0 0) := HF3.out.cell 0 1 rfl rfl
    have g2 : w3.frozen? ⟨W.heap.size, 0, none⟩ = false := HF3.out.frozen 0 0 rfl
    have g3 : w3.frozen? ⟨W.heap.size, 1, none⟩ = false := HF3.out.frozen 0 1 rfl
    go_wp2
    obtain ⟨e0, e1, hz, hbel, _⟩ := HF3.out.finI (cap := fc) 0 rfl HZ.out
    exact bodyPost_ret (v := .tuple #[.agg #[.bool neg, .slice fo fl fc], .int .i64 er]) (by simp only [Nat.add_zero] at e0 e1; simp [results, Tryz.results32, go_sem, e0, e1]) rfl (OutF1.two ⟨neg, fo, fl, fc, er, z', rfl, hz, hbel, HX.out⟩)

/-- what Parse answers: the integer, or 0 and the error of a text that is no numeral -/
def ParsePost (xs : List UInt8) (W : World) (e : Ending) (w' : World) : Prop :=
  (isNum xs = true ∧ OutF W (numZ xs) e w') ∨ (isNum xs = false ∧ e = .returned (.tuple #[.agg #[.bool false, .slice none 0 0], .int .i64 4]) ∧ Below W.heap.size W w')

set_option maxHeartbeats 1000000 in
theorem parse_any (xs : List UInt8) (W : World) (hl : xs.length ≤ 100000000) :
    Calls Tryz.prog 123 #[.string ⟨xs.toArray⟩] W (ParsePost xs W) := by
  have hf : Fr W (W.alloc (.cells #[.bool false, .slice none 0 0] 25)) [(25, #[.bool false, .slice none 0 0])] := (Fr.nil W).alloc rfl _ _
  have HF := Lib.hid hf
  clear hf
  go_enter Tryz.func123, Tryz.ntmps123
  go_wp2_with fail
  refine (isNumeral_any xs _ (by omega)).mono ?_
  rintro e w1 ⟨rfl, rfl⟩
  cases hn : isNum xs with
  | false =>
    have HX := Lib.hid hn
    clear hn
    go_wp2
    exact bodyPost_ret (v := .tuple #[.agg #[.bool false, .slice none 0 0], .int .i64 4]) (by simp [results, Tryz.results123, go_sem]) rfl (.inr ⟨HX.out, rfl, HF.out.below⟩)
  | true =>
    have HX := Lib.hid hn
    clear hn
    go_wp2_with fail
    refine ((readNumeral_any xs _ hl HX.out).mono fun e w h => h.one).mono ?_
    rintro e w3 ⟨neg, fo, fl, fc, er, z', rfl, hz, hb3, hx⟩
    have HF3 := Lib.hid (HF.out.later hb3)
    have HZ := Lib.hid hz
    have HY := Lib.hid hx
    clear hb3 hz hx
    have g0 : w3.cell? ⟨W.heap.size, 0, none⟩ = some (.bool false) := HF3.out.cell 0 0 rfl rfl
    have g1 : w3.cell? ⟨W.heap.size, 1, none⟩ = some (.slice none 0 0) := HF3.out.cell 0 1 rfl rfl
    have g2 : w3.frozen? ⟨W.heap.size, 0, none⟩ = false := HF3.out.frozen 0 0 rfl
    have g3 : w3.frozen? ⟨W.heap.size, 1, none⟩ = false := HF3.out.frozen 0 1 rfl
    go_wp2
    obtain ⟨e0, e1, hz, hbel, _⟩ := HF3.out.finI (cap := fc) 0 rfl HZ.out
    exact bodyPost_ret (v := .tuple #[.agg #[.bool neg, .slice fo fl fc], .int .i64 er]) (by simp only [Nat.add_zero] at e0 e1; simp [results, Tryz.results123, go_sem, e0, e1]) rfl (.inl ⟨HX.out, OutF1.two ⟨neg, fo, fl, fc, er, z', rfl, hz, hbel, HY.out⟩⟩)
end Go.Proofs.YtcgnmihabkgecaaGreat

/- The specification: numeral, parse. -/
set_option linter.unusedVariables false
namespace Go.Proofs.YtcgnmihabkgecaaGreat
open Go.RowKit Go.Proofs

def numB (xs : List UInt8) : Bool := hasDigs xs && (decide (xs.length = 1) || decide (xs.head? ≠ some 48))

set_option maxHeartbeats 800000 in
theorem numeral16_any (xs : List UInt8) (w : World) (hl : xs.length ≤ 1000000000) :
    Calls Tryz.prog 37 #[.string ⟨xs.toArray⟩] w fun e w' => e = .returned (.bool (numB xs)) ∧ w = w' := by
  by_cases hz : xs.length = 0
  · have : xs = [] := List.eq_nil_of_length_eq_zero hz
    subst this
    go_enter Tryz.func37, Tryz.ntmps37
    go_wp2
    go_ret
    exact ⟨rfl, rfl⟩
  · obtain ⟨x, t, rfl⟩ : ∃ x t, xs = x :: t := by
      cases xs with
      | nil => simp at hz
      | cons x t => exact ⟨x, t, rfl⟩
    clear hz
    obtain ⟨xs, hxs⟩ : ∃ xs, xs = x :: t := ⟨_, rfl⟩
    rw [← hxs] at hl ⊢
    have hlen : xs.length = t.length + 1 := by rw [hxs]; rfl
    have h00 : 0 < xs.length := by omega
    have hx0 : xs[0]'h00 = x := by subst hxs; rfl
    have hhead : xs.head? = some x := by rw [hxs]; rfl
    have hs0 : 0 < (⟨xs.toArray⟩ : ByteArray).size := by rw [str_size]; exact h00
    have hc0 : ((⟨xs.toArray⟩ : ByteArray)[0]'hs0).toNat = x.toNat := congrArg UInt8.toNat hx0
    have HH := Lib.hid hhead
    clear hxs hhead hx0 hlen
    by_cases hbad : 1 < xs.length ∧ x.toNat = 48
    · have HE : Hid (numB xs = false) := by
        show _ = _
        unfold numB
        rw [HH.out, Bool.and_eq_false_iff]
        right
        have : x = 48 := UInt8.toNat_inj.1 hbad.2
        simp [this]
        omega
      have t1 : (1 : Int) < (xs.length : Int) := by omega
      have t0 : ¬ ((xs.length : Int) = 0) := by omega
      have t0b : ((xs.length : Int) == 0) = false := by simpa using t0
      have t0c : ¬ xs = [] := fun e => by rw [e] at h00; simp at h00
      have t2 : ((((⟨xs.toArray⟩ : ByteArray)[0]'hs0).toNat : Nat) : Int) = 48 := by rw [hc0]; omega
      have t3 : (((((⟨xs.toArray⟩ : ByteArray)[0]'hs0).toNat : Nat) : Int) == 48) = true := by rw [hc0, hbad.2]; rfl
      clear hbad hc0
      rw [HE.out]
      go_enter Tryz.func37, Tryz.ntmps37
      go_wp2
      go_ret
      exact ⟨rfl, rfl⟩
    · have HFA : Hid (hasDigs xs = false → numB xs = false) := fun h => by unfold numB; rw [h]; rfl
      have HTR : Hid (xs.all isDig = true → numB xs = true) := fun h => by
        unfold numB hasDigs
        rw [h, HH.out]
        have hne : xs ≠ [] := fun e => by rw [e] at h00; simp at h00
        by_cases h1 : xs.length = 1
        · simp [h1, hne]
        · have : x ≠ 48 := fun e => hbad ⟨by omega, by rw [e]; rfl⟩
          simp [hne, this]
      have t0 : ¬ ((xs.length : Int) = 0) := by omega
      have t0b : ((xs.length : Int) == 0) = false := by simpa using t0
      have t0c : ¬ xs = [] := fun e => by rw [e] at h00; simp at h00
      have hcase : xs.length = 1 ∨ (1 < xs.length ∧ x.toNat ≠ 48) := by omega
      clear hbad
      rcases hcase with h1 | ⟨h1, h2⟩
      · have t1 : ¬ (1 : Int) < (xs.length : Int) := by omega
        clear hc0
        go_enter Tryz.func37, Tryz.ntmps37
        go_wp2
        go_loop [3] (fun t => ∃ i : Nat, i ≤ xs.length ∧ t = .int .i64 i ∧ (xs.take i).all isDig = true) (fun t => xs.length - (intOf t).toNat)
        case atStart => exact ⟨0, by omega, rfl, by simp⟩
        case round =>
          obtain ⟨i, hi, rfl, hall⟩ := hrel
          have HA := Lib.hid hall
          clear hall
          by_cases hil : i < xs.length
          · have t1 : (i : Int) < (xs.length : Int) := by omega
            have hs : i < (⟨xs.toArray⟩ : ByteArray).size := by rw [str_size]; exact hil
            obtain ⟨c, hc⟩ : ∃ c : Nat, c = xs[i].toNat := ⟨_, rfl⟩
            have hc2 : ((⟨xs.toArray⟩ : ByteArray)[i]'hs).toNat = c := hc.symm
            have HC := Lib.hid hc
            clear hc
            by_cases h1 : c < 48
            · have t2 : ¬ (48 : Int) ≤ ((((⟨xs.toArray⟩ : ByteArray)[i]'hs).toNat : Nat) : Int) := by rw [hc2]; omega
              have HX : Hid (numB xs = false) := HFA.out (hasDigs_false hil (by unfold isDig; rw [← HC.out]; simp; omega))
              clear hc2
              go_wp2
              go_ret
              exact ⟨ret_bool HX.out.symm, rfl⟩
            · have t2 : (48 : Int) ≤ ((((⟨xs.toArray⟩ : ByteArray)[i]'hs).toNat : Nat) : Int) := by rw [hc2]; omega
              by_cases h2 : c ≤ 57
              · have t3 : ((((⟨xs.toArray⟩ : ByteArray)[i]'hs).toNat : Nat) : Int) ≤ 57 := by rw [hc2]; omega
                have HX : Hid (isDig xs[i] = true) := by show _ = _; unfold isDig; rw [← HC.out]; simp; omega
                clear hc2
                go_wp2
                go_round
                case rel => exact ⟨i + 1, by omega, by go_num, by first | exact all_take_succ hil HA.out HX.out | exact List.all_eq_true.1 (all_take_succ hil HA.out HX.out)⟩
                case measure => simp [intOf]; omega
              · have t3 : ¬ ((((⟨xs.toArray⟩ : ByteArray)[i]'hs).toNat : Nat) : Int) ≤ 57 := by rw [hc2]; omega
                have HX : Hid (numB xs = false) := HFA.out (hasDigs_false hil (by unfold isDig; rw [← HC.out]; simp; omega))
                clear hc2
                go_wp2
                go_ret
                exact ⟨ret_bool HX.out.symm, rfl⟩
          · have t1 : ¬ (i : Int) < (xs.length : Int) := by omega
            have HX : Hid (numB xs = true) := by
              show _ = _
              have := HA.out
              rw [List.take_of_length_le (by omega)] at this
              exact HTR.out this
            go_wp2
            go_ret
            exact ⟨ret_bool HX.out.symm, rfl⟩
      · have t1 : (1 : Int) < (xs.length : Int) := by omega
        have t2 : ¬ ((((⟨xs.toArray⟩ : ByteArray)[0]'hs0).toNat : Nat) : Int) = 48 := by rw [hc0]; omega
        clear hc0 h2
        go_enter Tryz.func37, Tryz.ntmps37
        go_wp2
        go_loop [3] (fun t => ∃ i : Nat, i ≤ xs.length ∧ t = .int .i64 i ∧ (xs.take i).all isDig = true) (fun t => xs.length - (intOf t).toNat)
        case atStart => exact ⟨0, by omega, rfl, by simp⟩
        case round =>
          obtain ⟨i, hi, rfl, hall⟩ := hrel
          have HA := Lib.hid hall
          clear hall
          by_cases hil : i < xs.length
          · have t1 : (i : Int) < (xs.length : Int) := by omega
            have hs : i < (⟨xs.toArray⟩ : ByteArray).size := by rw [str_size]; exact hil
            obtain ⟨c, hc⟩ : ∃ c : Nat, c = xs[i].toNat := ⟨_, rfl⟩
            have hc2 : ((⟨xs.toArray⟩ : ByteArray)[i]'hs).toNat = c := hc.symm
            have HC := Lib.hid hc
            clear hc
            by_cases h1 : c < 48
            · have t2 : ¬ (48 : Int) ≤ ((((⟨xs.toArray⟩ : ByteArray)[i]'hs).toNat : Nat) : Int) := by rw [hc2]; omega
              have HX : Hid (numB xs = false) := HFA.out (hasDigs_false hil (by unfold isDig; rw [← HC.out]; simp; omega))
              clear hc2
              go_wp2
              go_ret
              exact ⟨ret_bool HX.out.symm, rfl⟩
            · have t2 : (48 : Int) ≤ ((((⟨xs.toArray⟩ : ByteArray)[i]'hs).toNat : Nat) : Int) := by rw [hc2]; omega
              by_cases h2 : c ≤ 57
              · have t3 : ((((⟨xs.toArray⟩ : ByteArray)[i]'hs).toNat : Nat) : Int) ≤ 57 := by rw [hc2]; omega
                have HX : Hid (isDig xs[i] = true) := by show _ = _; unfold isDig; rw [← HC.out]; simp; omega
                clear hc2
                go_wp2
                go_round
                case rel => exact ⟨i + 1, by omega, by go_num, by first | exact all_take_succ hil HA.out HX.out | exact List.all_eq_true.1 (all_take_succ hil HA.out HX.out)⟩
                case measure => simp [intOf]; omega
              · have t3 : ¬ ((((⟨xs.toArray⟩ : ByteArray)[i]'hs).toNat : Nat) : Int) ≤ 57 := by rw [hc2]; omega
                have HX : Hid (numB xs = false) := HFA.out (hasDigs_false hil (by unfold isDig; rw [← HC.out]; simp; omega))
                clear hc2
                go_wp2
                go_ret
                exact ⟨ret_bool HX.out.symm, rfl⟩
          · have t1 : ¬ (i : Int) < (xs.length : Int) := by omega
            have HX : Hid (numB xs = true) := by
              show _ = _
              have := HA.out
              rw [List.take_of_length_le (by omega)] at this
              exact HTR.out this
            go_wp2
            go_ret
            exact ⟨ret_bool HX.out.symm, rfl⟩
end Go.Proofs.YtcgnmihabkgecaaGreat

/- The specification: parse. -/
set_option linter.unusedVariables false
namespace Go.Proofs.YtcgnmihabkgecaaGreat
open Go.RowKit Go.Proofs

def ParRel (xs : List UInt8) (W : World) (av iv : Value) (wr : World) : Prop :=
  ∃ (ao : Option Addr) (n cap i : Nat), av = .slice ao n cap ∧ iv = .int .i64 (i : Int) ∧ i ≤ xs.length ∧ n ≤ cap ∧ cap ≤ 9223372036854775807 ∧ N16 wr ao n (dec (xs.take i)) ∧ Below W.heap.size W wr

def ParIn (la d : Nat) (xa : List Nat) (W : World) (cv ov kv : Value) (wr : World) : Prop :=
  ∃ (c k : Nat) (zs : List Nat), cv = .int .i64 (c : Int) ∧ kv = .int .i64 (k : Int) ∧ Own .i64 wr W.heap.size 3 ov k zs ∧ Dig B16 zs ∧ c ≤ 10 ∧ k ≤ la + 1 ∧
    val B16 zs + c * B16 ^ k = d + 10 * val B16 (xa.take k) ∧ (la < k → c = 0 ∧ B16 ^ (k - 1) ≤ val B16 zs) ∧ Below W.heap.size W wr

theorem par_in {la d k c x : Nat} {xa zs : List Nat} {W wr w2 : World} {v' : Value} (hlz : zs.length = k) (hd : Dig B16 zs) (hc : c ≤ 10) (hk : k ≤ la) (hla : xa.length = la) (hx : x = xa[k]?.getD 0) (hxb : x < B16) (hgo : k < la ∨ 0 < c)
    (hv : val B16 zs + c * B16 ^ k = d + 10 * val B16 (xa.take k)) (hb : Below W.heap.size W wr) (ho : Own .i64 w2 W.heap.size 3 v' (k + 1) (zs ++ [(c + 10 * x) % B16])) (hb2 : Below W.heap.size wr w2)
    (C K : Int) (hC : C = (((c + 10 * x) / B16 : Nat) : Int)) (hK : K = (k : Int) + 1) : ParIn la d xa W (.int .i64 C) v' (.int .i64 K) w2 := by
  rw [B16_eq] at hxb
  have e := Nat.mod_add_div (c + 10 * x) B16
  refine ⟨(c + 10 * x) / B16, k + 1, zs ++ [(c + 10 * x) % B16], by rw [hC], by rw [hK]; rfl, ho, hd.append (Dig.cons (Nat.mod_lt _ B16_pos) (Dig.nil _)), by rw [B16_eq]; omega, by omega, ?_, ?_, hb.trans hb2⟩
  · rw [val_snoc, hlz, val_take_succ, ← hx, Nat.pow_succ]
    generalize (c + 10 * x) % B16 = r at *
    generalize (c + 10 * x) / B16 = q at *
    generalize B16 ^ k = p at *
    grind
  · intro h1
    have hx0 : x = 0 := by rw [hx, List.getElem?_eq_none (by omega)]; rfl
    subst hx0
    have hc0 : 0 < c := by omega
    refine ⟨by rw [B16_eq]; omega, ?_⟩
    rw [val_snoc, hlz]
    have : (c + 10 * 0) % B16 = c := by rw [B16_eq]; omega
    rw [this, Nat.add_sub_cancel]
    have : B16 ^ k * 1 ≤ B16 ^ k * c := Nat.mul_le_mul_left _ hc0
    omega

theorem par_top {la d k m : Nat} {xa zs : List Nat} (hlz : zs.length = k) (hd : Dig B16 zs) (hta : Top xa) (hla : xa.length = la) (hm : val B16 xa = m) (hk : la ≤ k) (hv : val B16 zs = d + 10 * m) (ht : la < k → B16 ^ (k - 1) ≤ val B16 zs) : Top zs := by
  refine top_of_ge B16_pos hd (fun hne => ?_)
  rw [hlz]
  by_cases h : la < k
  · exact ht h
  · have hk2 : k = la := by omega
    have hne2 : xa ≠ [] := fun e => by
      rw [e] at hla
      simp at hla
      exact hne (List.eq_nil_of_length_eq_zero (by omega))
    have := val_ge (B := B16) hta hne2
    rw [hla, hm] at this
    rw [hv, hk2]
    omega

/-- what parse answers -/
def Parse16Post (xs : List UInt8) (W : World) (e : Ending) (w' : World) : Prop :=
  ∃ ao len cap er, e = .returned (.tuple #[.slice ao len cap, .int .i64 er]) ∧ len ≤ cap ∧ cap ≤ 9223372036854775807 ∧ Below W.heap.size W w' ∧
    ((numB xs = false ∧ er = 4) ∨ (numB xs = true ∧ (5000 < xs.length ∨ 16384 < blen (dec xs)) ∧ er = 3) ∨
      (numB xs = true ∧ xs.length ≤ 5000 ∧ blen (dec xs) ≤ 16384 ∧ er = 0 ∧ N16 w' ao len (dec xs)))

theorem numB_digits {xs : List UInt8} (h : numB xs = true) : xs.all isDig = true := by
  unfold numB hasDigs at h
  simp only [Bool.and_eq_true] at h
  exact h.1.1

set_option maxHeartbeats 2000000 in
theorem parse16_any (xs : List UInt8) (W : World) (hl : xs.length ≤ 1000000000) :
    Calls Tryz.prog 82 #[.string ⟨xs.toArray⟩] W (Parse16Post xs W) := by
  cases hn : numB xs with
  | false =>
    have HX := Lib.hid hn
    go_enter Tryz.func82, Tryz.ntmps82
    go_wp2_with fail
    refine (numeral16_any xs _ hl).mono ?_
    rw [hn]
    rintro e w1 ⟨rfl, rfl⟩
    clear hn
    go_wp2
    go_ret2
    exact ⟨none, 0, 0, 4, rfl, by omega, by omega, Below.refl _ _, .inl ⟨HX.out, rfl⟩⟩
  | true =>
    have HX := Lib.hid hn
    have HDG := Lib.hid (numB_digits hn)
    by_cases hlong : 5000 < xs.length
    · have t1 : (5000 : Int) < (xs.length : Int) := by omega
      have HLG := Lib.hid hlong
      clear hlong
      go_enter Tryz.func82, Tryz.ntmps82
      go_wp2_with fail
      refine (numeral16_any xs _ hl).mono ?_
      rw [hn]
      rintro e w1 ⟨rfl, rfl⟩
      clear hn
      go_wp2
      go_ret2
      exact ⟨none, 0, 0, 3, rfl, by omega, by omega, Below.refl _ _, .inr (.inl ⟨HX.out, .inl HLG.out, rfl⟩)⟩
    · have t1 : ¬ (5000 : Int) < (xs.length : Int) := by omega
      have hl5 : xs.length ≤ 5000 := by omega
      clear hlong
      go_enter Tryz.func82, Tryz.ntmps82
      go_wp2_with fail
      refine (numeral16_any xs _ hl).mono ?_
      rw [hn]
      rintro e w1 ⟨rfl, rfl⟩
      clear hn
      go_wp2
      go_loopw [4, 5] (fun av iv wr => ParRel xs W av iv wr) (fun _ iv _ => xs.length - (intOf iv).toNat)
      case atStart => exact ⟨none, 0, 0, 0, rfl, rfl, by omega, by omega, by omega, N16.nil _ _, Below.refl _ _⟩
      case round =>
        obtain ⟨ao, la, ca, i, rfl, rfl, hi, hlc, hcm, hna, hbel⟩ := hrel
        obtain ⟨W1, rfl⟩ : ∃ w, w = wr := ⟨wr, rfl⟩
        have hall : (xs.take i).all isDig = true := by
          have h := HDG.out
          rw [← List.take_append_drop i xs, List.all_append, Bool.and_eq_true] at h
          exact h.1
        have hla5 : la ≤ 5000 := by
          have h1 := dec_lt hall
          rw [List.length_take, Nat.min_eq_left hi] at h1
          exact Nat.le_trans (hna.len_le (Nat.lt_of_lt_of_le h1 (Nat.pow_le_pow_left (by decide) _))) (by omega)
        obtain ⟨xa, hxa, hda, hta, hva⟩ := hna
        have HA := Lib.hid hxa
        have HDA := Lib.hid hda
        have HTA := Lib.hid hta
        have HVA := Lib.hid hva
        have HB := Lib.hid hbel
        clear hxa hda hta hva hbel hall
        by_cases hil : i = xs.length
        · have t2 : ¬ (i : Int) < (xs.length : Int) := by omega
          have hE : N16 W1 ao la (dec xs) := ⟨xa, HA.out, HDA.out, HTA.out, by rw [HVA.out, hil, List.take_length]⟩
          have HN := Lib.hid hE
          clear hE hil
          go_wp2_with fail
          refine (bitLen16_raw _ _ _ _ _ HN.out (by omega)).mono ?_
          rintro e w2 ⟨rfl, rfl⟩
          obtain ⟨k, hk⟩ : ∃ k, k = blen (dec xs) := ⟨_, rfl⟩
          rw [← hk]
          have HK := Lib.hid hk
          clear hk
          by_cases hfit : k ≤ 16384
          · have t3 : ¬ (16384 : Int) < (k : Int) := by omega
            go_wp2
            go_ret2
            exact ⟨ao, la, ca, 0, rfl, hlc, hcm, HB.out, .inr (.inr ⟨HX.out, hl5, by rw [← HK.out]; exact hfit, rfl, HN.out⟩)⟩
          · have t3 : (16384 : Int) < (k : Int) := by omega
            go_wp2
            go_ret2
            exact ⟨none, 0, 0, 3, rfl, by omega, by omega, HB.out, .inr (.inl ⟨HX.out, .inr (by rw [← HK.out]; omega), rfl⟩)⟩
        · have hiy : i < xs.length := by omega
          have t2 : (i : Int) < (xs.length : Int) := by omega
          have hss : i < (⟨xs.toArray⟩ : ByteArray).size := by rw [str_size]; exact hiy
          have hdg : isDig xs[i] = true := List.all_eq_true.1 HDG.out _ (List.getElem_mem hiy)
          have hdg2 : 48 ≤ xs[i].toNat ∧ xs[i].toNat ≤ 57 := by simpa [isDig] using hdg
          obtain ⟨c0, hc⟩ : ∃ c : Nat, c = xs[i].toNat := ⟨_, rfl⟩
          have hc2 : ((⟨xs.toArray⟩ : ByteArray)[i]'hss).toNat = c0 := hc.symm
          rw [← hc] at hdg2
          obtain ⟨m, hm⟩ : ∃ m, m = dec (xs.take i) := ⟨_, rfl⟩
          have HN : Hid (dec (xs.take (i + 1)) = 10 * m + (c0 - 48)) := by show _ = _; rw [dec_take_succ hiy, ← hm, ← hc]
          have HM : Hid (val B16 xa = m) := by show _ = _; rw [HVA.out, hm]
          have t4 : (48 : Int) ≤ ((((⟨xs.toArray⟩ : ByteArray)[i]'hss).toNat : Nat) : Int) := by rw [hc2]; omega
          have t5 : ((((⟨xs.toArray⟩ : ByteArray)[i]'hss).toNat : Nat) : Int) ≤ 57 := by rw [hc2]; omega
          have HC2 := Lib.hid hc2
          clear hm hdg hc hc2 hil
          obtain ⟨d, hd⟩ : ∃ d, d = c0 - 48 := ⟨_, rfl⟩
          have hd9 : d ≤ 9 := by omega
          have hcd : c0 = d + 48 := by omega
          subst hcd
          clear hd hdg2
          rw [Nat.add_sub_cancel] at HN
          go_wp2_with fail
          go_loopw [6, 7, 8] (fun cv ov kv w2 => ParIn la d xa W1 cv ov kv w2) (fun _ _ kv _ => la + 2 - (intOf kv).toNat)
          case atStart => exact ⟨d, 0, [], by rw [HC2.out]; exact congrArg (Value.int _) (by omega), rfl, Own.nil _ _ _ _, Dig.nil _, by omega, by omega, by simp [val], fun h => by omega, Below.refl _ _⟩
          case round =>
            obtain ⟨c, k, zs, rfl, rfl, hown, hdz, hc10, hk, hv, htop, hbel⟩ := hrel
            have GO := Lib.hid hown
            have GD := Lib.hid hdz
            have GV := Lib.hid hv
            have GT := Lib.hid htop
            have GW := Lib.hid hbel
            clear hown hdz hv htop hbel
            by_cases hgo : k < la ∨ 0 < c
            · have hkl : k ≤ la := by
                rcases Nat.lt_or_ge la k with h | h
                · have := (GT.out h).1
                  omega
                · exact h
              have hx := HDA.out.get B16_pos k
              obtain ⟨x, hxe⟩ : ∃ x, x = xa[k]?.getD 0 := ⟨_, rfl⟩
              rw [← hxe] at hx
              have HXB := Lib.hid hx
              rw [B16_eq] at hx
              have HXE := Lib.hid hxe
              have HAr := Lib.hid (HA.out.keep GW.out)
              clear hxe
              have hrest : k < la ∨ (¬ k < la ∧ 0 < c) := by omega
              rcases hrest with h1 | ⟨h1, h3⟩
              · have t6 : (k : Int) < (la : Int) := by omega
                go_wp2_with fail
                refine (at_any _ _ _ xa _ k _ HAr.out rfl).mono ?_
                rw [← HXE.out]
                rintro e w1 ⟨rfl, rfl⟩
                go_wp2_with (at_builtin; refine wpList_app rfl _ _ 31 rfl W1.heap.size 3 .i64 8 Tryz.underlying31 (by kernel_rfl) _ k zs rfl GO.out _ ((c + 10 * x) % B16) rfl (by rw [B16_eq]; omega) (by omega) (by omega) GW.out.size ?_; intro v' w2 hown' hbel')
                go_roundw
                case rel => exact par_in GO.out.len GD.out hc10 hkl HA.out.len HXE.out HXB.out hgo GV.out GW.out hown' hbel' _ _ (by rw [B16_eq]; omega) rfl
                case measure => simp only [intOf]; omega
              · have t6 : ¬ (k : Int) < (la : Int) := by omega
                have t7 : (0 : Int) < (c : Int) := by omega
                go_wp2_with fail
                refine (at_any _ _ _ xa _ k _ HAr.out rfl).mono ?_
                rw [← HXE.out]
                rintro e w1 ⟨rfl, rfl⟩
                go_wp2_with (at_builtin; refine wpList_app rfl _ _ 31 rfl W1.heap.size 3 .i64 8 Tryz.underlying31 (by kernel_rfl) _ k zs rfl GO.out _ ((c + 10 * x) % B16) rfl (by rw [B16_eq]; omega) (by omega) (by omega) GW.out.size ?_; intro v' w2 hown' hbel')
                go_roundw
                case rel => exact par_in GO.out.len GD.out hc10 hkl HA.out.len HXE.out HXB.out hgo GV.out GW.out hown' hbel' _ _ (by rw [B16_eq]; omega) rfl
                case measure => simp only [intOf]; omega
            · have t6 : ¬ (k : Int) < (la : Int) := by omega
              obtain rfl : c = 0 := by omega
              obtain ⟨oo, cap, rfl, hlc2, hcm2, hsl⟩ := GO.out.sl
              have HS := Lib.hid hsl
              have hval : val B16 zs = d + 10 * m := by
                have h := GV.out
                rw [List.take_of_length_le (l := xa) (by rw [HA.out.len]; omega), HM.out] at h
                omega
              have HVZ := Lib.hid hval
              have hla2 : la ≤ k := by omega
              clear hsl hval hgo
              go_wp2
              go_roundw
              case rel => exact ⟨oo, k, cap, i + 1, rfl, by go_num, by omega, hlc2, hcm2, ⟨zs, HS.out, GD.out, par_top GO.out.len GD.out HTA.out HA.out.len HM.out hla2 HVZ.out (fun h => (GT.out h).2), by rw [HVZ.out, HN.out]; omega⟩, HB.out.trans (GW.out.mono HB.out.size)⟩
              case measure => simp only [intOf]; omega
end Go.Proofs.YtcgnmihabkgecaaGreat

/- The specification: Parse, Fits. -/
set_option linter.unusedVariables false
namespace Go.Proofs.YtcgnmihabkgecaaGreat
open Go.RowKit Go.Proofs

theorem numB_eq (ys : List UInt8) : numB ys = (decide (ys = [48]) || isPos ys) := by
  by_cases h : ys = [48]
  · subst h; rfl
  · rw [decide_eq_false h, Bool.false_or]
    unfold numB isPos
    cases hd : hasDigs ys with
    | false => rfl
    | true =>
      rw [Bool.true_and, Bool.true_and]
      cases ys with
      | nil => rfl
      | cons x t =>
        by_cases hx : x = 48
        · subst hx
          have : t ≠ [] := fun e => h (by rw [e])
          have h2 : t.length ≠ 0 := fun e => this (List.eq_nil_of_length_eq_zero e)
          simp [this]
        · simp [hx]

/-- what the specification's Parse answers -/
def ParseJ (xs : List UInt8) (W : World) (e : Ending) (w' : World) : Prop :=
  ∃ neg ao len cap er, e = .returned (.tuple #[.agg #[.bool neg, .slice ao len cap], .int .i64 er]) ∧ Below W.heap.size W w' ∧
    ((isNum xs = false ∧ er = 4) ∨ (isNum xs = true ∧ ¬ Fits (numZ xs) ∧ er = 3) ∨
      (isNum xs = true ∧ Fits (numZ xs) ∧ er = 0 ∧ len ≤ cap ∧ cap ≤ 9223372036854775807 ∧ Z16 w' neg ao len (numZ xs)))

theorem Z16.nil (w : World) : Z16 w false none 0 0 := ⟨0, N16.nil _ _, rfl, by simp⟩

/-- behind the sign: the digits ys are parsed -/
theorem parse_tail {xs ys : List UInt8} {s : Bool} (hz : numZ xs = sgn s (dec ys)) (hb : bare xs = ys) (hnum : isNum xs = numB ys) {er : Int} {w' : World} {ao : Option Addr} {len : Nat}
    (h : (numB ys = false ∧ er = 4) ∨ (numB ys = true ∧ (5000 < ys.length ∨ 16384 < blen (dec ys)) ∧ er = 3) ∨
      (numB ys = true ∧ ys.length ≤ 5000 ∧ blen (dec ys) ≤ 16384 ∧ er = 0 ∧ N16 w' ao len (dec ys))) :
    (isNum xs = false ∧ er = 4) ∨ (isNum xs = true ∧ ¬ Fits (numZ xs) ∧ er = 3) ∨ (isNum xs = true ∧ Fits (numZ xs) ∧ er = 0 ∧ N16 w' ao len (dec ys)) := by
  have hf : Fits (numZ xs) ↔ blen (dec ys) ≤ 16384 := by unfold Fits; rw [hz, sgn_natAbs]
  rcases h with ⟨h1, h2⟩ | ⟨h1, h2, h3⟩ | ⟨h1, h2, h3, h4, h5⟩
  · exact .inl ⟨by rw [hnum, h1], h2⟩
  · refine .inr (.inl ⟨by rw [hnum, h1], ?_, h3⟩)
    rcases h2 with h2 | h2
    · exact isNum_long (by rw [hnum, h1]) (by rw [hb]; omega)
    · rw [hf]; omega
  · exact .inr (.inr ⟨by rw [hnum, h1], hf.2 h3, h4, h5⟩)

set_option maxHeartbeats 2000000 in
theorem refParse_plain (xs : List UInt8) (W : World) (hl : xs.length ≤ 1000000000) (hp : Lib.hasPrefix xs [45] = false) :
    Calls Tryz.prog 35 #[.string ⟨xs.toArray⟩] W (ParseJ xs W) := by
  have hf : Fr W (W.alloc (.cells #[.bool false, .slice none 0 0] 33)) [(33, #[.bool false, .slice none 0 0])] := (Fr.nil W).alloc rfl _ _
  have HF := Lib.hid hf
  have hb : bare xs = xs := by unfold bare Lib.trimPrefix; rw [hp]; rfl
  have HB := Lib.hid hb
  have HZ : Hid (numZ xs = sgn false (dec xs)) := by show _ = _; unfold numZ; rw [hp, hb]
  have HNUM : Hid (isNum xs = numB xs) := by show _ = _; rw [numB_eq]; unfold isNum; unfold bare at hb; rw [hb]
  clear hf hb
  cases xs with
  | nil =>
    clear hp
    go_enter Tryz.func35, Tryz.ntmps35
    go_wp2_with fail
    refine (parse16_any [] _ (by simp at *; try omega)).mono ?_
    rintro e w1 ⟨ao, len, cap, er, rfl, hlc, hcm, hb1, hc⟩
    have HF1 := Lib.hid (HF.out.later hb1)
    have g0 : w1.cell? ⟨W.heap.size, 0, none⟩ = some (.bool false) := HF1.out.cell 0 0 rfl rfl
    have g1 : w1.cell? ⟨W.heap.size, 1, none⟩ = some (.slice none 0 0) := HF1.out.cell 0 1 rfl rfl
    have g2 : w1.frozen? ⟨W.heap.size, 0, none⟩ = false := HF1.out.frozen 0 0 rfl
    have g3 : w1.frozen? ⟨W.heap.size, 1, none⟩ = false := HF1.out.frozen 0 1 rfl
    rcases parse_tail HZ.out HB.out HNUM.out hc with ⟨h1, rfl⟩ | ⟨h1, h2, rfl⟩ | ⟨h1, h2, rfl, h3⟩
    · have HX := Lib.hid h1
      clear hb1 hc h1
      go_wp2
      obtain ⟨e0, e1, hz, hbel, _⟩ := HF1.out.finJ (cap := 0) 0 rfl (Z16.nil _)
      exact bodyPost_ret (v := .tuple #[.agg #[.bool false, .slice none 0 0], .int .i64 4]) (by simp only [Nat.add_zero] at e0 e1; simp [results, Tryz.results35, go_sem, e0, e1]) rfl ⟨false, none, 0, 0, 4, rfl, hbel, .inl ⟨HX.out, rfl⟩⟩
    · have HX := Lib.hid h1
      have HX2 := Lib.hid h2
      clear hb1 hc h1 h2
      go_wp2
      obtain ⟨e0, e1, hz, hbel, _⟩ := HF1.out.finJ (cap := 0) 0 rfl (Z16.nil _)
      exact bodyPost_ret (v := .tuple #[.agg #[.bool false, .slice none 0 0], .int .i64 3]) (by simp only [Nat.add_zero] at e0 e1; simp [results, Tryz.results35, go_sem, e0, e1]) rfl ⟨false, none, 0, 0, 3, rfl, hbel, .inr (.inl ⟨HX.out, HX2.out, rfl⟩)⟩
    · have HX := Lib.hid h1
      have HX2 := Lib.hid h2
      have HN := Lib.hid h3
      clear hb1 hc h1 h2 h3 g0 g1 g2 g3
      go_wp2_with fail
      refine (made_any false _ _ _ (dec []) _ HN.out hlc hcm).mono ?_
      rintro e w2 ⟨neg, uo, ul, uc, rfl, huc, hum, hz2, hb2⟩
      have HF2 := Lib.hid (HF1.out.later hb2)
      rw [← HZ.out] at hz2
      have HZ2 := Lib.hid hz2
      clear hz2 hb2
      have g0 : w2.cell? ⟨W.heap.size, 0, none⟩ = some (.bool false) := HF2.out.cell 0 0 rfl rfl
      have g1 : w2.cell? ⟨W.heap.size, 1, none⟩ = some (.slice none 0 0) := HF2.out.cell 0 1 rfl rfl
      have g2 : w2.frozen? ⟨W.heap.size, 0, none⟩ = false := HF2.out.frozen 0 0 rfl
      have g3 : w2.frozen? ⟨W.heap.size, 1, none⟩ = false := HF2.out.frozen 0 1 rfl
      go_wp2
      obtain ⟨e0, e1, hz, hbel, _⟩ := HF2.out.finJ (cap := uc) 0 rfl HZ2.out
      exact bodyPost_ret (v := .tuple #[.agg #[.bool neg, .slice uo ul uc], .int .i64 0]) (by simp only [Nat.add_zero] at e0 e1; simp [results, Tryz.results35, go_sem, e0, e1]) rfl ⟨neg, uo, ul, uc, 0, rfl, hbel, .inr (.inr ⟨HX.out, HX2.out, rfl, huc, hum, hz⟩)⟩
  | cons x t =>
    have hx : x ≠ 45 := fun e => by subst e; simp [Lib.hasPrefix] at hp
    obtain ⟨xs, hxs⟩ : ∃ xs, xs = x :: t := ⟨_, rfl⟩
    rw [← hxs] at hl HB HZ HNUM ⊢
    have h00 : 0 < xs.length := by rw [hxs]; simp
    have hx0 : xs[0]'h00 = x := by subst hxs; rfl
    have hs0 : 0 < (⟨xs.toArray⟩ : ByteArray).size := by rw [str_size]; exact h00
    have hc0 : ((⟨xs.toArray⟩ : ByteArray)[0]'hs0).toNat = x.toNat := congrArg UInt8.toNat hx0
    have hxn : x.toNat ≠ 45 := fun e => hx (UInt8.toNat_inj.1 e)
    have t0 : (0 : Int) < (xs.length : Int) := by omega
    have t2 : ¬ ((((⟨xs.toArray⟩ : ByteArray)[0]'hs0).toNat : Nat) : Int) = 45 := by rw [hc0]; omega
    have t3 : (((((⟨xs.toArray⟩ : ByteArray)[0]'hs0).toNat : Nat) : Int) == 45) = false := by rw [hc0]; simp; omega
    clear hp hx hxs hx0 hc0 hxn
    go_enter Tryz.func35, Tryz.ntmps35
    go_wp2_with fail
    refine (parse16_any xs _ (by simp at *; try omega)).mono ?_
    rintro e w1 ⟨ao, len, cap, er, rfl, hlc, hcm, hb1, hc⟩
    have HF1 := Lib.hid (HF.out.later hb1)
    have g0 : w1.cell? ⟨W.heap.size, 0, none⟩ = some (.bool false) := HF1.out.cell 0 0 rfl rfl
    have g1 : w1.cell? ⟨W.heap.size, 1, none⟩ = some (.slice none 0 0) := HF1.out.cell 0 1 rfl rfl
    have g2 : w1.frozen? ⟨W.heap.size, 0, none⟩ = false := HF1.out.frozen 0 0 rfl
    have g3 : w1.frozen? ⟨W.heap.size, 1, none⟩ = false := HF1.out.frozen 0 1 rfl
    rcases parse_tail HZ.out HB.out HNUM.out hc with ⟨h1, rfl⟩ | ⟨h1, h2, rfl⟩ | ⟨h1, h2, rfl, h3⟩
    · have HX := Lib.hid h1
      clear hb1 hc h1
      go_wp2
      obtain ⟨e0, e1, hz, hbel, _⟩ := HF1.out.finJ (cap := 0) 0 rfl (Z16.nil _)
      exact bodyPost_ret (v := .tuple #[.agg #[.bool false, .slice none 0 0], .int .i64 4]) (by simp only [Nat.add_zero] at e0 e1; simp [results, Tryz.results35, go_sem, e0, e1]) rfl ⟨false, none, 0, 0, 4, rfl, hbel, .inl ⟨HX.out, rfl⟩⟩
    · have HX := Lib.hid h1
      have HX2 := Lib.hid h2
      clear hb1 hc h1 h2
      go_wp2
      obtain ⟨e0, e1, hz, hbel, _⟩ := HF1.out.finJ (cap := 0) 0 rfl (Z16.nil _)
      exact bodyPost_ret (v := .tuple #[.agg #[.bool false, .slice none 0 0], .int .i64 3]) (by simp only [Nat.add_zero] at e0 e1; simp [results, Tryz.results35, go_sem, e0, e1]) rfl ⟨false, none, 0, 0, 3, rfl, hbel, .inr (.inl ⟨HX.out, HX2.out, rfl⟩)⟩
    · have HX := Lib.hid h1
      have HX2 := Lib.hid h2
      have HN := Lib.hid h3
      clear hb1 hc h1 h2 h3 g0 g1 g2 g3
      go_wp2_with fail
      refine (made_any false _ _ _ (dec xs) _ HN.out hlc hcm).mono ?_
      rintro e w2 ⟨neg, uo, ul, uc, rfl, huc, hum, hz2, hb2⟩
      have HF2 := Lib.hid (HF1.out.later hb2)
      rw [← HZ.out] at hz2
      have HZ2 := Lib.hid hz2
      clear hz2 hb2
      have g0 : w2.cell? ⟨W.heap.size, 0, none⟩ = some (.bool false) := HF2.out.cell 0 0 rfl rfl
      have g1 : w2.cell? ⟨W.heap.size, 1, none⟩ = some (.slice none 0 0) := HF2.out.cell 0 1 rfl rfl
      have g2 : w2.frozen? ⟨W.heap.size, 0, none⟩ = false := HF2.out.frozen 0 0 rfl
      have g3 : w2.frozen? ⟨W.heap.size, 1, none⟩ = false := HF2.out.frozen 0 1 rfl
      go_wp2
      obtain ⟨e0, e1, hz, hbel, _⟩ := HF2.out.finJ (cap := uc) 0 rfl HZ2.out
      exact bodyPost_ret (v := .tuple #[.agg #[.bool neg, .slice uo ul uc], .int .i64 0]) (by simp only [Nat.add_zero] at e0 e1; simp [results, Tryz.results35, go_sem, e0, e1]) rfl ⟨neg, uo, ul, uc, 0, rfl, hbel, .inr (.inr ⟨HX.out, HX2.out, rfl, huc, hum, hz⟩)⟩

set_option maxHeartbeats 2000000 in
theorem refParse_minus (t : List UInt8) (W : World) (hl : t.length ≤ 100000000) :
    Calls Tryz.prog 35 #[.string ⟨(45 :: t).toArray⟩] W (ParseJ (45 :: t) W) := by
  have hf : Fr W (W.alloc (.cells #[.bool false, .slice none 0 0] 33)) [(33, #[.bool false, .slice none 0 0])] := (Fr.nil W).alloc rfl _ _
  have HF := Lib.hid hf
  have hb : bare (45 :: t) = t := by unfold bare Lib.trimPrefix; simp [Lib.hasPrefix]
  have HB := Lib.hid hb
  have HZ : Hid (numZ (45 :: t) = sgn true (dec t)) := by show _ = _; unfold numZ; rw [hb]; simp [Lib.hasPrefix]
  have hn2 : isNum (45 :: t) = isPos t := by unfold isNum; unfold bare at hb; rw [hb]; simp
  obtain ⟨xs, hxs⟩ : ∃ xs, xs = 45 :: t := ⟨_, rfl⟩
  rw [← hxs] at HB HZ hn2 ⊢
  have h00 : 0 < xs.length := by rw [hxs]; simp
  have hx0 : xs[0]'h00 = 45 := by subst hxs; rfl
  have hs0 : 0 < (⟨xs.toArray⟩ : ByteArray).size := by rw [str_size]; exact h00
  have hc0 : ((⟨xs.toArray⟩ : ByteArray)[0]'hs0).toNat = 45 := congrArg UInt8.toNat hx0
  have t0 : (0 : Int) < (xs.length : Int) := by omega
  have t2 : ((((⟨xs.toArray⟩ : ByteArray)[0]'hs0).toNat : Nat) : Int) = 45 := by rw [hc0]; rfl
  have t3 : (((((⟨xs.toArray⟩ : ByteArray)[0]'hs0).toNat : Nat) : Int) == 45) = true := by rw [hc0]; rfl
  have t4 : (⟨xs.toArray⟩ : ByteArray).extract 1 xs.length = ⟨t.toArray⟩ := by rw [str_drop, hxs]; rfl
  have hxl : xs.length ≤ 1000000000 := by rw [hxs]; simp; omega
  have t5 : (1 : Int) ≤ (xs.length : Int) := by omega
  clear hf hb hxs hx0 hc0
  by_cases ht : t = [48]
  · have HX : Hid (isNum xs = false) := by show _ = _; rw [hn2, ht]; rfl
    clear hn2
    go_enter Tryz.func35, Tryz.ntmps35
    go_wp2
    exact bodyPost_ret (v := .tuple #[.agg #[.bool false, .slice none 0 0], .int .i64 4]) (by simp [results, Tryz.results35, go_sem]) rfl ⟨false, none, 0, 0, 4, rfl, HF.out.below, .inl ⟨HX.out, rfl⟩⟩
  · have HNUM : Hid (isNum xs = numB t) := by show _ = _; rw [hn2, numB_eq, decide_eq_false ht, Bool.false_or]
    have ht2 : (t == [48]) = false := by simpa using ht
    clear hn2
    go_enter Tryz.func35, Tryz.ntmps35
    go_wp2_with fail
    refine (parse16_any t _ (by simp at *; try omega)).mono ?_
    rintro e w1 ⟨ao, len, cap, er, rfl, hlc, hcm, hb1, hc⟩
    have HF1 := Lib.hid (HF.out.later hb1)
    have g0 : w1.cell? ⟨W.heap.size, 0, none⟩ = some (.bool false) := HF1.out.cell 0 0 rfl rfl
    have g1 : w1.cell? ⟨W.heap.size, 1, none⟩ = some (.slice none 0 0) := HF1.out.cell 0 1 rfl rfl
    have g2 : w1.frozen? ⟨W.heap.size, 0, none⟩ = false := HF1.out.frozen 0 0 rfl
    have g3 : w1.frozen? ⟨W.heap.size, 1, none⟩ = false := HF1.out.frozen 0 1 rfl
    rcases parse_tail HZ.out HB.out HNUM.out hc with ⟨h1, rfl⟩ | ⟨h1, h2, rfl⟩ | ⟨h1, h2, rfl, h3⟩
    · have HX := Lib.hid h1
      clear hb1 hc h1
      go_wp2
      obtain ⟨e0, e1, hz, hbel, _⟩ := HF1.out.finJ (cap := 0) 0 rfl (Z16.nil _)
      exact bodyPost_ret (v := .tuple #[.agg #[.bool false, .slice none 0 0], .int .i64 4]) (by simp only [Nat.add_zero] at e0 e1; simp [results, Tryz.results35, go_sem, e0, e1]) rfl ⟨false, none, 0, 0, 4, rfl, hbel, .inl ⟨HX.out, rfl⟩⟩
    · have HX := Lib.hid h1
      have HX2 := Lib.hid h2
      clear hb1 hc h1 h2
      go_wp2
      obtain ⟨e0, e1, hz, hbel, _⟩ := HF1.out.finJ (cap := 0) 0 rfl (Z16.nil _)
      exact bodyPost_ret (v := .tuple #[.agg #[.bool false, .slice none 0 0], .int .i64 3]) (by simp only [Nat.add_zero] at e0 e1; simp [results, Tryz.results35, go_sem, e0, e1]) rfl ⟨false, none, 0, 0, 3, rfl, hbel, .inr (.inl ⟨HX.out, HX2.out, rfl⟩)⟩
    · have HX := Lib.hid h1
      have HX2 := Lib.hid h2
      have HN := Lib.hid h3
      clear hb1 hc h1 h2 h3 g0 g1 g2 g3
      go_wp2_with fail
      refine (made_any true _ _ _ (dec t) _ HN.out hlc hcm).mono ?_
      rintro e w2 ⟨neg, uo, ul, uc, rfl, huc, hum, hz2, hb2⟩
      have HF2 := Lib.hid (HF1.out.later hb2)
      rw [← HZ.out] at hz2
      have HZ2 := Lib.hid hz2
      clear hz2 hb2
      have g0 : w2.cell? ⟨W.heap.size, 0, none⟩ = some (.bool false) := HF2.out.cell 0 0 rfl rfl
      have g1 : w2.cell? ⟨W.heap.size, 1, none⟩ = some (.slice none 0 0) := HF2.out.cell 0 1 rfl rfl
      have g2 : w2.frozen? ⟨W.heap.size, 0, none⟩ = false := HF2.out.frozen 0 0 rfl
      have g3 : w2.frozen? ⟨W.heap.size, 1, none⟩ = false := HF2.out.frozen 0 1 rfl
      go_wp2
      obtain ⟨e0, e1, hz, hbel, _⟩ := HF2.out.finJ (cap := uc) 0 rfl HZ2.out
      exact bodyPost_ret (v := .tuple #[.agg #[.bool neg, .slice uo ul uc], .int .i64 0]) (by simp only [Nat.add_zero] at e0 e1; simp [results, Tryz.results35, go_sem, e0, e1]) rfl ⟨neg, uo, ul, uc, 0, rfl, hbel, .inr (.inr ⟨HX.out, HX2.out, rfl, huc, hum, hz⟩)⟩

theorem refParse_any (xs : List UInt8) (W : World) (hl : xs.length ≤ 100000000) : Calls Tryz.prog 35 #[.string ⟨xs.toArray⟩] W (ParseJ xs W) := by
  cases hp : Lib.hasPrefix xs [45] with
  | false => exact refParse_plain xs W (by omega) hp
  | true =>
    cases xs with
    | nil => simp [Lib.hasPrefix] at hp
    | cons x t =>
      have hx : x = 45 := by
        simp [Lib.hasPrefix] at hp
        exact hp.symm
      subst hx
      exact refParse_minus t W (by simp at hl; omega)

set_option maxHeartbeats 400000 in
theorem fits16_any (neg : Bool) (ao : Option Addr) (len cap : Nat) (z : Int) (W : World) (h : Z16 W neg ao len z) (hl : len ≤ 1000000000) :
    Calls Tryz.prog 89 #[.agg #[.bool neg, .slice ao len cap]] W (fun e w' => ((Fits z ∧ e = .returned (.bool true)) ∨ (¬ Fits z ∧ e = .returned (.bool false))) ∧ Below W.heap.size W w') := by
  have hf : Fr W (W.alloc (.cells #[.bool neg, .slice ao len cap] 33)) [(33, #[.bool neg, .slice ao len cap])] := (Fr.nil W).alloc rfl _ _
  have HF := Lib.hid hf
  have HZ := Lib.hid (h.keep hf.below)
  clear h hf
  go_enter Tryz.func89, Tryz.ntmps89
  go_wp2_with fail
  refine (bitLen16_any _ _ _ _ z _ HZ.out hl).mono ?_
  rintro e w1 ⟨rfl, hb1⟩
  have HF1 := Lib.hid (HF.out.later hb1)
  obtain ⟨k, hk⟩ : ∃ k, k = blen z.natAbs := ⟨_, rfl⟩
  rw [← hk]
  by_cases hfit : k ≤ 16384
  · have t1 : (k : Int) ≤ 16384 := by omega
    have t2 : decide ((k : Int) ≤ 16384) = true := by simpa using t1
    have HX : Hid (Fits z) := by unfold Fits; rw [← hk]; exact hfit
    clear hk hb1
    go_wp2
    go_ret
    exact ⟨.inl ⟨HX.out, ret_bool (by first | rfl | (simp; done) | (simp; omega))⟩, HF1.out.below⟩
  · have t1 : ¬ (k : Int) ≤ 16384 := by omega
    have HX : Hid (¬ Fits z) := by unfold Fits; rw [← hk]; exact hfit
    clear hk hb1
    go_wp2
    go_ret
    exact ⟨.inr ⟨HX.out, ret_bool (by first | rfl | (simp; done) | (simp; omega))⟩, HF1.out.below⟩
end Go.Proofs.YtcgnmihabkgecaaGreat

/- The laws' helper told. -/
set_option linter.unusedVariables false
namespace Go.Proofs.YtcgnmihabkgecaaGreat
open Go.RowKit Go.Proofs

theorem numZ_0 : numeralZ 0 = [48] := by decide +kernel

/-- what Parse answers, with one shape of the ending -/
def ParseOne (xs : List UInt8) (W : World) (e : Ending) (w' : World) : Prop :=
  ∃ neg ao len cap er z', e = .returned (.tuple #[.agg #[.bool neg, .slice ao len cap], .int .i64 er]) ∧ Z32 w' neg ao len z' ∧ Below W.heap.size W w' ∧
    ((isNum xs = false ∧ er = 4 ∧ z' = 0) ∨ (isNum xs = true ∧ ¬ Fits (numZ xs) ∧ er = 3 ∧ z' = 0) ∨ (isNum xs = true ∧ Fits (numZ xs) ∧ er = 0 ∧ z' = numZ xs))

theorem ParsePost.one {xs : List UInt8} {W w' : World} {e : Ending} (h : ParsePost xs W e w') : ParseOne xs W e w' := by
  rcases h with ⟨h, ⟨hf, neg, ao, len, cap, rfl, hz, hb⟩ | ⟨hf, rfl, hb⟩⟩ | ⟨h, rfl, hb⟩
  · exact ⟨neg, ao, len, cap, 0, _, rfl, hz, hb, .inr (.inr ⟨h, hf, rfl, rfl⟩)⟩
  · exact ⟨false, none, 0, 0, 3, 0, rfl, Z32.nil _, hb, .inr (.inl ⟨h, hf, rfl, rfl⟩)⟩
  · exact ⟨false, none, 0, 0, 4, 0, rfl, Z32.nil _, hb, .inl ⟨h, rfl, rfl⟩⟩


theorem fits_lenk {w : World} {neg : Bool} {ao : Option Addr} {len : Nat} {z : Int} (k : Nat) (hk : 32 * k = 16384) (h : Z32 w neg ao len z) (hf : Fits z) : len ≤ k := by
  have h1 := blen_le.1 hf
  refine h.n32.len_le (k := k) ?_
  rw [B32_pow, hk]
  exact h1

theorem fits_len {w : World} {neg : Bool} {ao : Option Addr} {len : Nat} {z : Int} (h : Z32 w neg ao len z) (hf : Fits z) : len ≤ 512 := fits_lenk 512 rfl h hf

theorem fits_lenk16 {w : World} {neg : Bool} {ao : Option Addr} {len : Nat} {z : Int} (k : Nat) (hk : 16 * k = 16384) (h : Z16 w neg ao len z) (hf : Fits z) : len ≤ k := by
  have h1 := blen_le.1 hf
  refine h.n16.len_le (k := k) ?_
  rw [B16_pow, hk]
  exact h1

theorem fits_len16 {w : World} {neg : Bool} {ao : Option Addr} {len : Nat} {z : Int} (h : Z16 w neg ao len z) (hf : Fits z) : len ≤ 1024 := fits_lenk16 1024 rfl h hf
end Go.Proofs.YtcgnmihabkgecaaGreat

/- strings.Cut around one byte; facts of the texts of fractions. -/
set_option linter.unusedVariables false
namespace Go.Proofs.YtcgnmihabkgecaaGreat
open Go.RowKit Go.Proofs

theorem idx_none {xs : List UInt8} {c : UInt8} (h : c ∉ xs) : Lib.indexByte xs c = -1 := by
  induction xs with
  | nil => rfl
  | cons x t ih =>
    rw [List.mem_cons, not_or] at h
    unfold Lib.indexByte
    rw [if_neg (by simpa using fun e => h.1 e.symm), ih h.2]
    rfl

theorem idx_at {a b : List UInt8} {c : UInt8} (h : c ∉ a) : Lib.indexByte (a ++ c :: b) c = a.length := by
  induction a with
  | nil => simp [Lib.indexByte]
  | cons x t ih =>
    rw [List.mem_cons, not_or] at h
    rw [List.cons_append]
    unfold Lib.indexByte
    rw [if_neg (by simpa using fun e => h.1 e.symm), ih h.2, if_neg (by simp)]
    simp

theorem str_take (xs : List UInt8) (i : Nat) (h : i ≤ xs.length) : (⟨xs.toArray⟩ : ByteArray).extract 0 i = ⟨(xs.take i).toArray⟩ := by
  apply ByteArray.ext
  rw [ByteArray.data_extract]
  simp

theorem byte_back (c : UInt8) : (((c.toNat : Nat) : Int)).toNat.toUInt8 = c := by
  rw [Int.toNat_natCast]
  exact UInt8.ofNat_toNat

set_option maxHeartbeats 1000000 in
theorem index1_any (xs : List UInt8) (c : UInt8) (w : World) :
    Calls Tryz.prog 105 #[.string ⟨xs.toArray⟩, .string ⟨#[c]⟩] w fun e w' => e = .returned (.int .i64 (Lib.indexByte xs c)) ∧ w = w' := by
  by_cases h0 : xs = [c]
  · subst h0
    have HX : Hid (Lib.indexByte [c] c = 0) := by show _ = _; simp [Lib.indexByte]
    rw [HX.out]
    go_enter Tryz.func105, Tryz.ntmps105
    go_wp2
    go_ret
    exact ⟨rfl, rfl⟩
  · have h1 : ¬ [c] = xs := fun e => h0 e.symm
    have h2 : ([c] == xs) = false := by simpa using h1
    go_enter Tryz.func105, Tryz.ntmps105
    go_wp2_with fail
    refine (Tryz.stringslite_IndexByte _ _ _).mono ?_
    rintro e w1 ⟨rfl, rfl⟩
    clear h0 h1 h2
    go_wp2
    go_ret
    exact ⟨rfl, rfl⟩

set_option maxHeartbeats 1000000 in
theorem cut_none (xs : List UInt8) (c : UInt8) (w : World) (h : c ∉ xs) :
    Calls Tryz.prog 29 #[.string ⟨xs.toArray⟩, .string ⟨#[c]⟩] w fun e w' => e = .returned (.tuple #[.string ⟨xs.toArray⟩, .string ⟨#[]⟩, .bool false]) ∧ w = w' := by
  have HI := Lib.hid (idx_none h)
  clear h
  have hc : Calls Tryz.prog 73 #[.string ⟨xs.toArray⟩, .string ⟨#[c]⟩] w fun e w' => e = .returned (.tuple #[.string ⟨xs.toArray⟩, .string ⟨#[]⟩, .bool false]) ∧ w = w' := by
    go_enter Tryz.func73, Tryz.ntmps73
    go_wp2_with fail
    refine (index1_any xs c _).mono ?_
    rw [HI.out]
    rintro e w1 ⟨rfl, rfl⟩
    go_wp2
    go_ret3
    exact ⟨rfl, rfl⟩
  go_enter Tryz.func29, Tryz.ntmps29
  go_wp2_with fail
  refine hc.mono ?_
  rintro e w1 ⟨rfl, rfl⟩
  clear hc
  go_wp2
  go_ret3
  exact ⟨rfl, rfl⟩

set_option maxHeartbeats 1000000 in
theorem cut_at (a b : List UInt8) (c : UInt8) (w : World) (h : c ∉ a) (hl : (a ++ c :: b).length ≤ 1000000000) :
    Calls Tryz.prog 29 #[.string ⟨(a ++ c :: b).toArray⟩, .string ⟨#[c]⟩] w fun e w' => e = .returned (.tuple #[.string ⟨a.toArray⟩, .string ⟨b.toArray⟩, .bool true]) ∧ Below w.heap.size w w' := by
  have HI := Lib.hid (idx_at (b := b) h)
  obtain ⟨xs, hxs⟩ : ∃ xs, xs = a ++ c :: b := ⟨_, rfl⟩
  obtain ⟨n, hn⟩ : ∃ n, n = a.length := ⟨_, rfl⟩
  have hlen : n + 1 ≤ xs.length := by rw [hxs, hn]; simp
  have HA : Hid ((⟨xs.toArray⟩ : ByteArray).extract 0 n = ⟨a.toArray⟩) := by show _ = _; rw [str_take xs n (by omega), hxs, hn]; simp
  have HB : Hid ((⟨xs.toArray⟩ : ByteArray).extract (n + 1) xs.length = ⟨b.toArray⟩) := by show _ = _; rw [str_drop, hxs, hn]; simp
  rw [← hxs, ← hn] at HI
  rw [← hxs] at hl ⊢
  clear hxs hn h
  have hc : Calls Tryz.prog 73 #[.string ⟨xs.toArray⟩, .string ⟨#[c]⟩] w fun e w' => e = .returned (.tuple #[.string ⟨a.toArray⟩, .string ⟨b.toArray⟩, .bool true]) ∧ Below w.heap.size w w' := by
    go_enter Tryz.func73, Tryz.ntmps73
    go_wp2_with fail
    refine (index1_any xs c _).mono ?_
    rw [HI.out]
    rintro e w1 ⟨rfl, rfl⟩
    have t1 : (0 : Int) ≤ (n : Int) := by omega
    have t2 : (n : Int) ≤ (xs.length : Int) := by omega
    have t3 : (0 : Int) ≤ (n : Int) + 1 := by omega
    have t4 : (n : Int) + 1 ≤ (xs.length : Int) := by omega
    go_wp2
    go_region
    all_goals go_wp2
    all_goals go_ret3
    all_goals exact ⟨by rw [← HA.out, ← HB.out]; rfl, by first | exact (Below.refl _ _).drew | exact below_drewN (Below.refl _ _) _⟩
  go_enter Tryz.func29, Tryz.ntmps29
  go_wp2_with fail
  refine hc.mono ?_
  rintro e w1 ⟨rfl, hb⟩
  have HX := Lib.hid hb
  clear hc hb
  go_wp2
  go_ret3
  exact ⟨rfl, HX.out⟩

/-! The texts of fractions. -/
/-- the text of a fraction: a, or a / b -/
def ratText (a : List UInt8) : Option (List UInt8) → List UInt8
  | none => a
  | some b => a ++ 47 :: b
def denOf : Option (List UInt8) → Nat
  | none => 1
  | some b => dec b
def textOk (a : List UInt8) : Option (List UInt8) → Bool
  | none => isNum a
  | some b => isNum a && (isPos b && decide (b ≠ [49]))
def bothFit (a : List UInt8) : Option (List UInt8) → Prop
  | none => Fits (numZ a)
  | some b => Fits (numZ a) ∧ Fits (numZ b)

/-- the answer to the text of a fraction -/
def RatSays (a : List UInt8) (b : Option (List UInt8)) (er p : Int) (q : Nat) : Prop :=
  (textOk a b = false ∧ er = 4 ∧ p = 0 ∧ q = 1) ∨ (textOk a b = true ∧ ¬ bothFit a b ∧ er = 3 ∧ p = 0 ∧ q = 1) ∨
  (textOk a b = true ∧ bothFit a b ∧ Nat.gcd (numZ a).natAbs (denOf b) ≠ 1 ∧ er = 4 ∧ p = 0 ∧ q = 1) ∨
  (textOk a b = true ∧ bothFit a b ∧ Nat.gcd (numZ a).natAbs (denOf b) = 1 ∧ er = 0 ∧ p = numZ a ∧ q = denOf b)

theorem RatSays.same {a : List UInt8} {b : Option (List UInt8)} {er er' p p' : Int} {q q' : Nat} (h : RatSays a b er p q) (h' : RatSays a b er' p' q') : er = er' ∧ p = p' ∧ q = q' := by
  rcases h with ⟨h1, h2, h3, h4⟩ | ⟨h1, h5, h2, h3, h4⟩ | ⟨h1, h5, h6, h2, h3, h4⟩ | ⟨h1, h5, h6, h2, h3, h4⟩ <;>
  rcases h' with ⟨k1, k2, k3, k4⟩ | ⟨k1, k5, k2, k3, k4⟩ | ⟨k1, k5, k6, k2, k3, k4⟩ | ⟨k1, k5, k6, k2, k3, k4⟩ <;>
  first
  | exact absurd (h1.symm.trans k1) (by decide)
  | exact absurd k5 h5
  | exact absurd h5 k5
  | exact absurd k6 h6
  | exact absurd h6 k6
  | exact ⟨h2.trans k2.symm, h3.trans k3.symm, h4.trans k4.symm⟩

/-- every text is one of the two kinds -/
theorem ratText_cases (xs : List UInt8) (c : UInt8) : c ∉ xs ∨ ∃ a b, xs = a ++ c :: b ∧ c ∉ a := by
  induction xs with
  | nil => exact .inl (by simp)
  | cons x t ih =>
    by_cases hx : x = c
    · exact .inr ⟨[], t, by rw [hx]; rfl, by simp⟩
    · rcases ih with h | ⟨a, b, h, h2⟩
      · exact .inl (by rw [List.mem_cons, not_or]; exact ⟨fun e => hx e.symm, h⟩)
      · exact .inr ⟨x :: a, b, by rw [h]; rfl, by rw [List.mem_cons, not_or]; exact ⟨fun e => hx e.symm, h2⟩⟩

theorem isPos_parts {t : List UInt8} (h : isPos t = true) : ∃ x s, t = x :: s ∧ 49 ≤ x.toNat ∧ x.toNat ≤ 57 ∧ s.all isDig = true := by
  unfold isPos at h
  rw [Bool.and_eq_true] at h
  have h1 := h.1
  unfold hasDigs at h1
  rw [Bool.and_eq_true] at h1
  cases t with
  | nil => exact absurd h1.2 (by decide)
  | cons x s =>
    have h2 := h1.1
    rw [List.all_cons, Bool.and_eq_true] at h2
    have h3 : 48 ≤ x.toNat ∧ x.toNat ≤ 57 := by simpa [isDig] using h2.1
    have h4 : x ≠ 48 := by simpa using h.2
    have h5 : x.toNat ≠ 48 := fun e => h4 (UInt8.toNat_inj.1 e)
    exact ⟨x, s, rfl, by omega, h3.2, h2.2⟩

theorem isPos_bare {t : List UInt8} (h : isPos t = true) : Lib.hasPrefix t [45] = false ∧ bare t = t := by
  obtain ⟨x, s, rfl, h1, h2, h3⟩ := isPos_parts h
  have hx : x ≠ 45 := fun e => by subst e; exact absurd h1 (by decide)
  have hp : Lib.hasPrefix (x :: s) [45] = false := by
    have h5 : ((45 : UInt8) == x) = false := by simpa using fun (e : (45 : UInt8) = x) => hx e.symm
    show ((45 : UInt8) == x && ([] : List UInt8).isPrefixOf s) = false
    rw [h5]; rfl
  exact ⟨hp, by unfold bare Lib.trimPrefix; rw [hp]; rfl⟩

theorem isPos_num {t : List UInt8} (h : isPos t = true) : numZ t = (dec t : Int) ∧ isNum t = true := by
  obtain ⟨h1, h2⟩ := isPos_bare h
  refine ⟨by unfold numZ; rw [h1, h2]; rfl, ?_⟩
  unfold isNum
  unfold bare at h2
  rw [h2, h, Bool.or_true]

theorem isPos_gt {t : List UInt8} (h : isPos t = true) : 0 < dec t ∧ (t ≠ [49] → 1 < dec t) := by
  obtain ⟨x, s, rfl, h1, h2, h3⟩ := isPos_parts h
  rw [dec_cons]
  have h4 : 0 < 10 ^ s.length := Nat.pow_pos (by decide)
  have h5 : 1 * 10 ^ s.length ≤ (x.toNat - 48) * 10 ^ s.length := Nat.mul_le_mul_right _ (by omega)
  refine ⟨by omega, fun hne => ?_⟩
  cases s with
  | nil =>
    have h6 : x.toNat ≠ 49 := fun e => hne (by rw [show x = 49 from UInt8.toNat_inj.1 e])
    simp [dec]
    omega
  | cons y s =>
    have h6 : 10 ^ 1 ≤ 10 ^ (y :: s).length := Nat.pow_le_pow_right (by decide) (by simp)
    omega

theorem OutF.fit {W w' : World} {z : Int} {e : Ending} (h : OutF W z e w') (hf : Fits z) : ∃ neg ao len cap, e = .returned (.tuple #[.agg #[.bool neg, .slice ao len cap], .int .i64 0]) ∧ len ≤ 512 ∧ Z32 w' neg ao len z ∧ Below W.heap.size W w' := by
  rcases h with ⟨_, neg, ao, len, cap, rfl, hz, hb⟩ | ⟨h, _⟩
  · exact ⟨neg, ao, len, cap, rfl, fits_len hz hf, hz, hb⟩
  · exact absurd hf h
theorem OutF.nofit {W w' : World} {z : Int} {e : Ending} (h : OutF W z e w') (hf : ¬ Fits z) : e = .returned (.tuple #[.agg #[.bool false, .slice none 0 0], .int .i64 3]) ∧ Below W.heap.size W w' := by
  rcases h with ⟨h, _⟩ | ⟨_, h⟩
  · exact absurd h hf
  · exact h

def OutRE (W : World) (a : List UInt8) (b : Option (List UInt8)) (e : Ending) (w' : World) : Prop :=
  ∃ na ao la ca bo lb cb er p q, e = .returned (.tuple #[.agg #[.bool na, .slice ao la ca, .slice bo lb cb], .int .i64 er]) ∧ la ≤ 512 ∧ lb ≤ 512 ∧ Q32 w' na ao la bo lb p q ∧ Below W.heap.size W w' ∧ RatSays a b er p q
theorem Q32.zero (w : World) : Q32 w false none 0 none 0 0 1 := ⟨Z32.nil _, .inl ⟨rfl, rfl⟩⟩
end Go.Proofs.YtcgnmihabkgecaaGreat
