/- Part 10 of the contracts: Read, Parse, RefP, RefQ, RefS, Law2, Numeral, Law3. -/
import Derived.Test.YtbihgllfllkkaaaGreatPart9

/- readDigits. -/
set_option linter.unusedVariables false
namespace Go.Proofs.YtbihgllfllkkaaaGreat
open Go.RowKit Go.Proofs

/-- the number of a row of decimal digits, the highest one first -/
def dec (xs : List UInt8) : Nat := xs.foldl (fun a c => 10 * a + (c.toNat - 48)) 0

theorem foldl_dec (xs : List UInt8) (a : Nat) : xs.foldl (fun a c => 10 * a + (c.toNat - 48)) a = a * 10 ^ xs.length + dec xs := by
  induction xs generalizing a with
  | nil => simp [dec]
  | cons x xs ih =>
    unfold dec
    simp only [List.foldl_cons, List.length_cons]
    rw [ih, ih (10 * 0 + (x.toNat - 48)), Nat.pow_succ]
    grind

theorem dec_append (xs ys : List UInt8) : dec (xs ++ ys) = dec xs * 10 ^ ys.length + dec ys := by
  unfold dec
  rw [List.foldl_append, foldl_dec]
  rfl

theorem dec_snoc (xs : List UInt8) (c : UInt8) : dec (xs ++ [c]) = 10 * dec xs + (c.toNat - 48) := by
  rw [dec_append]; simp [dec, Nat.mul_comm]

theorem dec_lt {xs : List UInt8} (h : xs.all isDig = true) : dec xs < 10 ^ xs.length := by
  obtain ⟨zs, rfl⟩ : ∃ zs, xs = zs.reverse := ⟨xs.reverse, by simp⟩
  induction zs with
  | nil => simp [dec]
  | cons c zs ih =>
    rw [List.reverse_cons] at h ⊢
    rw [List.all_append, Bool.and_eq_true] at h
    have h2 := h.2
    simp [isDig] at h2
    rw [dec_snoc, List.length_append, List.length_singleton, Nat.pow_succ]
    have := ih h.1
    omega

theorem dec_take_succ {xs : List UInt8} {i : Nat} (hi : i < xs.length) : dec (xs.take (i + 1)) = 10 * dec (xs.take i) + (xs[i].toNat - 48) := by
  rw [List.take_succ_eq_append_getElem hi, dec_snoc]

theorem pow10_le {i : Nat} (h : i ≤ 8) : 10 ^ i ≤ 100000000 := Nat.pow_le_pow_right (by decide) h

theorem str_drop (ys : List UInt8) (i : Nat) : (⟨ys.toArray⟩ : ByteArray).extract i ys.length = ⟨(ys.drop i).toArray⟩ := by
  apply ByteArray.ext
  rw [ByteArray.data_extract]
  simp
  rw [List.take_of_length_le (by simp)]

def strLen : Value → Nat
  | .string s => s.size
  | _ => 0

def RdRel (xs : List UInt8) (W : World) (sv dv : Value) (wr : World) : Prop :=
  ∃ (p n : Nat) (zs : List Nat), sv = .string ⟨(xs.drop p).toArray⟩ ∧ p ≤ xs.length ∧ Own .u32 wr W.heap.size 107 dv n zs ∧ Dig B32 zs ∧ Top zs ∧ n ≤ p ∧ val B32 zs = dec (xs.take p) ∧ Below W.heap.size W wr

set_option maxHeartbeats 1000000 in
theorem readDigits_any (xs : List UInt8) (W : World) (hl : xs.length ≤ 100000000) (hd : xs.all isDig = true) :
    Calls Tryz.prog 85 #[.string ⟨xs.toArray⟩] W (Out32 W (dec xs)) := by
  have HD := Lib.hid hd
  clear hd
  go_enter Tryz.func85, Tryz.ntmps85
  go_wp2
  go_loopw [0, 3] (fun sv dv wr => RdRel xs W sv dv wr) (fun sv _ _ => strLen sv)
  case atStart => exact ⟨0, 0, [], by simp, by omega, Own.nil _ _ _ _, Dig.nil _, Top.nil, by omega, rfl, Below.refl _ _⟩
  case round =>
    obtain ⟨p, n, zs, rfl, hp, hown, hdz, ht, hn, hv, hbel⟩ := hrel
    have HO := Lib.hid hown
    have HZ := Lib.hid hdz
    have HT := Lib.hid ht
    have HV := Lib.hid hv
    have HB := Lib.hid hbel
    clear hown hdz ht hv hbel
    obtain ⟨ys, hys⟩ : ∃ ys, ys = xs.drop p := ⟨_, rfl⟩
    rw [← hys]
    have hyl : ys.length = xs.length - p := by rw [hys]; simp
    have HYL := Lib.hid hyl
    have HYS := Lib.hid hys
    clear hys hyl
    have hyb : ys.length ≤ 100000000 := by have := HYL.out; omega
    have HDY : Hid (ys.all isDig = true) := by
      show _ = _
      have h := HD.out
      rw [← List.take_append_drop p xs, List.all_append, Bool.and_eq_true] at h
      rw [HYS.out]; exact h.2
    by_cases h0 : ys.length = 0
    · have hpl : p = xs.length := by have := HYL.out; omega
      have HPL := Lib.hid hpl
      clear hpl
      have t1 : ¬ (0 : Int) < (ys.length : Int) := by omega
      obtain ⟨ao, cap, rfl, hlc, hcm, hsl⟩ := HO.out.sl
      have HS := Lib.hid hsl
      clear hsl
      go_wp2
      go_ret
      exact ⟨ao, n, cap, rfl, ⟨zs, HS.out, HZ.out, HT.out, by rw [HV.out, HPL.out, List.take_length]⟩, HB.out⟩
    · have t1 : (0 : Int) < (ys.length : Int) := by omega
      obtain ⟨s, hs⟩ : ∃ s : Nat, s = (ys.length - 1) % 9 + 1 := ⟨_, rfl⟩
      have e1 : ((ys.length : Int) - 1) % 9 + 1 = (s : Int) := by omega
      have hs9 : s ≤ 9 := by omega
      have hs1 : 1 ≤ s := by omega
      have hsy : s ≤ ys.length := by omega
      have HE1 := Lib.hid e1
      clear e1 hs
      go_wp2_with fail
      rw [HE1.out]
      go_loop [5, 6, 17] (fun gv bv iv => ∃ i : Nat, i ≤ s ∧ iv = .int .i64 (i : Int) ∧ gv = .int .u32 ((dec (ys.take i) : Nat) : Int) ∧ bv = .int .u32 ((10 ^ i : Nat) : Int)) (fun gv bv iv => s - (intOf iv).toNat)
      case atStart => exact ⟨0, by omega, rfl, rfl, rfl⟩
      case round =>
        obtain ⟨i, hi, rfl, rfl, rfl⟩ := hrel
        obtain ⟨b, hb⟩ : ∃ b, b = 10 ^ i := ⟨_, rfl⟩
        obtain ⟨g, hg⟩ : ∃ g, g = dec (ys.take i) := ⟨_, rfl⟩
        have hgb : g < b := by
          have h := HDY.out
          rw [← List.take_append_drop i ys, List.all_append, Bool.and_eq_true] at h
          have := dec_lt h.1
          rw [List.length_take, Nat.min_eq_left (by omega)] at this
          omega
        rw [← hb, ← hg]
        by_cases hil : i = s
        · subst hil
          have t2 : ¬ (i : Int) < (i : Int) := by omega
          have hb0 : 0 < b := by rw [hb]; exact Nat.pow_pos (by decide)
          have hb9 : b ≤ 1000000000 := by rw [hb]; exact (Nat.pow_le_pow_right (by decide) hs9 : 10 ^ i ≤ 10 ^ 9)
          have HBE := Lib.hid hb
          have HGE := Lib.hid hg
          have hnn : n ≤ 1000000000 := by omega
          clear hb hg
          have t6 : (0 : Int) ≤ (i : Int) := by omega
          have t7 : (i : Int) ≤ (ys.length : Int) := by omega
          go_wp2_with fail
          refine (scale_any W.heap.size n _ zs _ _ b g _ HO.out HZ.out HT.out rfl rfl hb0 (by omega) (by omega) hnn HB.out.size).mono ?_
          rintro e w1 ⟨v', m, zs', rfl, hown', hd', hm, hv', ht', hb'⟩
          have J1 := Lib.hid hown'
          have J2 := Lib.hid hd'
          have J3 := Lib.hid hv'
          have J4 := Lib.hid ht'
          have J5 := Lib.hid hb'
          clear hown' hd' hv' ht' hb'
          go_wp2
          rw [str_drop]
          have hi1 : 1 ≤ i := by omega
          refine ⟨⟨p + i, m, zs', ?_, by have := HYL.out; omega, J1.out, J2.out, J4.out, by omega, ?_, HB.out.trans J5.out⟩, ?_⟩
          · rw [HYS.out, List.drop_drop]
          · rw [J3.out, List.take_add, dec_append, HV.out, HGE.out, ← HYS.out, HBE.out, List.length_take, Nat.min_eq_left (by omega), Nat.mul_comm]
          · simp only [strLen, str_size, List.length_drop]
            omega
        · have t2 : (i : Int) < (s : Int) := by omega
          have hb8 : b ≤ 100000000 := by rw [hb]; exact pow10_le (by omega)
          have hiy : i < ys.length := by omega
          have hss : i < (⟨ys.toArray⟩ : ByteArray).size := by rw [str_size]; exact hiy
          have t3 : (i : Int) < (ys.length : Int) := by omega
          have hdg : isDig ys[i] = true := List.all_eq_true.1 HDY.out _ (List.getElem_mem hiy)
          have hdg2 : 48 ≤ ys[i].toNat ∧ ys[i].toNat ≤ 57 := by simpa [isDig] using hdg
          obtain ⟨c, hc⟩ : ∃ c : Nat, c = ys[i].toNat := ⟨_, rfl⟩
          have hc2 : ((⟨ys.toArray⟩ : ByteArray)[i]'hss).toNat = c := hc.symm
          rw [← hc] at hdg2
          have HN : Hid (dec (ys.take (i + 1)) = 10 * g + (c - 48)) := by show _ = _; rw [dec_take_succ hiy, ← hg, ← hc]
          have HBI : Hid (10 ^ (i + 1) = 10 * b) := by show _ = _; rw [Nat.pow_succ, ← hb]; omega
          have t4 : (48 : Int) ≤ ((((⟨ys.toArray⟩ : ByteArray)[i]'hss).toNat : Nat) : Int) := by rw [hc2]; omega
          have t5 : ((((⟨ys.toArray⟩ : ByteArray)[i]'hss).toNat : Nat) : Int) ≤ 57 := by rw [hc2]; omega
          have HC2 := Lib.hid hc2
          clear hb hg hdg hc hc2
          go_wp2
          go_round
          case rel =>
            rw [HC2.out]
            exact ⟨i + 1, by omega, by go_num, by rw [HN.out]; exact congrArg (Value.int _) (by omega), by rw [HBI.out]; exact congrArg (Value.int _) (by omega)⟩
          case measure => simp [intOf]; omega
end Go.Proofs.YtbihgllfllkkaaaGreat

/- readNumeral, Parse. -/
set_option linter.unusedVariables false
namespace Go.Proofs.YtbihgllfllkkaaaGreat
open Go.RowKit Go.Proofs

def bare (xs : List UInt8) : List UInt8 := Lib.trimPrefix xs [45]
/-- the integer of a numeral -/
def numZ (xs : List UInt8) : Int := sgn (Lib.hasPrefix xs [45]) (dec (bare xs))

theorem dec_cons (x : UInt8) (t : List UInt8) : dec (x :: t) = (x.toNat - 48) * 10 ^ t.length + dec t := by
  show (t.foldl (fun a c => 10 * a + (c.toNat - 48)) (10 * 0 + (x.toNat - 48))) = _
  rw [foldl_dec]; simp

theorem isNum_digits {xs : List UInt8} (h : isNum xs = true) : (bare xs).all isDig = true := by
  unfold isNum at h
  rw [Bool.or_eq_true] at h
  rcases h with h | h
  · have : xs = [48] := by simpa using h
    subst this; rfl
  · unfold isPos at h
    rw [Bool.and_eq_true] at h
    have h1 := h.1
    unfold hasDigs at h1
    rw [Bool.and_eq_true] at h1
    exact h1.1

theorem big_pow (n k : Nat) (hn : n = 4933) (h : n ≤ k) : 2 ^ 16384 ≤ 10 ^ k := by
  have h1 : 10 ^ n ≤ 10 ^ k := Nat.pow_le_pow_right (by decide) h
  have h2 : 2 ^ 16384 ≤ 10 ^ n := by subst hn; decide +kernel
  exact Nat.le_trans h2 h1

theorem isNum_long {xs : List UInt8} (h : isNum xs = true) (hl : 4933 < (bare xs).length) : ¬ Fits (numZ xs) := by
  unfold isNum at h
  rw [Bool.or_eq_true] at h
  rcases h with h | h
  · have : xs = [48] := by simpa using h
    subst this
    exact absurd hl (by decide)
  · unfold isPos at h
    rw [Bool.and_eq_true] at h
    have h1 := h.1
    unfold hasDigs at h1
    rw [Bool.and_eq_true] at h1
    have h2 := h.2
    unfold Fits numZ
    rw [sgn_natAbs]
    change (bare xs).all isDig = true ∧ _ at h1
    change decide ((bare xs).head? ≠ some 48) = true at h2
    cases hb : bare xs with
    | nil => rw [hb] at hl; simp at hl
    | cons x t =>
      rw [hb] at h1 h2 hl
      have h3 := h1.1
      rw [List.all_cons, Bool.and_eq_true] at h3
      have h4 : 48 ≤ x.toNat ∧ x.toNat ≤ 57 := by simpa [isDig] using h3.1
      have h5 : x ≠ 48 := by simpa using h2
      have h6 : x.toNat ≠ 48 := fun e => h5 (UInt8.toNat_inj.1 e)
      have h10 : 4933 ≤ t.length := by rw [List.length_cons] at hl; omega
      intro hbl
      have hlt := blen_le.1 hbl
      rw [dec_cons] at hlt
      have h7 : 1 * 10 ^ t.length ≤ (x.toNat - 48) * 10 ^ t.length := Nat.mul_le_mul_right _ (by omega)
      have h8 := big_pow 4933 t.length rfl h10
      have : (2 ^ 16384 : Nat) < 2 ^ 16384 := Nat.lt_of_le_of_lt (Nat.le_trans h8 (by omega)) hlt
      exact Nat.lt_irrefl _ this

theorem dec_len {xs : List UInt8} (h : xs.all isDig = true) : dec xs < B32 ^ xs.length := Nat.lt_of_lt_of_le (dec_lt h) (Nat.pow_le_pow_left (by decide) _)

theorem cut_any (xs : List UInt8) (W : World) :
    Calls Tryz.prog 83 #[.string ⟨xs.toArray⟩, .string ⟨#[45]⟩] W fun e w' => e = .returned (.tuple #[.string ⟨(bare xs).toArray⟩, .bool (Lib.hasPrefix xs [45])]) ∧ w' = W := Tryz.strings_CutPrefix _ _ _

set_option maxHeartbeats 1000000 in
theorem readNumeral_any (xs : List UInt8) (W : World) (hl : xs.length ≤ 100000000) (hn : isNum xs = true) :
    Calls Tryz.prog 70 #[.string ⟨xs.toArray⟩] W (OutF W (numZ xs)) := by
  have hf : Fr W (W.alloc (.cells #[.bool false, .slice none 0 0] 31)) [(31, #[.bool false, .slice none 0 0])] := (Fr.nil W).alloc rfl _ _
  have HF := Lib.hid hf
  have HDG := Lib.hid (isNum_digits hn)
  have HLG := Lib.hid (fun h => isNum_long hn h)
  have hble : (bare xs).length ≤ xs.length := Lib.trimPrefix_le xs [45]
  obtain ⟨ys, hys⟩ : ∃ ys, ys = bare xs := ⟨_, rfl⟩
  obtain ⟨s, hs⟩ : ∃ s, s = Lib.hasPrefix xs [45] := ⟨_, rfl⟩
  have hz : numZ xs = sgn s (dec ys) := by unfold numZ; rw [hs, hys]
  rw [← hys] at HDG HLG hble
  rw [hz] at HLG ⊢
  have HS := Lib.hid hs
  have HYS := Lib.hid hys
  clear hf hn hz hs hys
  go_enter Tryz.func70, Tryz.ntmps70
  go_wp2_with fail
  refine (cut_any xs _).mono ?_
  rintro e w1 ⟨rfl, rfl⟩
  rw [← HYS.out, ← HS.out]
  by_cases hlong : 4933 < ys.length
  · have t1 : (4933 : Int) < (ys.length : Int) := by omega
    have HX := Lib.hid (HLG.out hlong)
    clear hlong
    go_wp2
    exact bodyPost_ret (v := .tuple #[.agg #[.bool false, .slice none 0 0], .int .i64 3]) (by simp [results, Tryz.results70, go_sem]) rfl (.inr ⟨HX.out, rfl, HF.out.below⟩)
  · have t1 : ¬ (4933 : Int) < (ys.length : Int) := by omega
    go_wp2_with fail
    refine (readDigits_any ys _ (by omega) HDG.out).mono ?_
    rintro e w1 ⟨ro, rl, rc, rfl, hr, hb1⟩
    have HF1 := Lib.hid (HF.out.later hb1)
    have HR := Lib.hid hr
    have hrl : rl ≤ 1000000000 := Nat.le_trans (hr.len_le (dec_len HDG.out)) (by omega)
    clear hr hb1
    go_wp2_with fail
    refine (signed_any s _ _ _ (dec ys) _ HR.out).mono ?_
    rintro e w2 ⟨s2, so, sl, sc, rfl, hz2, hb2⟩
    have HF2 := Lib.hid (HF1.out.later hb2)
    have HZ2 := Lib.hid hz2
    have hsl : sl ≤ 1000000000 := by
      have h1 := hz2.n32
      rw [sgn_natAbs] at h1
      exact Nat.le_trans (h1.len_le (dec_len HDG.out)) (by omega)
    clear hz2 hb2
    go_wp2_with fail
    refine ((fitting_any _ _ _ _ (sgn s (dec ys)) _ HZ2.out hsl).mono fun e w h => h.one).mono ?_
    rintro e w3 ⟨neg, fo, fl, fc, er, z', rfl, hz, hb3, hx⟩
    have HF3 := Lib.hid (HF2.out.later hb3)
    have HZ := Lib.hid hz
    have HX := Lib.hid hx
    clear hb3 hz hx
    have g0 : w3.cell? ⟨W.heap.size, 0, none⟩ = some (.bool false) := HF3.out.cell 0 0 rfl rfl
    have g1 : w3.cell? ⟨W.heap.size, 1, none⟩ = some (.slice none 0 0) := HF3.out.cell 0 1 rfl rfl
    have g2 : w3.frozen? ⟨W.heap.size, 0, none⟩ = false := HF3.out.frozen 0 0 rfl
    have g3 : w3.frozen? ⟨W.heap.size, 1, none⟩ = false := HF3.out.frozen 0 1 rfl
    go_wp2
    obtain ⟨e0, e1, hz, hbel, _⟩ := HF3.out.finI (cap := fc) 0 rfl HZ.out
    exact bodyPost_ret (v := .tuple #[.agg #[.bool neg, .slice fo fl fc], .int .i64 er]) (by simp only [Nat.add_zero] at e0 e1; simp [results, Tryz.results70, go_sem, e0, e1]) rfl (OutF1.two ⟨neg, fo, fl, fc, er, z', rfl, hz, hbel, HX.out⟩)

/-- what Parse answers: the integer, or 0 and the error of a text that is no numeral -/
def ParsePost (xs : List UInt8) (W : World) (e : Ending) (w' : World) : Prop :=
  (isNum xs = true ∧ OutF W (numZ xs) e w') ∨ (isNum xs = false ∧ e = .returned (.tuple #[.agg #[.bool false, .slice none 0 0], .int .i64 4]) ∧ Below W.heap.size W w')

set_option maxHeartbeats 1000000 in
theorem parse_any (xs : List UInt8) (W : World) (hl : xs.length ≤ 100000000) :
    Calls Tryz.prog 103 #[.string ⟨xs.toArray⟩] W (ParsePost xs W) := by
  have hf : Fr W (W.alloc (.cells #[.bool false, .slice none 0 0] 31)) [(31, #[.bool false, .slice none 0 0])] := (Fr.nil W).alloc rfl _ _
  have HF := Lib.hid hf
  clear hf
  go_enter Tryz.func103, Tryz.ntmps103
  go_wp2_with fail
  refine (isNumeral_any xs _ (by omega)).mono ?_
  rintro e w1 ⟨rfl, rfl⟩
  cases hn : isNum xs with
  | false =>
    have HX := Lib.hid hn
    clear hn
    go_wp2
    exact bodyPost_ret (v := .tuple #[.agg #[.bool false, .slice none 0 0], .int .i64 4]) (by simp [results, Tryz.results103, go_sem]) rfl (.inr ⟨HX.out, rfl, HF.out.below⟩)
  | true =>
    have HX := Lib.hid hn
    clear hn
    go_wp2_with fail
    refine ((readNumeral_any xs _ hl HX.out).mono fun e w h => h.one).mono ?_
    rintro e w3 ⟨neg, fo, fl, fc, er, z', rfl, hz, hb3, hx⟩
    have HF3 := Lib.hid (HF.out.later hb3)
    have HZ := Lib.hid hz
    have HY := Lib.hid hx
    clear hb3 hz hx
    have g0 : w3.cell? ⟨W.heap.size, 0, none⟩ = some (.bool false) := HF3.out.cell 0 0 rfl rfl
    have g1 : w3.cell? ⟨W.heap.size, 1, none⟩ = some (.slice none 0 0) := HF3.out.cell 0 1 rfl rfl
    have g2 : w3.frozen? ⟨W.heap.size, 0, none⟩ = false := HF3.out.frozen 0 0 rfl
    have g3 : w3.frozen? ⟨W.heap.size, 1, none⟩ = false := HF3.out.frozen 0 1 rfl
    go_wp2
    obtain ⟨e0, e1, hz, hbel, _⟩ := HF3.out.finI (cap := fc) 0 rfl HZ.out
    exact bodyPost_ret (v := .tuple #[.agg #[.bool neg, .slice fo fl fc], .int .i64 er]) (by simp only [Nat.add_zero] at e0 e1; simp [results, Tryz.results103, go_sem, e0, e1]) rfl (.inl ⟨HX.out, OutF1.two ⟨neg, fo, fl, fc, er, z', rfl, hz, hbel, HY.out⟩⟩)
end Go.Proofs.YtbihgllfllkkaaaGreat

/- The specification: numeral, parse. -/
set_option linter.unusedVariables false
namespace Go.Proofs.YtbihgllfllkkaaaGreat
open Go.RowKit Go.Proofs

def numB (xs : List UInt8) : Bool := hasDigs xs && (decide (xs.length = 1) || decide (xs.head? ≠ some 48))

set_option maxHeartbeats 800000 in
theorem numeral16_any (xs : List UInt8) (w : World) (hl : xs.length ≤ 1000000000) :
    Calls Tryz.prog 74 #[.string ⟨xs.toArray⟩] w fun e w' => e = .returned (.bool (numB xs)) ∧ w = w' := by
  by_cases hz : xs.length = 0
  · have : xs = [] := List.eq_nil_of_length_eq_zero hz
    subst this
    go_enter Tryz.func74, Tryz.ntmps74
    go_wp2
    go_ret
    exact ⟨rfl, rfl⟩
  · obtain ⟨x, t, rfl⟩ : ∃ x t, xs = x :: t := by
      cases xs with
      | nil => simp at hz
      | cons x t => exact ⟨x, t, rfl⟩
    clear hz
    obtain ⟨xs, hxs⟩ : ∃ xs, xs = x :: t := ⟨_, rfl⟩
    rw [← hxs] at hl ⊢
    have hlen : xs.length = t.length + 1 := by rw [hxs]; rfl
    have h00 : 0 < xs.length := by omega
    have hx0 : xs[0]'h00 = x := by subst hxs; rfl
    have hhead : xs.head? = some x := by rw [hxs]; rfl
    have hs0 : 0 < (⟨xs.toArray⟩ : ByteArray).size := by rw [str_size]; exact h00
    have hc0 : ((⟨xs.toArray⟩ : ByteArray)[0]'hs0).toNat = x.toNat := congrArg UInt8.toNat hx0
    have HH := Lib.hid hhead
    clear hxs hhead hx0 hlen
    by_cases hbad : 1 < xs.length ∧ x.toNat = 48
    · have HE : Hid (numB xs = false) := by
        show _ = _
        unfold numB
        rw [HH.out, Bool.and_eq_false_iff]
        right
        have : x = 48 := UInt8.toNat_inj.1 hbad.2
        simp [this]
        omega
      have t1 : (1 : Int) < (xs.length : Int) := by omega
      have t0 : ¬ ((xs.length : Int) = 0) := by omega
      have t0b : ((xs.length : Int) == 0) = false := by simpa using t0
      have t0c : ¬ xs = [] := fun e => by rw [e] at h00; simp at h00
      have t2 : ((((⟨xs.toArray⟩ : ByteArray)[0]'hs0).toNat : Nat) : Int) = 48 := by rw [hc0]; omega
      have t3 : (((((⟨xs.toArray⟩ : ByteArray)[0]'hs0).toNat : Nat) : Int) == 48) = true := by rw [hc0, hbad.2]; rfl
      clear hbad hc0
      rw [HE.out]
      go_enter Tryz.func74, Tryz.ntmps74
      go_wp2
      go_ret
      exact ⟨rfl, rfl⟩
    · have HFA : Hid (hasDigs xs = false → numB xs = false) := fun h => by unfold numB; rw [h]; rfl
      have HTR : Hid (xs.all isDig = true → numB xs = true) := fun h => by
        unfold numB hasDigs
        rw [h, HH.out]
        have hne : xs ≠ [] := fun e => by rw [e] at h00; simp at h00
        by_cases h1 : xs.length = 1
        · simp [h1, hne]
        · have : x ≠ 48 := fun e => hbad ⟨by omega, by rw [e]; rfl⟩
          simp [hne, this]
      have t0 : ¬ ((xs.length : Int) = 0) := by omega
      have t0b : ((xs.length : Int) == 0) = false := by simpa using t0
      have t0c : ¬ xs = [] := fun e => by rw [e] at h00; simp at h00
      have hcase : xs.length = 1 ∨ (1 < xs.length ∧ x.toNat ≠ 48) := by omega
      clear hbad
      rcases hcase with h1 | ⟨h1, h2⟩
      · have t1 : ¬ (1 : Int) < (xs.length : Int) := by omega
        clear hc0
        go_enter Tryz.func74, Tryz.ntmps74
        go_wp2
        go_loop [3] (fun t => ∃ i : Nat, i ≤ xs.length ∧ t = .int .i64 i ∧ (xs.take i).all isDig = true) (fun t => xs.length - (intOf t).toNat)
        case atStart => exact ⟨0, by omega, rfl, by simp⟩
        case round =>
          obtain ⟨i, hi, rfl, hall⟩ := hrel
          have HA := Lib.hid hall
          clear hall
          by_cases hil : i < xs.length
          · have t1 : (i : Int) < (xs.length : Int) := by omega
            have hs : i < (⟨xs.toArray⟩ : ByteArray).size := by rw [str_size]; exact hil
            obtain ⟨c, hc⟩ : ∃ c : Nat, c = xs[i].toNat := ⟨_, rfl⟩
            have hc2 : ((⟨xs.toArray⟩ : ByteArray)[i]'hs).toNat = c := hc.symm
            have HC := Lib.hid hc
            clear hc
            by_cases h1 : c < 48
            · have t2 : ¬ (48 : Int) ≤ ((((⟨xs.toArray⟩ : ByteArray)[i]'hs).toNat : Nat) : Int) := by rw [hc2]; omega
              have HX : Hid (numB xs = false) := HFA.out (hasDigs_false hil (by unfold isDig; rw [← HC.out]; simp; omega))
              clear hc2
              go_wp2
              go_ret
              exact ⟨ret_bool HX.out.symm, rfl⟩
            · have t2 : (48 : Int) ≤ ((((⟨xs.toArray⟩ : ByteArray)[i]'hs).toNat : Nat) : Int) := by rw [hc2]; omega
              by_cases h2 : c ≤ 57
              · have t3 : ((((⟨xs.toArray⟩ : ByteArray)[i]'hs).toNat : Nat) : Int) ≤ 57 := by rw [hc2]; omega
                have HX : Hid (isDig xs[i] = true) := by show _ = _; unfold isDig; rw [← HC.out]; simp; omega
                clear hc2
                go_wp2
                go_round
                case rel => exact ⟨i + 1, by omega, by go_num, by first | exact all_take_succ hil HA.out HX.out | exact List.all_eq_true.1 (all_take_succ hil HA.out HX.out)⟩
                case measure => simp [intOf]; omega
              · have t3 : ¬ ((((⟨xs.toArray⟩ : ByteArray)[i]'hs).toNat : Nat) : Int) ≤ 57 := by rw [hc2]; omega
                have HX : Hid (numB xs = false) := HFA.out (hasDigs_false hil (by unfold isDig; rw [← HC.out]; simp; omega))
                clear hc2
                go_wp2
                go_ret
                exact ⟨ret_bool HX.out.symm, rfl⟩
          · have t1 : ¬ (i : Int) < (xs.length : Int) := by omega
            have HX : Hid (numB xs = true) := by
              show _ = _
              have := HA.out
              rw [List.take_of_length_le (by omega)] at this
              exact HTR.out this
            go_wp2
            go_ret
            exact ⟨ret_bool HX.out.symm, rfl⟩
      · have t1 : (1 : Int) < (xs.length : Int) := by omega
        have t2 : ¬ ((((⟨xs.toArray⟩ : ByteArray)[0]'hs0).toNat : Nat) : Int) = 48 := by rw [hc0]; omega
        clear hc0 h2
        go_enter Tryz.func74, Tryz.ntmps74
        go_wp2
        go_loop [3] (fun t => ∃ i : Nat, i ≤ xs.length ∧ t = .int .i64 i ∧ (xs.take i).all isDig = true) (fun t => xs.length - (intOf t).toNat)
        case atStart => exact ⟨0, by omega, rfl, by simp⟩
        case round =>
          obtain ⟨i, hi, rfl, hall⟩ := hrel
          have HA := Lib.hid hall
          clear hall
          by_cases hil : i < xs.length
          · have t1 : (i : Int) < (xs.length : Int) := by omega
            have hs : i < (⟨xs.toArray⟩ : ByteArray).size := by rw [str_size]; exact hil
            obtain ⟨c, hc⟩ : ∃ c : Nat, c = xs[i].toNat := ⟨_, rfl⟩
            have hc2 : ((⟨xs.toArray⟩ : ByteArray)[i]'hs).toNat = c := hc.symm
            have HC := Lib.hid hc
            clear hc
            by_cases h1 : c < 48
            · have t2 : ¬ (48 : Int) ≤ ((((⟨xs.toArray⟩ : ByteArray)[i]'hs).toNat : Nat) : Int) := by rw [hc2]; omega
              have HX : Hid (numB xs = false) := HFA.out (hasDigs_false hil (by unfold isDig; rw [← HC.out]; simp; omega))
              clear hc2
              go_wp2
              go_ret
              exact ⟨ret_bool HX.out.symm, rfl⟩
            · have t2 : (48 : Int) ≤ ((((⟨xs.toArray⟩ : ByteArray)[i]'hs).toNat : Nat) : Int) := by rw [hc2]; omega
              by_cases h2 : c ≤ 57
              · have t3 : ((((⟨xs.toArray⟩ : ByteArray)[i]'hs).toNat : Nat) : Int) ≤ 57 := by rw [hc2]; omega
                have HX : Hid (isDig xs[i] = true) := by show _ = _; unfold isDig; rw [← HC.out]; simp; omega
                clear hc2
                go_wp2
                go_round
                case rel => exact ⟨i + 1, by omega, by go_num, by first | exact all_take_succ hil HA.out HX.out | exact List.all_eq_true.1 (all_take_succ hil HA.out HX.out)⟩
                case measure => simp [intOf]; omega
              · have t3 : ¬ ((((⟨xs.toArray⟩ : ByteArray)[i]'hs).toNat : Nat) : Int) ≤ 57 := by rw [hc2]; omega
                have HX : Hid (numB xs = false) := HFA.out (hasDigs_false hil (by unfold isDig; rw [← HC.out]; simp; omega))
                clear hc2
                go_wp2
                go_ret
                exact ⟨ret_bool HX.out.symm, rfl⟩
          · have t1 : ¬ (i : Int) < (xs.length : Int) := by omega
            have HX : Hid (numB xs = true) := by
              show _ = _
              have := HA.out
              rw [List.take_of_length_le (by omega)] at this
              exact HTR.out this
            go_wp2
            go_ret
            exact ⟨ret_bool HX.out.symm, rfl⟩
end Go.Proofs.YtbihgllfllkkaaaGreat

/- The specification: parse. -/
set_option linter.unusedVariables false
namespace Go.Proofs.YtbihgllfllkkaaaGreat
open Go.RowKit Go.Proofs

def ParRel (xs : List UInt8) (W : World) (av iv : Value) (wr : World) : Prop :=
  ∃ (ao : Option Addr) (n cap i : Nat), av = .slice ao n cap ∧ iv = .int .i64 (i : Int) ∧ i ≤ xs.length ∧ n ≤ cap ∧ cap ≤ 9223372036854775807 ∧ N16 wr ao n (dec (xs.take i)) ∧ Below W.heap.size W wr

def ParIn (la d : Nat) (xa : List Nat) (W : World) (cv ov kv : Value) (wr : World) : Prop :=
  ∃ (c k : Nat) (zs : List Nat), cv = .int .i64 (c : Int) ∧ kv = .int .i64 (k : Int) ∧ Own .i64 wr W.heap.size 3 ov k zs ∧ Dig B16 zs ∧ c ≤ 10 ∧ k ≤ la + 1 ∧
    val B16 zs + c * B16 ^ k = d + 10 * val B16 (xa.take k) ∧ (la < k → c = 0 ∧ B16 ^ (k - 1) ≤ val B16 zs) ∧ Below W.heap.size W wr

theorem par_in {la d k c x : Nat} {xa zs : List Nat} {W wr w2 : World} {v' : Value} (hlz : zs.length = k) (hd : Dig B16 zs) (hc : c ≤ 10) (hk : k ≤ la) (hla : xa.length = la) (hx : x = xa[k]?.getD 0) (hxb : x < B16) (hgo : k < la ∨ 0 < c)
    (hv : val B16 zs + c * B16 ^ k = d + 10 * val B16 (xa.take k)) (hb : Below W.heap.size W wr) (ho : Own .i64 w2 W.heap.size 3 v' (k + 1) (zs ++ [(c + 10 * x) % B16])) (hb2 : Below W.heap.size wr w2)
    (C K : Int) (hC : C = (((c + 10 * x) / B16 : Nat) : Int)) (hK : K = (k : Int) + 1) : ParIn la d xa W (.int .i64 C) v' (.int .i64 K) w2 := by
  rw [B16_eq] at hxb
  have e := Nat.mod_add_div (c + 10 * x) B16
  refine ⟨(c + 10 * x) / B16, k + 1, zs ++ [(c + 10 * x) % B16], by rw [hC], by rw [hK]; rfl, ho, hd.append (Dig.cons (Nat.mod_lt _ B16_pos) (Dig.nil _)), by rw [B16_eq]; omega, by omega, ?_, ?_, hb.trans hb2⟩
  · rw [val_snoc, hlz, val_take_succ, ← hx, Nat.pow_succ]
    generalize (c + 10 * x) % B16 = r at *
    generalize (c + 10 * x) / B16 = q at *
    generalize B16 ^ k = p at *
    grind
  · intro h1
    have hx0 : x = 0 := by rw [hx, List.getElem?_eq_none (by omega)]; rfl
    subst hx0
    have hc0 : 0 < c := by omega
    refine ⟨by rw [B16_eq]; omega, ?_⟩
    rw [val_snoc, hlz]
    have : (c + 10 * 0) % B16 = c := by rw [B16_eq]; omega
    rw [this, Nat.add_sub_cancel]
    have : B16 ^ k * 1 ≤ B16 ^ k * c := Nat.mul_le_mul_left _ hc0
    omega

theorem par_top {la d k m : Nat} {xa zs : List Nat} (hlz : zs.length = k) (hd : Dig B16 zs) (hta : Top xa) (hla : xa.length = la) (hm : val B16 xa = m) (hk : la ≤ k) (hv : val B16 zs = d + 10 * m) (ht : la < k → B16 ^ (k - 1) ≤ val B16 zs) : Top zs := by
  refine top_of_ge B16_pos hd (fun hne => ?_)
  rw [hlz]
  by_cases h : la < k
  · exact ht h
  · have hk2 : k = la := by omega
    have hne2 : xa ≠ [] := fun e => by
      rw [e] at hla
      simp at hla
      exact hne (List.eq_nil_of_length_eq_zero (by omega))
    have := val_ge (B := B16) hta hne2
    rw [hla, hm] at this
    rw [hv, hk2]
    omega

/-- what parse answers -/
def Parse16Post (xs : List UInt8) (W : World) (e : Ending) (w' : World) : Prop :=
  ∃ ao len cap er, e = .returned (.tuple #[.slice ao len cap, .int .i64 er]) ∧ len ≤ cap ∧ cap ≤ 9223372036854775807 ∧ Below W.heap.size W w' ∧
    ((numB xs = false ∧ er = 4) ∨ (numB xs = true ∧ (5000 < xs.length ∨ 16384 < blen (dec xs)) ∧ er = 3) ∨
      (numB xs = true ∧ xs.length ≤ 5000 ∧ blen (dec xs) ≤ 16384 ∧ er = 0 ∧ N16 w' ao len (dec xs)))

theorem numB_digits {xs : List UInt8} (h : numB xs = true) : xs.all isDig = true := by
  unfold numB hasDigs at h
  simp only [Bool.and_eq_true] at h
  exact h.1.1

set_option maxHeartbeats 2000000 in
theorem parse16_any (xs : List UInt8) (W : World) (hl : xs.length ≤ 1000000000) :
    Calls Tryz.prog 125 #[.string ⟨xs.toArray⟩] W (Parse16Post xs W) := by
  cases hn : numB xs with
  | false =>
    have HX := Lib.hid hn
    go_enter Tryz.func125, Tryz.ntmps125
    go_wp2_with fail
    refine (numeral16_any xs _ hl).mono ?_
    rw [hn]
    rintro e w1 ⟨rfl, rfl⟩
    clear hn
    go_wp2
    go_ret2
    exact ⟨none, 0, 0, 4, rfl, by omega, by omega, Below.refl _ _, .inl ⟨HX.out, rfl⟩⟩
  | true =>
    have HX := Lib.hid hn
    have HDG := Lib.hid (numB_digits hn)
    by_cases hlong : 5000 < xs.length
    · have t1 : (5000 : Int) < (xs.length : Int) := by omega
      have HLG := Lib.hid hlong
      clear hlong
      go_enter Tryz.func125, Tryz.ntmps125
      go_wp2_with fail
      refine (numeral16_any xs _ hl).mono ?_
      rw [hn]
      rintro e w1 ⟨rfl, rfl⟩
      clear hn
      go_wp2
      go_ret2
      exact ⟨none, 0, 0, 3, rfl, by omega, by omega, Below.refl _ _, .inr (.inl ⟨HX.out, .inl HLG.out, rfl⟩)⟩
    · have t1 : ¬ (5000 : Int) < (xs.length : Int) := by omega
      have hl5 : xs.length ≤ 5000 := by omega
      clear hlong
      go_enter Tryz.func125, Tryz.ntmps125
      go_wp2_with fail
      refine (numeral16_any xs _ hl).mono ?_
      rw [hn]
      rintro e w1 ⟨rfl, rfl⟩
      clear hn
      go_wp2
      go_loopw [4, 5] (fun av iv wr => ParRel xs W av iv wr) (fun _ iv _ => xs.length - (intOf iv).toNat)
      case atStart => exact ⟨none, 0, 0, 0, rfl, rfl, by omega, by omega, by omega, N16.nil _ _, Below.refl _ _⟩
      case round =>
        obtain ⟨ao, la, ca, i, rfl, rfl, hi, hlc, hcm, hna, hbel⟩ := hrel
        obtain ⟨W1, rfl⟩ : ∃ w, w = wr := ⟨wr, rfl⟩
        have hall : (xs.take i).all isDig = true := by
          have h := HDG.out
          rw [← List.take_append_drop i xs, List.all_append, Bool.and_eq_true] at h
          exact h.1
        have hla5 : la ≤ 5000 := by
          have h1 := dec_lt hall
          rw [List.length_take, Nat.min_eq_left hi] at h1
          exact Nat.le_trans (hna.len_le (Nat.lt_of_lt_of_le h1 (Nat.pow_le_pow_left (by decide) _))) (by omega)
        obtain ⟨xa, hxa, hda, hta, hva⟩ := hna
        have HA := Lib.hid hxa
        have HDA := Lib.hid hda
        have HTA := Lib.hid hta
        have HVA := Lib.hid hva
        have HB := Lib.hid hbel
        clear hxa hda hta hva hbel hall
        by_cases hil : i = xs.length
        · have t2 : ¬ (i : Int) < (xs.length : Int) := by omega
          have hE : N16 W1 ao la (dec xs) := ⟨xa, HA.out, HDA.out, HTA.out, by rw [HVA.out, hil, List.take_length]⟩
          have HN := Lib.hid hE
          clear hE hil
          go_wp2_with fail
          refine (bitLen16_raw _ _ _ _ _ HN.out (by omega)).mono ?_
          rintro e w2 ⟨rfl, rfl⟩
          obtain ⟨k, hk⟩ : ∃ k, k = blen (dec xs) := ⟨_, rfl⟩
          rw [← hk]
          have HK := Lib.hid hk
          clear hk
          by_cases hfit : k ≤ 16384
          · have t3 : ¬ (16384 : Int) < (k : Int) := by omega
            go_wp2
            go_ret2
            exact ⟨ao, la, ca, 0, rfl, hlc, hcm, HB.out, .inr (.inr ⟨HX.out, hl5, by rw [← HK.out]; exact hfit, rfl, HN.out⟩)⟩
          · have t3 : (16384 : Int) < (k : Int) := by omega
            go_wp2
            go_ret2
            exact ⟨none, 0, 0, 3, rfl, by omega, by omega, HB.out, .inr (.inl ⟨HX.out, .inr (by rw [← HK.out]; omega), rfl⟩)⟩
        · have hiy : i < xs.length := by omega
          have t2 : (i : Int) < (xs.length : Int) := by omega
          have hss : i < (⟨xs.toArray⟩ : ByteArray).size := by rw [str_size]; exact hiy
          have hdg : isDig xs[i] = true := List.all_eq_true.1 HDG.out _ (List.getElem_mem hiy)
          have hdg2 : 48 ≤ xs[i].toNat ∧ xs[i].toNat ≤ 57 := by simpa [isDig] using hdg
          obtain ⟨c0, hc⟩ : ∃ c : Nat, c = xs[i].toNat := ⟨_, rfl⟩
          have hc2 : ((⟨xs.toArray⟩ : ByteArray)[i]'hss).toNat = c0 := hc.symm
          rw [← hc] at hdg2
          obtain ⟨m, hm⟩ : ∃ m, m = dec (xs.take i) := ⟨_, rfl⟩
          have HN : Hid (dec (xs.take (i + 1)) = 10 * m + (c0 - 48)) := by show _ = _; rw [dec_take_succ hiy, ← hm, ← hc]
          have HM : Hid (val B16 xa = m) := by show _ = _; rw [HVA.out, hm]
          have t4 : (48 : Int) ≤ ((((⟨xs.toArray⟩ : ByteArray)[i]'hss).toNat : Nat) : Int) := by rw [hc2]; omega
          have t5 : ((((⟨xs.toArray⟩ : ByteArray)[i]'hss).toNat : Nat) : Int) ≤ 57 := by rw [hc2]; omega
          have HC2 := Lib.hid hc2
          clear hm hdg hc hc2 hil
          obtain ⟨d, hd⟩ : ∃ d, d = c0 - 48 := ⟨_, rfl⟩
          have hd9 : d ≤ 9 := by omega
          have hcd : c0 = d + 48 := by omega
          subst hcd
          clear hd hdg2
          rw [Nat.add_sub_cancel] at HN
          go_wp2_with fail
          go_loopw [6, 7, 8] (fun cv ov kv w2 => ParIn la d xa W1 cv ov kv w2) (fun _ _ kv _ => la + 2 - (intOf kv).toNat)
          case atStart => exact ⟨d, 0, [], by rw [HC2.out]; exact congrArg (Value.int _) (by omega), rfl, Own.nil _ _ _ _, Dig.nil _, by omega, by omega, by simp [val], fun h => by omega, Below.refl _ _⟩
          case round =>
            obtain ⟨c, k, zs, rfl, rfl, hown, hdz, hc10, hk, hv, htop, hbel⟩ := hrel
            have GO := Lib.hid hown
            have GD := Lib.hid hdz
            have GV := Lib.hid hv
            have GT := Lib.hid htop
            have GW := Lib.hid hbel
            clear hown hdz hv htop hbel
            by_cases hgo : k < la ∨ 0 < c
            · have hkl : k ≤ la := by
                rcases Nat.lt_or_ge la k with h | h
                · have := (GT.out h).1
                  omega
                · exact h
              have hx := HDA.out.get B16_pos k
              obtain ⟨x, hxe⟩ : ∃ x, x = xa[k]?.getD 0 := ⟨_, rfl⟩
              rw [← hxe] at hx
              have HXB := Lib.hid hx
              rw [B16_eq] at hx
              have HXE := Lib.hid hxe
              have HAr := Lib.hid (HA.out.keep GW.out)
              clear hxe
              have hrest : k < la ∨ (¬ k < la ∧ 0 < c) := by omega
              rcases hrest with h1 | ⟨h1, h3⟩
              · have t6 : (k : Int) < (la : Int) := by omega
                go_wp2_with fail
                refine (at_any _ _ _ xa _ k _ HAr.out rfl).mono ?_
                rw [← HXE.out]
                rintro e w1 ⟨rfl, rfl⟩
                go_wp2_with (at_builtin; refine wpList_app rfl _ _ 25 rfl W1.heap.size 3 .i64 8 Tryz.underlying25 (by kernel_rfl) _ k zs rfl GO.out _ ((c + 10 * x) % B16) rfl (by rw [B16_eq]; omega) (by omega) (by omega) GW.out.size ?_; intro v' w2 hown' hbel')
                go_roundw
                case rel => exact par_in GO.out.len GD.out hc10 hkl HA.out.len HXE.out HXB.out hgo GV.out GW.out hown' hbel' _ _ (by rw [B16_eq]; omega) rfl
                case measure => simp only [intOf]; omega
              · have t6 : ¬ (k : Int) < (la : Int) := by omega
                have t7 : (0 : Int) < (c : Int) := by omega
                go_wp2_with fail
                refine (at_any _ _ _ xa _ k _ HAr.out rfl).mono ?_
                rw [← HXE.out]
                rintro e w1 ⟨rfl, rfl⟩
                go_wp2_with (at_builtin; refine wpList_app rfl _ _ 25 rfl W1.heap.size 3 .i64 8 Tryz.underlying25 (by kernel_rfl) _ k zs rfl GO.out _ ((c + 10 * x) % B16) rfl (by rw [B16_eq]; omega) (by omega) (by omega) GW.out.size ?_; intro v' w2 hown' hbel')
                go_roundw
                case rel => exact par_in GO.out.len GD.out hc10 hkl HA.out.len HXE.out HXB.out hgo GV.out GW.out hown' hbel' _ _ (by rw [B16_eq]; omega) rfl
                case measure => simp only [intOf]; omega
            · have t6 : ¬ (k : Int) < (la : Int) := by omega
              obtain rfl : c = 0 := by omega
              obtain ⟨oo, cap, rfl, hlc2, hcm2, hsl⟩ := GO.out.sl
              have HS := Lib.hid hsl
              have hval : val B16 zs = d + 10 * m := by
                have h := GV.out
                rw [List.take_of_length_le (l := xa) (by rw [HA.out.len]; omega), HM.out] at h
                omega
              have HVZ := Lib.hid hval
              have hla2 : la ≤ k := by omega
              clear hsl hval hgo
              go_wp2
              go_roundw
              case rel => exact ⟨oo, k, cap, i + 1, rfl, by go_num, by omega, hlc2, hcm2, ⟨zs, HS.out, GD.out, par_top GO.out.len GD.out HTA.out HA.out.len HM.out hla2 HVZ.out (fun h => (GT.out h).2), by rw [HVZ.out, HN.out]; omega⟩, HB.out.trans (GW.out.mono HB.out.size)⟩
              case measure => simp only [intOf]; omega
end Go.Proofs.YtbihgllfllkkaaaGreat

/- The specification: Parse, Fits. -/
set_option linter.unusedVariables false
namespace Go.Proofs.YtbihgllfllkkaaaGreat
open Go.RowKit Go.Proofs

theorem numB_eq (ys : List UInt8) : numB ys = (decide (ys = [48]) || isPos ys) := by
  by_cases h : ys = [48]
  · subst h; rfl
  · rw [decide_eq_false h, Bool.false_or]
    unfold numB isPos
    cases hd : hasDigs ys with
    | false => rfl
    | true =>
      rw [Bool.true_and, Bool.true_and]
      cases ys with
      | nil => rfl
      | cons x t =>
        by_cases hx : x = 48
        · subst hx
          have : t ≠ [] := fun e => h (by rw [e])
          have h2 : t.length ≠ 0 := fun e => this (List.eq_nil_of_length_eq_zero e)
          simp [this]
        · simp [hx]

/-- what the specification's Parse answers -/
def ParseJ (xs : List UInt8) (W : World) (e : Ending) (w' : World) : Prop :=
  ∃ neg ao len cap er, e = .returned (.tuple #[.agg #[.bool neg, .slice ao len cap], .int .i64 er]) ∧ Below W.heap.size W w' ∧
    ((isNum xs = false ∧ er = 4) ∨ (isNum xs = true ∧ ¬ Fits (numZ xs) ∧ er = 3) ∨
      (isNum xs = true ∧ Fits (numZ xs) ∧ er = 0 ∧ len ≤ cap ∧ cap ≤ 9223372036854775807 ∧ Z16 w' neg ao len (numZ xs)))

theorem Z16.nil (w : World) : Z16 w false none 0 0 := ⟨0, N16.nil _ _, rfl, by simp⟩

/-- behind the sign: the digits ys are parsed -/
theorem parse_tail {xs ys : List UInt8} {s : Bool} (hz : numZ xs = sgn s (dec ys)) (hb : bare xs = ys) (hnum : isNum xs = numB ys) {er : Int} {w' : World} {ao : Option Addr} {len : Nat}
    (h : (numB ys = false ∧ er = 4) ∨ (numB ys = true ∧ (5000 < ys.length ∨ 16384 < blen (dec ys)) ∧ er = 3) ∨
      (numB ys = true ∧ ys.length ≤ 5000 ∧ blen (dec ys) ≤ 16384 ∧ er = 0 ∧ N16 w' ao len (dec ys))) :
    (isNum xs = false ∧ er = 4) ∨ (isNum xs = true ∧ ¬ Fits (numZ xs) ∧ er = 3) ∨ (isNum xs = true ∧ Fits (numZ xs) ∧ er = 0 ∧ N16 w' ao len (dec ys)) := by
  have hf : Fits (numZ xs) ↔ blen (dec ys) ≤ 16384 := by unfold Fits; rw [hz, sgn_natAbs]
  rcases h with ⟨h1, h2⟩ | ⟨h1, h2, h3⟩ | ⟨h1, h2, h3, h4, h5⟩
  · exact .inl ⟨by rw [hnum, h1], h2⟩
  · refine .inr (.inl ⟨by rw [hnum, h1], ?_, h3⟩)
    rcases h2 with h2 | h2
    · exact isNum_long (by rw [hnum, h1]) (by rw [hb]; omega)
    · rw [hf]; omega
  · exact .inr (.inr ⟨by rw [hnum, h1], hf.2 h3, h4, h5⟩)

set_option maxHeartbeats 2000000 in
theorem refParse_plain (xs : List UInt8) (W : World) (hl : xs.length ≤ 1000000000) (hp : Lib.hasPrefix xs [45] = false) :
    Calls Tryz.prog 73 #[.string ⟨xs.toArray⟩] W (ParseJ xs W) := by
  have hf : Fr W (W.alloc (.cells #[.bool false, .slice none 0 0] 27)) [(27, #[.bool false, .slice none 0 0])] := (Fr.nil W).alloc rfl _ _
  have HF := Lib.hid hf
  have hb : bare xs = xs := by unfold bare Lib.trimPrefix; rw [hp]; rfl
  have HB := Lib.hid hb
  have HZ : Hid (numZ xs = sgn false (dec xs)) := by show _ = _; unfold numZ; rw [hp, hb]
  have HNUM : Hid (isNum xs = numB xs) := by show _ = _; rw [numB_eq]; unfold isNum; unfold bare at hb; rw [hb]
  clear hf hb
  cases xs with
  | nil =>
    clear hp
    go_enter Tryz.func73, Tryz.ntmps73
    go_wp2_with fail
    refine (parse16_any [] _ (by simp at *; try omega)).mono ?_
    rintro e w1 ⟨ao, len, cap, er, rfl, hlc, hcm, hb1, hc⟩
    have HF1 := Lib.hid (HF.out.later hb1)
    have g0 : w1.cell? ⟨W.heap.size, 0, none⟩ = some (.bool false) := HF1.out.cell 0 0 rfl rfl
    have g1 : w1.cell? ⟨W.heap.size, 1, none⟩ = some (.slice none 0 0) := HF1.out.cell 0 1 rfl rfl
    have g2 : w1.frozen? ⟨W.heap.size, 0, none⟩ = false := HF1.out.frozen 0 0 rfl
    have g3 : w1.frozen? ⟨W.heap.size, 1, none⟩ = false := HF1.out.frozen 0 1 rfl
    rcases parse_tail HZ.out HB.out HNUM.out hc with ⟨h1, rfl⟩ | ⟨h1, h2, rfl⟩ | ⟨h1, h2, rfl, h3⟩
    · have HX := Lib.hid h1
      clear hb1 hc h1
      go_wp2
      obtain ⟨e0, e1, hz, hbel, _⟩ := HF1.out.finJ (cap := 0) 0 rfl (Z16.nil _)
      exact bodyPost_ret (v := .tuple #[.agg #[.bool false, .slice none 0 0], .int .i64 4]) (by simp only [Nat.add_zero] at e0 e1; simp [results, Tryz.results73, go_sem, e0, e1]) rfl ⟨false, none, 0, 0, 4, rfl, hbel, .inl ⟨HX.out, rfl⟩⟩
    · have HX := Lib.hid h1
      have HX2 := Lib.hid h2
      clear hb1 hc h1 h2
      go_wp2
      obtain ⟨e0, e1, hz, hbel, _⟩ := HF1.out.finJ (cap := 0) 0 rfl (Z16.nil _)
      exact bodyPost_ret (v := .tuple #[.agg #[.bool false, .slice none 0 0], .int .i64 3]) (by simp only [Nat.add_zero] at e0 e1; simp [results, Tryz.results73, go_sem, e0, e1]) rfl ⟨false, none, 0, 0, 3, rfl, hbel, .inr (.inl ⟨HX.out, HX2.out, rfl⟩)⟩
    · have HX := Lib.hid h1
      have HX2 := Lib.hid h2
      have HN := Lib.hid h3
      clear hb1 hc h1 h2 h3 g0 g1 g2 g3
      go_wp2_with fail
      refine (made_any false _ _ _ (dec []) _ HN.out hlc hcm).mono ?_
      rintro e w2 ⟨neg, uo, ul, uc, rfl, huc, hum, hz2, hb2⟩
      have HF2 := Lib.hid (HF1.out.later hb2)
      rw [← HZ.out] at hz2
      have HZ2 := Lib.hid hz2
      clear hz2 hb2
      have g0 : w2.cell? ⟨W.heap.size, 0, none⟩ = some (.bool false) := HF2.out.cell 0 0 rfl rfl
      have g1 : w2.cell? ⟨W.heap.size, 1, none⟩ = some (.slice none 0 0) := HF2.out.cell 0 1 rfl rfl
      have g2 : w2.frozen? ⟨W.heap.size, 0, none⟩ = false := HF2.out.frozen 0 0 rfl
      have g3 : w2.frozen? ⟨W.heap.size, 1, none⟩ = false := HF2.out.frozen 0 1 rfl
      go_wp2
      obtain ⟨e0, e1, hz, hbel, _⟩ := HF2.out.finJ (cap := uc) 0 rfl HZ2.out
      exact bodyPost_ret (v := .tuple #[.agg #[.bool neg, .slice uo ul uc], .int .i64 0]) (by simp only [Nat.add_zero] at e0 e1; simp [results, Tryz.results73, go_sem, e0, e1]) rfl ⟨neg, uo, ul, uc, 0, rfl, hbel, .inr (.inr ⟨HX.out, HX2.out, rfl, huc, hum, hz⟩)⟩
  | cons x t =>
    have hx : x ≠ 45 := fun e => by subst e; simp [Lib.hasPrefix] at hp
    obtain ⟨xs, hxs⟩ : ∃ xs, xs = x :: t := ⟨_, rfl⟩
    rw [← hxs] at hl HB HZ HNUM ⊢
    have h00 : 0 < xs.length := by rw [hxs]; simp
    have hx0 : xs[0]'h00 = x := by subst hxs; rfl
    have hs0 : 0 < (⟨xs.toArray⟩ : ByteArray).size := by rw [str_size]; exact h00
    have hc0 : ((⟨xs.toArray⟩ : ByteArray)[0]'hs0).toNat = x.toNat := congrArg UInt8.toNat hx0
    have hxn : x.toNat ≠ 45 := fun e => hx (UInt8.toNat_inj.1 e)
    have t0 : (0 : Int) < (xs.length : Int) := by omega
    have t2 : ¬ ((((⟨xs.toArray⟩ : ByteArray)[0]'hs0).toNat : Nat) : Int) = 45 := by rw [hc0]; omega
    have t3 : (((((⟨xs.toArray⟩ : ByteArray)[0]'hs0).toNat : Nat) : Int) == 45) = false := by rw [hc0]; simp; omega
    clear hp hx hxs hx0 hc0 hxn
    go_enter Tryz.func73, Tryz.ntmps73
    go_wp2_with fail
    refine (parse16_any xs _ (by simp at *; try omega)).mono ?_
    rintro e w1 ⟨ao, len, cap, er, rfl, hlc, hcm, hb1, hc⟩
    have HF1 := Lib.hid (HF.out.later hb1)
    have g0 : w1.cell? ⟨W.heap.size, 0, none⟩ = some (.bool false) := HF1.out.cell 0 0 rfl rfl
    have g1 : w1.cell? ⟨W.heap.size, 1, none⟩ = some (.slice none 0 0) := HF1.out.cell 0 1 rfl rfl
    have g2 : w1.frozen? ⟨W.heap.size, 0, none⟩ = false := HF1.out.frozen 0 0 rfl
    have g3 : w1.frozen? ⟨W.heap.size, 1, none⟩ = false := HF1.out.frozen 0 1 rfl
    rcases parse_tail HZ.out HB.out HNUM.out hc with ⟨h1, rfl⟩ | ⟨h1, h2, rfl⟩ | ⟨h1, h2, rfl, h3⟩
    · have HX := Lib.hid h1
      clear hb1 hc h1
      go_wp2
      obtain ⟨e0, e1, hz, hbel, _⟩ := HF1.out.finJ (cap := 0) 0 rfl (Z16.nil _)
      exact bodyPost_ret (v := .tuple #[.agg #[.bool false, .slice none 0 0], .int .i64 4]) (by simp only [Nat.add_zero] at e0 e1; simp [results, Tryz.results73, go_sem, e0, e1]) rfl ⟨false, none, 0, 0, 4, rfl, hbel, .inl ⟨HX.out, rfl⟩⟩
    · have HX := Lib.hid h1
      have HX2 := Lib.hid h2
      clear hb1 hc h1 h2
      go_wp2
      obtain ⟨e0, e1, hz, hbel, _⟩ := HF1.out.finJ (cap := 0) 0 rfl (Z16.nil _)
      exact bodyPost_ret (v := .tuple #[.agg #[.bool false, .slice none 0 0], .int .i64 3]) (by simp only [Nat.add_zero] at e0 e1; simp [results, Tryz.results73, go_sem, e0, e1]) rfl ⟨false, none, 0, 0, 3, rfl, hbel, .inr (.inl ⟨HX.out, HX2.out, rfl⟩)⟩
    · have HX := Lib.hid h1
      have HX2 := Lib.hid h2
      have HN := Lib.hid h3
      clear hb1 hc h1 h2 h3 g0 g1 g2 g3
      go_wp2_with fail
      refine (made_any false _ _ _ (dec xs) _ HN.out hlc hcm).mono ?_
      rintro e w2 ⟨neg, uo, ul, uc, rfl, huc, hum, hz2, hb2⟩
      have HF2 := Lib.hid (HF1.out.later hb2)
      rw [← HZ.out] at hz2
      have HZ2 := Lib.hid hz2
      clear hz2 hb2
      have g0 : w2.cell? ⟨W.heap.size, 0, none⟩ = some (.bool false) := HF2.out.cell 0 0 rfl rfl
      have g1 : w2.cell? ⟨W.heap.size, 1, none⟩ = some (.slice none 0 0) := HF2.out.cell 0 1 rfl rfl
      have g2 : w2.frozen? ⟨W.heap.size, 0, none⟩ = false := HF2.out.frozen 0 0 rfl
      have g3 : w2.frozen? ⟨W.heap.size, 1, none⟩ = false := HF2.out.frozen 0 1 rfl
      go_wp2
      obtain ⟨e0, e1, hz, hbel, _⟩ := HF2.out.finJ (cap := uc) 0 rfl HZ2.out
      exact bodyPost_ret (v := .tuple #[.agg #[.bool neg, .slice uo ul uc], .int .i64 0]) (by simp only [Nat.add_zero] at e0 e1; simp [results, Tryz.results73, go_sem, e0, e1]) rfl ⟨neg, uo, ul, uc, 0, rfl, hbel, .inr (.inr ⟨HX.out, HX2.out, rfl, huc, hum, hz⟩)⟩

set_option maxHeartbeats 2000000 in
theorem refParse_minus (t : List UInt8) (W : World) (hl : t.length ≤ 100000000) :
    Calls Tryz.prog 73 #[.string ⟨(45 :: t).toArray⟩] W (ParseJ (45 :: t) W) := by
  have hf : Fr W (W.alloc (.cells #[.bool false, .slice none 0 0] 27)) [(27, #[.bool false, .slice none 0 0])] := (Fr.nil W).alloc rfl _ _
  have HF := Lib.hid hf
  have hb : bare (45 :: t) = t := by unfold bare Lib.trimPrefix; simp [Lib.hasPrefix]
  have HB := Lib.hid hb
  have HZ : Hid (numZ (45 :: t) = sgn true (dec t)) := by show _ = _; unfold numZ; rw [hb]; simp [Lib.hasPrefix]
  have hn2 : isNum (45 :: t) = isPos t := by unfold isNum; unfold bare at hb; rw [hb]; simp
  obtain ⟨xs, hxs⟩ : ∃ xs, xs = 45 :: t := ⟨_, rfl⟩
  rw [← hxs] at HB HZ hn2 ⊢
  have h00 : 0 < xs.length := by rw [hxs]; simp
  have hx0 : xs[0]'h00 = 45 := by subst hxs; rfl
  have hs0 : 0 < (⟨xs.toArray⟩ : ByteArray).size := by rw [str_size]; exact h00
  have hc0 : ((⟨xs.toArray⟩ : ByteArray)[0]'hs0).toNat = 45 := congrArg UInt8.toNat hx0
  have t0 : (0 : Int) < (xs.length : Int) := by omega
  have t2 : ((((⟨xs.toArray⟩ : ByteArray)[0]'hs0).toNat : Nat) : Int) = 45 := by rw [hc0]; rfl
  have t3 : (((((⟨xs.toArray⟩ : ByteArray)[0]'hs0).toNat : Nat) : Int) == 45) = true := by rw [hc0]; rfl
  have t4 : (⟨xs.toArray⟩ : ByteArray).extract 1 xs.length = ⟨t.toArray⟩ := by rw [str_drop, hxs]; rfl
  have hxl : xs.length ≤ 1000000000 := by rw [hxs]; simp; omega
  have t5 : (1 : Int) ≤ (xs.length : Int) := by omega
  clear hf hb hxs hx0 hc0
  by_cases ht : t = [48]
  · have HX : Hid (isNum xs = false) := by show _ = _; rw [hn2, ht]; rfl
    clear hn2
    go_enter Tryz.func73, Tryz.ntmps73
    go_wp2
    exact bodyPost_ret (v := .tuple #[.agg #[.bool false, .slice none 0 0], .int .i64 4]) (by simp [results, Tryz.results73, go_sem]) rfl ⟨false, none, 0, 0, 4, rfl, HF.out.below, .inl ⟨HX.out, rfl⟩⟩
  · have HNUM : Hid (isNum xs = numB t) := by show _ = _; rw [hn2, numB_eq, decide_eq_false ht, Bool.false_or]
    have ht2 : (t == [48]) = false := by simpa using ht
    clear hn2
    go_enter Tryz.func73, Tryz.ntmps73
    go_wp2_with fail
    refine (parse16_any t _ (by simp at *; try omega)).mono ?_
    rintro e w1 ⟨ao, len, cap, er, rfl, hlc, hcm, hb1, hc⟩
    have HF1 := Lib.hid (HF.out.later hb1)
    have g0 : w1.cell? ⟨W.heap.size, 0, none⟩ = some (.bool false) := HF1.out.cell 0 0 rfl rfl
    have g1 : w1.cell? ⟨W.heap.size, 1, none⟩ = some (.slice none 0 0) := HF1.out.cell 0 1 rfl rfl
    have g2 : w1.frozen? ⟨W.heap.size, 0, none⟩ = false := HF1.out.frozen 0 0 rfl
    have g3 : w1.frozen? ⟨W.heap.size, 1, none⟩ = false := HF1.out.frozen 0 1 rfl
    rcases parse_tail HZ.out HB.out HNUM.out hc with ⟨h1, rfl⟩ | ⟨h1, h2, rfl⟩ | ⟨h1, h2, rfl, h3⟩
    · have HX := Lib.hid h1
      clear hb1 hc h1
      go_wp2
      obtain ⟨e0, e1, hz, hbel, _⟩ := HF1.out.finJ (cap := 0) 0 rfl (Z16.nil _)
      exact bodyPost_ret (v := .tuple #[.agg #[.bool false, .slice none 0 0], .int .i64 4]) (by simp only [Nat.add_zero] at e0 e1; simp [results, Tryz.results73, go_sem, e0, e1]) rfl ⟨false, none, 0, 0, 4, rfl, hbel, .inl ⟨HX.out, rfl⟩⟩
    · have HX := Lib.hid h1
      have HX2 := Lib.hid h2
      clear hb1 hc h1 h2
      go_wp2
      obtain ⟨e0, e1, hz, hbel, _⟩ := HF1.out.finJ (cap := 0) 0 rfl (Z16.nil _)
      exact bodyPost_ret (v := .tuple #[.agg #[.bool false, .slice none 0 0], .int .i64 3]) (by simp only [Nat.add_zero] at e0 e1; simp [results, Tryz.results73, go_sem, e0, e1]) rfl ⟨false, none, 0, 0, 3, rfl, hbel, .inr (.inl ⟨HX.out, HX2.out, rfl⟩)⟩
    · have HX := Lib.hid h1
      have HX2 := Lib.hid h2
      have HN := Lib.hid h3
      clear hb1 hc h1 h2 h3 g0 g1 g2 g3
      go_wp2_with fail
      refine (made_any true _ _ _ (dec t) _ HN.out hlc hcm).mono ?_
      rintro e w2 ⟨neg, uo, ul, uc, rfl, huc, hum, hz2, hb2⟩
      have HF2 := Lib.hid (HF1.out.later hb2)
      rw [← HZ.out] at hz2
      have HZ2 := Lib.hid hz2
      clear hz2 hb2
      have g0 : w2.cell? ⟨W.heap.size, 0, none⟩ = some (.bool false) := HF2.out.cell 0 0 rfl rfl
      have g1 : w2.cell? ⟨W.heap.size, 1, none⟩ = some (.slice none 0 0) := HF2.out.cell 0 1 rfl rfl
      have g2 : w2.frozen? ⟨W.heap.size, 0, none⟩ = false := HF2.out.frozen 0 0 rfl
      have g3 : w2.frozen? ⟨W.heap.size, 1, none⟩ = false := HF2.out.frozen 0 1 rfl
      go_wp2
      obtain ⟨e0, e1, hz, hbel, _⟩ := HF2.out.finJ (cap := uc) 0 rfl HZ2.out
      exact bodyPost_ret (v := .tuple #[.agg #[.bool neg, .slice uo ul uc], .int .i64 0]) (by simp only [Nat.add_zero] at e0 e1; simp [results, Tryz.results73, go_sem, e0, e1]) rfl ⟨neg, uo, ul, uc, 0, rfl, hbel, .inr (.inr ⟨HX.out, HX2.out, rfl, huc, hum, hz⟩)⟩

theorem refParse_any (xs : List UInt8) (W : World) (hl : xs.length ≤ 100000000) : Calls Tryz.prog 73 #[.string ⟨xs.toArray⟩] W (ParseJ xs W) := by
  cases hp : Lib.hasPrefix xs [45] with
  | false => exact refParse_plain xs W (by omega) hp
  | true =>
    cases xs with
    | nil => simp [Lib.hasPrefix] at hp
    | cons x t =>
      have hx : x = 45 := by
        simp [Lib.hasPrefix] at hp
        exact hp.symm
      subst hx
      exact refParse_minus t W (by simp at hl; omega)

set_option maxHeartbeats 400000 in
theorem fits16_any (neg : Bool) (ao : Option Addr) (len cap : Nat) (z : Int) (W : World) (h : Z16 W neg ao len z) (hl : len ≤ 1000000000) :
    Calls Tryz.prog 115 #[.agg #[.bool neg, .slice ao len cap]] W (fun e w' => ((Fits z ∧ e = .returned (.bool true)) ∨ (¬ Fits z ∧ e = .returned (.bool false))) ∧ Below W.heap.size W w') := by
  have hf : Fr W (W.alloc (.cells #[.bool neg, .slice ao len cap] 27)) [(27, #[.bool neg, .slice ao len cap])] := (Fr.nil W).alloc rfl _ _
  have HF := Lib.hid hf
  have HZ := Lib.hid (h.keep hf.below)
  clear h hf
  go_enter Tryz.func115, Tryz.ntmps115
  go_wp2_with fail
  refine (bitLen16_any _ _ _ _ z _ HZ.out hl).mono ?_
  rintro e w1 ⟨rfl, hb1⟩
  have HF1 := Lib.hid (HF.out.later hb1)
  obtain ⟨k, hk⟩ : ∃ k, k = blen z.natAbs := ⟨_, rfl⟩
  rw [← hk]
  by_cases hfit : k ≤ 16384
  · have t1 : (k : Int) ≤ 16384 := by omega
    have t2 : decide ((k : Int) ≤ 16384) = true := by simpa using t1
    have HX : Hid (Fits z) := by unfold Fits; rw [← hk]; exact hfit
    clear hk hb1
    go_wp2
    go_ret
    exact ⟨.inl ⟨HX.out, ret_bool (by first | rfl | (simp; done) | (simp; omega))⟩, HF1.out.below⟩
  · have t1 : ¬ (k : Int) ≤ 16384 := by omega
    have HX : Hid (¬ Fits z) := by unfold Fits; rw [← hk]; exact hfit
    clear hk hb1
    go_wp2
    go_ret
    exact ⟨.inr ⟨HX.out, ret_bool (by first | rfl | (simp; done) | (simp; omega))⟩, HF1.out.below⟩
end Go.Proofs.YtbihgllfllkkaaaGreat

/- The laws' helper told. -/
set_option linter.unusedVariables false
namespace Go.Proofs.YtbihgllfllkkaaaGreat
open Go.RowKit Go.Proofs

theorem numZ_0 : numeralZ 0 = [48] := by decide +kernel

/-- what Parse answers, with one shape of the ending -/
def ParseOne (xs : List UInt8) (W : World) (e : Ending) (w' : World) : Prop :=
  ∃ neg ao len cap er z', e = .returned (.tuple #[.agg #[.bool neg, .slice ao len cap], .int .i64 er]) ∧ Z32 w' neg ao len z' ∧ Below W.heap.size W w' ∧
    ((isNum xs = false ∧ er = 4 ∧ z' = 0) ∨ (isNum xs = true ∧ ¬ Fits (numZ xs) ∧ er = 3 ∧ z' = 0) ∨ (isNum xs = true ∧ Fits (numZ xs) ∧ er = 0 ∧ z' = numZ xs))

theorem ParsePost.one {xs : List UInt8} {W w' : World} {e : Ending} (h : ParsePost xs W e w') : ParseOne xs W e w' := by
  rcases h with ⟨h, ⟨hf, neg, ao, len, cap, rfl, hz, hb⟩ | ⟨hf, rfl, hb⟩⟩ | ⟨h, rfl, hb⟩
  · exact ⟨neg, ao, len, cap, 0, _, rfl, hz, hb, .inr (.inr ⟨h, hf, rfl, rfl⟩)⟩
  · exact ⟨false, none, 0, 0, 3, 0, rfl, Z32.nil _, hb, .inr (.inl ⟨h, hf, rfl, rfl⟩)⟩
  · exact ⟨false, none, 0, 0, 4, 0, rfl, Z32.nil _, hb, .inl ⟨h, rfl, rfl⟩⟩


theorem fits_lenk {w : World} {neg : Bool} {ao : Option Addr} {len : Nat} {z : Int} (k : Nat) (hk : 32 * k = 16384) (h : Z32 w neg ao len z) (hf : Fits z) : len ≤ k := by
  have h1 := blen_le.1 hf
  refine h.n32.len_le (k := k) ?_
  rw [B32_pow, hk]
  exact h1

theorem fits_len {w : World} {neg : Bool} {ao : Option Addr} {len : Nat} {z : Int} (h : Z32 w neg ao len z) (hf : Fits z) : len ≤ 512 := fits_lenk 512 rfl h hf

theorem fits_lenk16 {w : World} {neg : Bool} {ao : Option Addr} {len : Nat} {z : Int} (k : Nat) (hk : 16 * k = 16384) (h : Z16 w neg ao len z) (hf : Fits z) : len ≤ k := by
  have h1 := blen_le.1 hf
  refine h.n16.len_le (k := k) ?_
  rw [B16_pow, hk]
  exact h1

theorem fits_len16 {w : World} {neg : Bool} {ao : Option Addr} {len : Nat} {z : Int} (h : Z16 w neg ao len z) (hf : Fits z) : len ≤ 1024 := fits_lenk16 1024 rfl h hf
end Go.Proofs.YtbihgllfllkkaaaGreat

/- A numeral is read again as what it is the numeral of. -/
set_option linter.unusedVariables false
namespace Go.Proofs.YtbihgllfllkkaaaGreat
open Go.RowKit Go.Proofs

theorem char_toNat {d : Nat} (h : d < 10) : (UInt8.ofNat (48 + d)).toNat = 48 + d := by
  rw [UInt8.toNat_ofNat']
  omega

theorem chars_append (a b : List Nat) : chars (a ++ b) = chars a ++ chars b := by unfold chars; rw [List.map_append]

theorem dec_chars {ts : List Nat} (h : Dig 10 ts) : dec (chars ts.reverse) = val 10 ts := by
  induction ts with
  | nil => rfl
  | cons d ts ih =>
    rw [List.reverse_cons, chars_append]
    show dec (chars ts.reverse ++ [UInt8.ofNat (48 + d)]) = _
    rw [dec_snoc, ih h.tail, char_toNat h.head, val_cons]
    omega

theorem all_chars {ts : List Nat} (h : Dig 10 ts) : (chars ts).all isDig = true := by
  rw [List.all_eq_true]
  intro c hc
  obtain ⟨d, hd, rfl⟩ := List.mem_map.1 hc
  have h1 := h d hd
  unfold isDig
  rw [char_toNat h1]
  simp
  omega

theorem Dig.reverse {B : Nat} {ts : List Nat} (h : Dig B ts) : Dig B ts.reverse := fun x hx => h x (List.mem_reverse.1 hx)

theorem dec_numeral (n : Nat) : dec (numeral n) = n := by
  unfold numeral
  by_cases h : n = 0
  · rw [if_pos h, h]; rfl
  · rw [if_neg h]
    obtain ⟨a, b, c⟩ := lowF_spec n n (Nat.le_refl _)
    exact (dec_chars a).trans c

theorem numeral_pos {n : Nat} (h : n ≠ 0) : isPos (numeral n) = true := by
  unfold numeral
  rw [if_neg h]
  obtain ⟨a, b, c⟩ := lowF_spec n n (Nat.le_refl _)
  change Dig 10 (low n) at a
  change Top (low n) at b
  change val 10 (low n) = n at c
  have hne : low n ≠ [] := fun e => by rw [e] at c; exact h c.symm
  obtain ⟨ys, y, hy⟩ : ∃ ys y, low n = ys ++ [y] := ⟨(low n).dropLast, (low n).getLast hne, (List.dropLast_concat_getLast hne).symm⟩
  have hy0 : y ≠ 0 := by
    have := b hne
    rw [hy] at this
    simpa using this
  have hyd : y < 10 := a y (by rw [hy]; simp)
  have hd := all_chars a.reverse
  rw [hy] at hd ⊢
  rw [List.reverse_append] at hd ⊢
  change (UInt8.ofNat (48 + y) :: chars ys.reverse).all isDig = true at hd
  change isPos (UInt8.ofNat (48 + y) :: chars ys.reverse) = true
  have hc : UInt8.ofNat (48 + y) ≠ 48 := fun e => by
    have := congrArg UInt8.toNat e
    rw [char_toNat hyd] at this
    change 48 + y = 48 at this
    omega
  unfold isPos hasDigs
  rw [hd]
  have h2 : decide ((UInt8.ofNat (48 + y) :: chars ys.reverse).head? ≠ some 48) = true := decide_eq_true (fun e => hc (Option.some.inj e))
  rw [h2]
  rfl

theorem numeral_head {n : Nat} : ∃ x t, numeral n = x :: t ∧ isDig x = true := by
  by_cases h : n = 0
  · exact ⟨48, [], by unfold numeral; rw [if_pos h], rfl⟩
  · have h1 := numeral_pos h
    unfold isPos hasDigs at h1
    simp only [Bool.and_eq_true] at h1
    cases hn : numeral n with
    | nil => rw [hn] at h1; simp at h1
    | cons x t =>
      rw [hn] at h1
      have := h1.1.1
      rw [List.all_cons, Bool.and_eq_true] at this
      exact ⟨x, t, rfl, this.1⟩

theorem prefix_numeral (n : Nat) : Lib.hasPrefix (numeral n) [45] = false := by
  obtain ⟨x, t, h, hd⟩ := numeral_head (n := n)
  rw [h]
  have : x ≠ 45 := fun e => by subst e; exact absurd hd (by decide)
  have h2 : ¬ (45 : UInt8) = x := fun e => this e.symm
  show ([45].isPrefixOf (x :: t)) = false
  rw [List.isPrefixOf_cons_cons, beq_eq_false_iff_ne.2 h2, Bool.false_and]

theorem bare_minus (t : List UInt8) : bare (45 :: t) = t := by unfold bare Lib.trimPrefix; simp [Lib.hasPrefix]
theorem bare_plain {t : List UInt8} (h : Lib.hasPrefix t [45] = false) : bare t = t := by unfold bare Lib.trimPrefix; rw [h]; rfl

theorem isNum_numeralZ (z : Int) : isNum (numeralZ z) = true := by
  unfold numeralZ
  by_cases h : z < 0
  · rw [if_pos h]
    have hn := numeral_pos (n := z.natAbs) (by omega)
    unfold isNum
    change (decide _ || isPos (bare (45 :: numeral z.natAbs))) = true
    rw [bare_minus, hn, Bool.or_true]
  · rw [if_neg h]
    unfold isNum
    change (decide _ || isPos (bare (numeral z.natAbs))) = true
    rw [bare_plain (prefix_numeral _)]
    by_cases h0 : z.natAbs = 0
    · rw [h0]; rfl
    · rw [numeral_pos h0, Bool.or_true]

theorem numZ_numeralZ (z : Int) : numZ (numeralZ z) = z := by
  unfold numeralZ
  by_cases h : z < 0
  · rw [if_pos h]
    unfold numZ
    rw [bare_minus, dec_numeral]
    simp [Lib.hasPrefix, sgn]
    omega
  · rw [if_neg h]
    unfold numZ
    rw [bare_plain (prefix_numeral _), dec_numeral, prefix_numeral]
    simp [sgn]
    omega
end Go.Proofs.YtbihgllfllkkaaaGreat

/- The laws' helper made. -/
set_option linter.unusedVariables false
namespace Go.Proofs.YtbihgllfllkkaaaGreat
open Go.RowKit Go.Proofs

/-- the program's integer that made returns, and whether it fits -/
def MadePost (z : Int) (W : World) (e : Ending) (w' : World) : Prop :=
  ∃ neg ao len cap ok z', e = .returned (.tuple #[.agg #[.bool neg, .slice ao len cap], .bool ok]) ∧ len ≤ 512 ∧ Z32 w' neg ao len z' ∧ Below W.heap.size W w' ∧ ((Fits z ∧ ok = true ∧ z' = z) ∨ (¬ Fits z ∧ ok = false ∧ z' = 0))

theorem fits_zero : Fits 0 := by unfold Fits; decide

set_option maxHeartbeats 1000000 in
theorem made_law (neg : Bool) (ao : Option Addr) (len cap : Nat) (z : Int) (W : World) (h : Z16 W neg ao len z) (hl : len ≤ 1000000) :
    Calls Tryz.prog 49 #[.agg #[.bool neg, .slice ao len cap]] W (MadePost z W) := by
  have hf : Fr W ((W.alloc (.cells #[.bool neg, .slice ao len cap] 27)).alloc (.cells #[.bool false, .slice none 0 0] 31))
      [(27, #[.bool neg, .slice ao len cap]), (31, #[.bool false, .slice none 0 0])] := ((Fr.nil W).alloc rfl _ _).alloc (by simp) _ _
  have hlt : z.natAbs < B32 ^ len := Nat.lt_of_lt_of_le h.n16.lt (Nat.pow_le_pow_left (by decide) _)
  have hnl := numeralZ_len hlt
  have HZ := Lib.hid (h.keep hf.below)
  have HF := Lib.hid hf
  have hnb : (numeralZ z).length ≤ 100000000 := by omega
  have HNB := Lib.hid hnb
  clear h hf hlt hnl hnb
  go_enter Tryz.func49, Tryz.ntmps49
  go_wp2_with fail
  refine (text16_any _ _ _ _ z _ HZ.out (by omega)).mono ?_
  rintro e w1 ⟨rfl, hb1⟩
  have HF1 := Lib.hid (HF.out.later hb1)
  clear hb1
  go_wp2_with fail
  refine ((parse_any (numeralZ z) _ HNB.out).mono fun e w h => h.one).mono ?_
  rintro e w2 ⟨na, po, la, ca, er, z', rfl, hz2, hb2, hx⟩
  have HF2 := Lib.hid (HF1.out.later hb2)
  have hy : (Fits z ∧ er = 0 ∧ z' = z) ∨ (¬ Fits z ∧ er = 3 ∧ z' = 0) := by
    rw [numZ_numeralZ] at hx
    rcases hx with ⟨h1, _⟩ | ⟨_, h2⟩ | ⟨_, h2⟩
    · rw [isNum_numeralZ] at h1; cases h1
    · exact .inr h2
    · exact .inl h2
  have hla : la ≤ 512 := by
    rcases hy with ⟨h1, _, h3⟩ | ⟨_, _, h3⟩
    · rw [h3] at hz2; exact fits_len hz2 h1
    · rw [h3] at hz2; exact fits_len hz2 fits_zero
  have HZ2 := Lib.hid hz2
  clear hx hz2 hb2
  have hfb : Fr w2 (w2.alloc (.cells #[.bool na, .slice po la ca] 31)) [(31, #[.bool na, .slice po la ca])] := (Fr.nil w2).alloc rfl _ _
  have HF3 := Lib.hid (HF2.out.later hfb.below)
  have HZ3 := Lib.hid (HZ2.out.keep hfb.below)
  clear hfb
  have g0 : (w2.alloc (.cells #[.bool na, .slice po la ca] 31)).cell? ⟨W.heap.size + 1, 0, none⟩ = some (.bool false) := HF3.out.cell 1 0 rfl rfl
  have g1 : (w2.alloc (.cells #[.bool na, .slice po la ca] 31)).cell? ⟨W.heap.size + 1, 1, none⟩ = some (.slice none 0 0) := HF3.out.cell 1 1 rfl rfl
  have g2 : (w2.alloc (.cells #[.bool na, .slice po la ca] 31)).frozen? ⟨W.heap.size + 1, 0, none⟩ = false := HF3.out.frozen 1 0 rfl
  have g3 : (w2.alloc (.cells #[.bool na, .slice po la ca] 31)).frozen? ⟨W.heap.size + 1, 1, none⟩ = false := HF3.out.frozen 1 1 rfl
  rcases hy with ⟨h1, rfl, rfl⟩ | ⟨h1, rfl, rfl⟩
  · have HX := Lib.hid h1
    clear h1
    go_wp2
    obtain ⟨e0, e1, hz, hbel, _⟩ := HF3.out.finI (cap := ca) 1 rfl HZ3.out
    exact bodyPost_ret (v := .tuple #[.agg #[.bool na, .slice po la ca], .bool true]) (by simp [results, Tryz.results49, go_sem, e0, e1]) rfl ⟨na, po, la, ca, true, _, rfl, hla, hz, hbel, .inl ⟨HX.out, rfl, rfl⟩⟩
  · have HX := Lib.hid h1
    clear h1
    go_wp2
    obtain ⟨e0, e1, hz, hbel, _⟩ := HF3.out.finI (cap := ca) 1 rfl HZ3.out
    exact bodyPost_ret (v := .tuple #[.agg #[.bool na, .slice po la ca], .bool false]) (by simp [results, Tryz.results49, go_sem, e0, e1]) rfl ⟨na, po, la, ca, false, _, rfl, hla, hz, hbel, .inr ⟨HX.out, rfl, rfl⟩⟩
end Go.Proofs.YtbihgllfllkkaaaGreat
