/- The specification's Text; the laws' helpers is, awake. -/
import Derived.Test.YtdnnjjclklcihaaRefC
set_option linter.unusedVariables false
namespace Go.Proofs.Ytdnnjjclklcihaa
open Go.RowKit

set_option maxHeartbeats 800000 in
theorem text16_any (neg : Bool) (ao : Option Addr) (len cap : Nat) (z : Int) (W : World) (h : Z16 W neg ao len z) (hl : len ≤ 1000000000) :
    Calls Try.prog 31 #[.agg #[.bool neg, .slice ao len cap]] W (StrPost (numeralZ z) W) := by
  obtain ⟨n, hn, rfl, hp⟩ := h
  have HN := Lib.hid (hn.keep (box_below W 28 #[.bool neg, .slice ao len cap]))
  have HP := Lib.hid hp
  have hnl2 : ¬ 9223372036854775807 < 1 + (numeral n).length := by
    have h1 := hn.lt
    have h2 : n < B32 ^ len := Nat.lt_of_lt_of_le h1 (Nat.pow_le_pow_left (by decide) _)
    have := numeral_len h2
    omega
  clear hn hp
  cases neg with
  | true =>
    have HE := Lib.hid (numeralZ_neg (HP.out rfl))
    rw [HE.out]
    go_enter Try.func31, Try.ntmps31
    go_wp2_with fail
    refine (text_any _ _ _ n _ HN.out hl).mono ?_
    rintro e w1 ⟨rfl, hb⟩
    have HB := Lib.hid hb
    clear hb
    go_wp2
    go_ret
    refine ⟨?_, below_then (box_below _ _ _) HB.out⟩
    have := bytes_append [45] (numeral n)
    exact congrArg (fun x => Ending.returned (Value.string x)) this
  | false =>
    have HE := Lib.hid (numeralZ_pos n)
    rw [HE.out]
    go_enter Try.func31, Try.ntmps31
    go_wp2_with fail
    refine (text_any _ _ _ n _ HN.out hl).mono ?_
    rintro e w1 ⟨rfl, hb⟩
    have HB := Lib.hid hb
    clear hb
    go_wp2
    go_ret
    exact ⟨rfl, below_then (box_below _ _ _) HB.out⟩

set_option maxHeartbeats 1000000 in
theorem is_any (na nb : Bool) (ao bo : Option Addr) (la lb ca cb : Nat) (z : Int) (W : World) (ha : Z32 W na ao la z) (hb : Z16 W nb bo lb z) (hla : la ≤ 1000000000) (hlb : lb ≤ 1000000000) :
    Calls Try.prog 18 #[.agg #[.bool na, .slice ao la ca], .agg #[.bool nb, .slice bo lb cb]] W (fun e w' => e = .returned (.bool true) ∧ Below W.heap.size W w') := by
  have hf : Fr W ((W.alloc (.cells #[.bool na, .slice ao la ca] 24)).alloc (.cells #[.bool nb, .slice bo lb cb] 28))
      [(24, #[.bool na, .slice ao la ca]), (28, #[.bool nb, .slice bo lb cb])] := ((Fr.nil W).alloc rfl _ _).alloc (by simp) _ _
  have HA := Lib.hid ha
  have HB := Lib.hid hb
  clear ha hb
  go_enter Try.func18, Try.ntmps18
  go_wp2_with fail
  obtain ⟨W3, hW3⟩ : ∃ W3, W3 = (W.alloc (.cells #[.bool na, .slice ao la ca] 24)).alloc (.cells #[.bool nb, .slice bo lb cb] 28) := ⟨_, rfl⟩
  rw [← hW3] at hf ⊢
  clear hW3
  have HF := Lib.hid hf
  clear hf
  have c0 : W3.cell? ⟨W.heap.size, 0, none⟩ = some (.bool na) := HF.out.cell 0 0 rfl rfl
  have c1 : W3.cell? ⟨W.heap.size, 1, none⟩ = some (.slice ao la ca) := HF.out.cell 0 1 rfl rfl
  have c2 : W3.cell? ⟨W.heap.size + 1, 0, none⟩ = some (.bool nb) := HF.out.cell 1 0 rfl rfl
  have c3 : W3.cell? ⟨W.heap.size + 1, 1, none⟩ = some (.slice bo lb cb) := HF.out.cell 1 1 rfl rfl
  go_region_held3 (fun w' => w'.cell? ⟨W.heap.size, 0, none⟩ = some (.bool na) ∧ w'.cell? ⟨W.heap.size, 1, none⟩ = some (.slice ao la ca) ∧ w'.cell? ⟨W.heap.size + 1, 0, none⟩ = some (.bool nb) ∧ w'.cell? ⟨W.heap.size + 1, 1, none⟩ = some (.slice bo lb cb)) (go_keep)
    (first | (go_at_call 26; refine (string_any _ _ _ _ z W3.drew (HA.out.keep HF.out.below.drew) hla).mono ?_; rintro e w1 ⟨rfl, hb1⟩; have HF1 := Lib.hid (HF.out.later (below_of_drew hb1)); clear hb1; have d0 : w1.cell? ⟨W.heap.size, 0, none⟩ = some (.bool na) := HF1.out.cell 0 0 rfl rfl; have d1 : w1.cell? ⟨W.heap.size, 1, none⟩ = some (.slice ao la ca) := HF1.out.cell 0 1 rfl rfl; have d2 : w1.cell? ⟨W.heap.size + 1, 0, none⟩ = some (.bool nb) := HF1.out.cell 1 0 rfl rfl; have d3 : w1.cell? ⟨W.heap.size + 1, 1, none⟩ = some (.slice bo lb cb) := HF1.out.cell 1 1 rfl rfl) | (go_at_call 31; refine (text16_any _ _ _ _ z _ (HB.out.keep HF1.out.below) hlb).mono ?_; rintro e w2 ⟨rfl, hb2⟩; have HF2 := Lib.hid (HF1.out.later hb2); clear hb2; have f0 : w2.cell? ⟨W.heap.size, 0, none⟩ = some (.bool na) := HF2.out.cell 0 0 rfl rfl; have f1 : w2.cell? ⟨W.heap.size, 1, none⟩ = some (.slice ao la ca) := HF2.out.cell 0 1 rfl rfl; have f2 : w2.cell? ⟨W.heap.size + 1, 0, none⟩ = some (.bool nb) := HF2.out.cell 1 0 rfl rfl; have f3 : w2.cell? ⟨W.heap.size + 1, 1, none⟩ = some (.slice bo lb cb) := HF2.out.cell 1 1 rfl rfl))
  go_wp2
  go_ret
  refine ⟨ret_bool ?_, HF2.out.below⟩
  simp

/-- the program computes a few plain results -/
def AwakePost (W : World) (e : Ending) (w' : World) : Prop := e = .returned (.bool true) ∧ Below W.heap.size W w'

theorem text_m4 : numeralZ (-7 / 2) = [45, 52] := by decide +kernel
theorem text_1 : numeralZ (-7 % 2) = [49] := by decide +kernel
theorem text_72 : textQ (lowP (-7) 2) (lowQ (-7) 2) = [45, 55, 47, 50] := by decide +kernel
theorem text_350 : decText (lowP (-7) 2) (lowQ (-7) 2) 2 = [45, 51, 46, 53, 48] := by decide +kernel
theorem low_7 : lowQ (-7) 2 = 2 := by decide +kernel
theorem low_7p : ((lowP (-7) 2).natAbs * 10 ^ 2) = 700 := by decide +kernel
theorem gcd_72 : Nat.gcd (Int.natAbs (-7)) (Int.natAbs 2) = 1 := by decide +kernel
theorem near_7 : (numeral (nearest 700 2)).length = 3 := by decide +kernel

set_option maxHeartbeats 2000000 in
theorem awake_any (W : World) : Calls Try.prog 23 #[] W (AwakePost W) := by
  go_enter Try.func23, Try.ntmps23
  go_wp2_with fail
  refine (new_any (-7) _ (by omega) (by omega)).mono ?_
  rintro e w1 ⟨s1, o1, l1, c1, rfl, hz1, hb1⟩
  have HB1 := Lib.hid hb1
  have HZ1 := Lib.hid hz1
  clear hb1 hz1
  go_wp2_with fail
  refine (new_any 2 _ (by omega) (by omega)).mono ?_
  rintro e w2 ⟨s2, o2, l2, c2, rfl, hz2, hb2⟩
  have HB2 := Lib.hid (below_then HB1.out hb2)
  have HX := Lib.hid (HZ1.out.keep hb2)
  have HY := Lib.hid hz2
  have hlx : l1 ≤ 1 := HX.out.n32.len_le (by decide)
  have hly : l2 ≤ 1 := HY.out.n32.len_le (by decide)
  clear hb2 hz2
  have hfa : Fr w2 ((w2.alloc (.cells #[.bool s1, .slice o1 l1 c1] 24)).alloc (.cells #[.bool s2, .slice o2 l2 c2] 24))
      [(24, #[.bool s1, .slice o1 l1 c1]), (24, #[.bool s2, .slice o2 l2 c2])] := ((Fr.nil w2).alloc rfl _ _).alloc (by simp) _ _
  have HFA := Lib.hid hfa
  clear hfa
  go_wp2_with fail
  refine (div_any _ _ _ _ _ _ _ _ (-7) 2 _ (HX.out.keep HFA.out.below) (HY.out.keep HFA.out.below) (by omega) (by omega) (by decide) (divide_easy _ _ (by decide) (by decide))).mono ?_
  rintro e w3 ⟨s3, o3, l3, c3, s4, o4, l4, c4, rfl, hq, hr, hb3⟩
  have HF3 := Lib.hid (HFA.out.later hb3)
  have HX3 := Lib.hid ((HX.out.keep HFA.out.below).keep hb3)
  have HY3 := Lib.hid ((HY.out.keep HFA.out.below).keep hb3)
  have HQ := Lib.hid hq
  have HR := Lib.hid hr
  clear hq hr hb3 HX HY HFA
  have hfq : Fr w3 ((w3.alloc (.cells #[.bool s3, .slice o3 l3 c3] 24)).alloc (.cells #[.bool s4, .slice o4 l4 c4] 24))
      [(24, #[.bool s3, .slice o3 l3 c3]), (24, #[.bool s4, .slice o4 l4 c4])] := ((Fr.nil w3).alloc rfl _ _).alloc (by simp) _ _
  have HFQ := Lib.hid hfq
  have HFA := Lib.hid (HF3.out.later hfq.below)
  clear hfq HF3
  have a0 : ((w3.alloc (.cells #[.bool s3, .slice o3 l3 c3] 24)).alloc (.cells #[.bool s4, .slice o4 l4 c4] 24)).cell? ⟨w2.heap.size, 0, none⟩ = some (.bool s1) := HFA.out.cell 0 0 rfl rfl
  have a1 : ((w3.alloc (.cells #[.bool s3, .slice o3 l3 c3] 24)).alloc (.cells #[.bool s4, .slice o4 l4 c4] 24)).cell? ⟨w2.heap.size, 1, none⟩ = some (.slice o1 l1 c1) := HFA.out.cell 0 1 rfl rfl
  have a2 : ((w3.alloc (.cells #[.bool s3, .slice o3 l3 c3] 24)).alloc (.cells #[.bool s4, .slice o4 l4 c4] 24)).cell? ⟨w2.heap.size + 1, 0, none⟩ = some (.bool s2) := HFA.out.cell 1 0 rfl rfl
  have a3 : ((w3.alloc (.cells #[.bool s3, .slice o3 l3 c3] 24)).alloc (.cells #[.bool s4, .slice o4 l4 c4] 24)).cell? ⟨w2.heap.size + 1, 1, none⟩ = some (.slice o2 l2 c2) := HFA.out.cell 1 1 rfl rfl
  go_wp2_with fail
  refine (newRat_any _ _ _ _ _ _ _ _ (-7) 2 _ (HX3.out.keep HFQ.out.below) (HY3.out.keep HFQ.out.below) (by omega) (by omega) (by decide) (gcd_easy _ _ (by decide) (by decide))
    (by rw [gcd_72]; exact divide_easy _ _ (by decide) (by decide)) (by rw [gcd_72]; exact divide_easy _ _ (by decide) (by decide))).mono ?_
  rintro e w4 ⟨s5, o5, l5, c5, o6, l6, c6, rfl, hf, hb4⟩
  have HFQ4 := Lib.hid (HFQ.out.later hb4)
  have HFA4 := Lib.hid (HFA.out.later hb4)
  have HQ4 := Lib.hid ((HQ.out.keep HFQ.out.below).keep hb4)
  have HR4 := Lib.hid ((HR.out.keep HFQ.out.below).keep hb4)
  have HF := Lib.hid hf
  clear hf hb4 HX3 HY3 HFQ HFA HQ HR a0 a1 a2 a3
  have hff : Fr w4 (w4.alloc (.cells #[.bool s5, .slice o5 l5 c5, .slice o6 l6 c6] 67)) [(67, #[.bool s5, .slice o5 l5 c5, .slice o6 l6 c6])] := (Fr.nil w4).alloc rfl _ _
  have HFF := Lib.hid hff
  clear hff
  have hl5 : l5 ≤ 1 := HF.out.1.n32.len_le (by decide +kernel)
  have hl6 : l6 ≤ 1 := by
    rcases HF.out.2 with h | h
    · omega
    · exact h.1.len_le (by decide +kernel)
  go_wp2_with fail
  have hdo : DivOk ((lowP (-7) 2).natAbs * 10 ^ 2) (lowQ (-7) 2) := by rw [low_7p, low_7]; exact divide_easy _ _ (by decide) (by decide)
  refine (decimal_any _ _ _ _ _ _ _ (lowP (-7) 2) (lowQ (-7) 2) 2 2 _ (HF.out.keep HFF.out.below) (by omega) (by omega) (by rw [low_7]; decide) rfl (by decide) hdo (.inr (by rw [low_7p, low_7, near_7]; decide))).mono ?_
  rintro e w5 ⟨rfl, hb5⟩
  rw [text_350]
  have HFF5 := Lib.hid (HFF.out.later hb5)
  have HFQ5 := Lib.hid ((HFQ4.out.later HFF.out.below).later hb5)
  have HFA5 := Lib.hid ((HFA4.out.later HFF.out.below).later hb5)
  have HQ5 := Lib.hid ((HQ4.out.keep HFF.out.below).keep hb5)
  have HR5 := Lib.hid ((HR4.out.keep HFF.out.below).keep hb5)
  have HG5 := Lib.hid ((HF.out.keep HFF.out.below).keep hb5)
  clear hb5 HFF HFQ4 HFA4 HQ4 HR4 HF hdo
  have b0 : w5.cell? ⟨w3.heap.size, 0, none⟩ = some (.bool s3) := HFQ5.out.cell 0 0 rfl rfl
  have b1 : w5.cell? ⟨w3.heap.size, 1, none⟩ = some (.slice o3 l3 c3) := HFQ5.out.cell 0 1 rfl rfl
  have b2 : w5.cell? ⟨w3.heap.size + 1, 0, none⟩ = some (.bool s4) := HFQ5.out.cell 1 0 rfl rfl
  have b3 : w5.cell? ⟨w3.heap.size + 1, 1, none⟩ = some (.slice o4 l4 c4) := HFQ5.out.cell 1 1 rfl rfl
  have b4 : w5.cell? ⟨w4.heap.size, 0, none⟩ = some (.bool s5) := HFF5.out.cell 0 0 rfl rfl
  have b5 : w5.cell? ⟨w4.heap.size, 1, none⟩ = some (.slice o5 l5 c5) := HFF5.out.cell 0 1 rfl rfl
  have b6 : w5.cell? ⟨w4.heap.size, 2, none⟩ = some (.slice o6 l6 c6) := HFF5.out.cell 0 2 rfl rfl
  have hl3 : l3 ≤ 1 := HQ5.out.n32.len_le (by decide +kernel)
  have hl4 : l4 ≤ 1 := HR5.out.n32.len_le (by decide +kernel)
  go_wp2_with fail
  refine (string_any _ _ _ _ (-7 / 2) _ HQ5.out (by omega)).mono ?_
  rintro e w6 ⟨rfl, hb6⟩
  rw [text_m4]
  have HFF6 := Lib.hid (HFF5.out.later hb6)
  have HFQ6 := Lib.hid (HFQ5.out.later hb6)
  have HFA6 := Lib.hid (HFA5.out.later hb6)
  have HR6 := Lib.hid (HR5.out.keep hb6)
  have HG6 := Lib.hid (HG5.out.keep hb6)
  clear hb6 b0 b1 b2 b3 b4 b5 b6 HFF5 HFQ5 HFA5 HQ5 HR5 HG5
  have b2 : w6.cell? ⟨w3.heap.size + 1, 0, none⟩ = some (.bool s4) := HFQ6.out.cell 1 0 rfl rfl
  have b3 : w6.cell? ⟨w3.heap.size + 1, 1, none⟩ = some (.slice o4 l4 c4) := HFQ6.out.cell 1 1 rfl rfl
  go_wp2_with fail
  refine (string_any _ _ _ _ (-7 % 2) _ HR6.out (by omega)).mono ?_
  rintro e w7 ⟨rfl, hb7⟩
  rw [text_1]
  have HFF7 := Lib.hid (HFF6.out.later hb7)
  have HFA7 := Lib.hid (HFA6.out.later hb7)
  have HG7 := Lib.hid (HG6.out.keep hb7)
  clear hb7 b2 b3 HFF6 HFQ6 HFA6 HR6 HG6
  have b4 : w7.cell? ⟨w4.heap.size, 0, none⟩ = some (.bool s5) := HFF7.out.cell 0 0 rfl rfl
  have b5 : w7.cell? ⟨w4.heap.size, 1, none⟩ = some (.slice o5 l5 c5) := HFF7.out.cell 0 1 rfl rfl
  have b6 : w7.cell? ⟨w4.heap.size, 2, none⟩ = some (.slice o6 l6 c6) := HFF7.out.cell 0 2 rfl rfl
  go_wp2_with fail
  refine (ratString_any _ _ _ _ _ _ _ _ _ _ HG7.out (by omega) (by omega)).mono ?_
  rintro e w8 ⟨rfl, hb8⟩
  rw [text_72]
  have HB8 := Lib.hid (below_then HB2.out (HFA7.out.below.trans (hb8.mono HFA7.out.below.size)))
  clear hb8 b4 b5 b6 HFF7 HFA7 HG7
  go_wp2_with fail
  go_ret
  exact ⟨rfl, HB8.out⟩

end Go.Proofs.Ytdnnjjclklcihaa
