/- The specification's raw, Raw; the laws' helper of. -/
import Derived.Test.YtdnnjjclklcihaaRefT
set_option linter.unusedVariables false
namespace Go.Proofs.Ytdnnjjclklcihaa
open Go.RowKit

def RawRel (la most : Nat) (xs : List Nat) (W : World) (ov iv : Value) (wr : World) : Prop :=
  ∃ i : Nat, iv = .int .i64 (i : Int) ∧ Own .i64 wr W.heap.size 3 ov i (xs.take i) ∧ i ≤ la ∧ i ≤ most ∧ Below W.heap.size W wr

theorem raw_end {la most i : Nat} {xs : List Nat} (hx : xs.length = la) (h : i = la ∨ i = most) (h1 : i ≤ la) (h2 : i ≤ most) : xs.take i = xs.take most := by
  rcases h with rfl | rfl
  · rw [List.take_of_length_le (by omega), List.take_of_length_le (by omega)]
  · rfl

set_option maxHeartbeats 1000000 in
theorem raw_any (ao : Option Addr) (la ca : Nat) (xs : List Nat) (K : Int) (most : Nat) (W : World) (hs : Sl .u16 W ao la xs) (hd : Dig B16 xs) (hK : K = (most : Int)) (hm : most ≤ 1000000) (hla : la ≤ 9223372036854775807) :
    Calls Try.prog 110 #[.slice ao la ca, .int .i64 K] W (Out16 W (val B16 (xs.take most))) := by
  subst hK
  have HS := Lib.hid hs
  have HD := Lib.hid hd
  have HLX := Lib.hid hs.len
  clear hs hd
  go_enter Try.func110, Try.ntmps110
  go_wp2
  go_loopw [5, 6] (fun ov iv wr => RawRel la most xs W ov iv wr) (fun ov iv _ => la - (intOf iv).toNat)
  case atStart => exact ⟨0, rfl, Own.nil _ _ _ _, by omega, by omega, Below.refl _ _⟩
  case round =>
    obtain ⟨i, rfl, hown, hil, him, hbel⟩ := hrel
    have GO := Lib.hid hown
    have GW := Lib.hid hbel
    clear hown hbel
    by_cases h1 : i < la
    · by_cases h2 : i < most
      · have t1 : (i : Int) < (la : Int) := by omega
        have t2 : (i : Int) < (most : Int) := by omega
        have t0 : (0 : Int) ≤ (i : Int) := by omega
        have hx := HD.out.get B16_pos i
        obtain ⟨x, hxe⟩ : ∃ x, x = xs[i]?.getD 0 := ⟨_, rfl⟩
        rw [← hxe] at hx
        rw [B16_eq] at hx
        obtain ⟨hxl, b, off, h0, hcc⟩ := HS.out.keep GW.out
        obtain rfl := h0 (by omega)
        have hci := hcc i (by omega)
        rw [← hxe] at hci
        have HX := Lib.hid hxe
        clear hxe hxl h0 hcc
        go_wp2_with (at_builtin; refine wpList_app rfl _ _ 26 rfl W.heap.size 3 .i64 8 Try.underlying26 (by kernel_rfl) _ i (xs.take i) rfl GO.out _ x rfl rfl (by omega) (by omega) GW.out.size ?_; intro v' w2 hown' hbel')
        go_roundw
        case rel =>
          refine ⟨i + 1, by go_num, ?_, by omega, by omega, GW.out.trans hbel'⟩
          rw [List.take_succ_eq_append_getElem (by rw [HLX.out]; omega)]
          have : xs[i]'(by rw [HLX.out]; omega) = x := by rw [HX.out, List.getElem?_eq_getElem (by rw [HLX.out]; omega)]; rfl
          rw [this]
          exact hown'
        case measure => simp only [intOf]; omega
      · have t1 : (i : Int) < (la : Int) := by omega
        have t2 : ¬ (i : Int) < (most : Int) := by omega
        obtain ⟨oo, cap, rfl, hlc, hcm, hsl⟩ := GO.out.sl
        have HSL := Lib.hid hsl
        have HE := Lib.hid (raw_end HLX.out (.inr (by omega)) hil him)
        clear hsl
        go_wp2_with fail
        refine (trim16_raw _ _ _ (xs.take i) _ HSL.out hlc hcm).mono ?_
        rintro e w1 ⟨⟨ao', k, rfl, hk, ha', ht, hz⟩, rfl⟩
        have HT := Lib.hid ht
        have HZ := Lib.hid hz
        have HAA := Lib.hid ha'
        clear ht hz ha'
        go_wp2
        go_ret
        exact ⟨ao', k, cap, rfl, by omega, hcm, ⟨(xs.take i).take k, trim_sl HSL.out hk HAA.out, (HD.out.take _).take _, HT.out, by rw [val_take_of_zeros HZ.out, HE.out]⟩, GW.out⟩
    · have t1 : ¬ (i : Int) < (la : Int) := by omega
      obtain ⟨oo, cap, rfl, hlc, hcm, hsl⟩ := GO.out.sl
      have HSL := Lib.hid hsl
      have HE := Lib.hid (raw_end HLX.out (.inl (by omega)) hil him)
      clear hsl
      go_wp2_with fail
      refine (trim16_raw _ _ _ (xs.take i) _ HSL.out hlc hcm).mono ?_
      rintro e w1 ⟨⟨ao', k, rfl, hk, ha', ht, hz⟩, rfl⟩
      have HT := Lib.hid ht
      have HZ := Lib.hid hz
      have HAA := Lib.hid ha'
      clear ht hz ha'
      go_wp2
      go_ret
      exact ⟨ao', k, cap, rfl, by omega, hcm, ⟨(xs.take i).take k, trim_sl HSL.out hk HAA.out, (HD.out.take _).take _, HT.out, by rw [val_take_of_zeros HZ.out, HE.out]⟩, GW.out⟩

/-- the integer with these digits, of which the first most count -/
def rawZ (s : Bool) (xs : List Nat) (most : Nat) : Int := sgn s (val B16 (xs.take most))

set_option maxHeartbeats 800000 in
theorem refRaw_any (s : Bool) (ao : Option Addr) (la ca : Nat) (xs : List Nat) (K : Int) (most : Nat) (W : World) (hs : Sl .u16 W ao la xs) (hd : Dig B16 xs) (hK : K = (most : Int)) (hm : most ≤ 1000000) (hla : la ≤ 9223372036854775807) :
    Calls Try.prog 75 #[.bool s, .slice ao la ca, .int .i64 K] W (OutJ W (rawZ s xs most)) := by
  subst hK
  have hf : Fr W (W.alloc (.cells #[.bool false, .slice none 0 0] 28)) [(28, #[.bool false, .slice none 0 0])] := (Fr.nil W).alloc rfl _ _
  have HF := Lib.hid hf
  have HS := Lib.hid (hs.keep hf.below)
  have HD := Lib.hid hd
  clear hf hs hd
  go_enter Try.func75, Try.ntmps75
  go_wp2_with fail
  refine (raw_any _ _ _ xs _ most _ HS.out HD.out rfl hm hla).mono ?_
  rintro e w1 ⟨po, pl, pc, rfl, hlc, hcm, hn, hb1⟩
  have HF1 := Lib.hid (HF.out.later hb1)
  have HN := Lib.hid hn
  clear hn hb1
  go_wp2_with fail
  refine (made_any s _ _ _ _ _ HN.out hlc hcm).mono ?_
  rintro e w2 ⟨neg, uo, ul, uc, rfl, huc, hum, hz2, hb2⟩
  have HF2 := Lib.hid (HF1.out.later hb2)
  have HZ2 := Lib.hid hz2
  clear hz2 hb2
  have g0 : w2.cell? ⟨W.heap.size, 0, none⟩ = some (.bool false) := HF2.out.cell 0 0 rfl rfl
  have g1 : w2.cell? ⟨W.heap.size, 1, none⟩ = some (.slice none 0 0) := HF2.out.cell 0 1 rfl rfl
  have g2 : w2.frozen? ⟨W.heap.size, 0, none⟩ = false := HF2.out.frozen 0 0 rfl
  have g3 : w2.frozen? ⟨W.heap.size, 1, none⟩ = false := HF2.out.frozen 0 1 rfl
  go_wp2
  obtain ⟨e0, e1, hz, hbel, _⟩ := HF2.out.finJ (cap := uc) 0 rfl HZ2.out
  exact bodyPost_ret (v := .agg #[.bool neg, .slice uo ul uc]) (by simp only [Nat.add_zero] at e0 e1; simp [results, Try.results75, go_sem, e0, e1]) rfl ⟨neg, uo, ul, uc, rfl, huc, hum, hz, hbel⟩

set_option maxHeartbeats 800000 in
theorem lawOf_any (s : Bool) (ao : Option Addr) (la ca : Nat) (xs : List Nat) (K : Int) (most : Nat) (W : World) (hs : Sl .u16 W ao la xs) (hd : Dig B16 xs) (hK : K = (most : Int)) (hm : most ≤ 1000000) (hla : la ≤ 9223372036854775807) :
    Calls Try.prog 28 #[.agg #[.bool s, .slice ao la ca], .int .i64 K] W (OutJ W (rawZ s xs most)) := by
  subst hK
  have hf : Fr W ((W.alloc (.cells #[.bool s, .slice ao la ca] 46)).alloc (.cells #[.bool false, .slice none 0 0] 28)) [(46, #[.bool s, .slice ao la ca]), (28, #[.bool false, .slice none 0 0])] := ((Fr.nil W).alloc rfl _ _).alloc (by simp) _ _
  have HF := Lib.hid hf
  have HS := Lib.hid (hs.keep hf.below)
  have HD := Lib.hid hd
  clear hf hs hd
  go_enter Try.func28, Try.ntmps28
  go_wp2_with fail
  refine (refRaw_any s _ _ _ xs _ most _ HS.out HD.out rfl hm hla).mono ?_
  rintro e w2 ⟨neg, uo, ul, uc, rfl, huc, hum, hz2, hb2⟩
  have HF2 := Lib.hid (HF.out.later hb2)
  have HZ2 := Lib.hid hz2
  clear hz2 hb2
  have g0 : w2.cell? ⟨W.heap.size + 1, 0, none⟩ = some (.bool false) := HF2.out.cell 1 0 rfl rfl
  have g1 : w2.cell? ⟨W.heap.size + 1, 1, none⟩ = some (.slice none 0 0) := HF2.out.cell 1 1 rfl rfl
  have g2 : w2.frozen? ⟨W.heap.size + 1, 0, none⟩ = false := HF2.out.frozen 1 0 rfl
  have g3 : w2.frozen? ⟨W.heap.size + 1, 1, none⟩ = false := HF2.out.frozen 1 1 rfl
  go_wp2
  obtain ⟨e0, e1, hz, hbel, _⟩ := HF2.out.finJ (cap := uc) 1 rfl HZ2.out
  exact bodyPost_ret (v := .agg #[.bool neg, .slice uo ul uc]) (by simp [results, Try.results28, go_sem, e0, e1]) rfl ⟨neg, uo, ul, uc, rfl, huc, hum, hz, hbel⟩
end Go.Proofs.Ytdnnjjclklcihaa
