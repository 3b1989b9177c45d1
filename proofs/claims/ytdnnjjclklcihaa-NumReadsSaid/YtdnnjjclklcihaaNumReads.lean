/- For every integer x, NumReads(x) returns true, ends, and turns nothing that was there. For every input; no condition. -/
import Derived.Test.YtdnnjjclklcihaaRows
import Derived.Test.YtdnnjjclklcihaaRefI
import Derived.Test.YtdnnjjclklcihaaLaw4
import Derived.Test.YtdnnjjclklcihaaFacts
import Derived.WalkKit
import Derived.ProofKit
import Derived.OpenShut
namespace Go.Proofs.Ytdnnjjclklcihaa.numReads
open Go.ChangeShapes Go.WideShapes Go.ChangeAt Go.RowKit Go.Proofs.Ytdnnjjclklcihaa
set_option linter.unusedVariables false

theorem own : ownKnob Try.prog.godebug = none := by kernel_rfl

set_option maxHeartbeats 4000000 in
theorem walk (s : Bool) (ao : Option Addr) (la ca : Nat) (xs : List Nat) (W : World) (hs : Sl .u16 W ao la xs) (hd : Dig B16 xs) (hla : la ≤ 9223372036854775807) :
    Calls Try.prog 5 #[.agg #[.bool s, .slice ao la ca]] W fun e w' => e = .returned (.bool true) ∧ Below W.heap.size W w' := by
  have hf : Fr W (W.alloc (.cells #[.bool s, .slice ao la ca] 46)) [(46, #[.bool s, .slice ao la ca])] := (Fr.nil W).alloc rfl _ _
  have FP0 := Lib.hid hf
  have HS := Lib.hid (hs.keep hf.below)
  have HD := Lib.hid hd
  obtain ⟨z, hz⟩ : ∃ z, z = rawZ s xs 1024 := ⟨_, rfl⟩
  have HFIT : Hid (Fits z) := by rw [hz]; exact rawZ_fits s xs hd 1024 (by decide)
  obtain ⟨i, hi⟩ : ∃ i, i = iv z := ⟨_, rfl⟩
  obtain ⟨b, hb⟩ : ∃ b, b = ib z := ⟨_, rfl⟩
  have HZ := Lib.hid hz
  have HI := Lib.hid hi
  have HB := Lib.hid hb
  clear hf hs hd hz hi hb
  go_enter Try.func5, Try.ntmps5
  go_wp2_with fail
  refine (lawOf_any s _ _ _ xs _ 1024 _ HS.out HD.out rfl (by decide) hla).mono ?_
  rw [← HZ.out]
  rintro e w1 ⟨sa, oa, lA, cA, rfl, hlcA, hcmA, hzA, hb1⟩
  have FP1 := Lib.hid (FP0.out.later hb1)
  have hlA : lA ≤ 1000000 := Nat.le_trans (fits_len16 hzA HFIT.out) (by decide)
  have hfA : Fr w1 (w1.alloc (.cells #[.bool sa, .slice oa lA cA] 28)) [(28, #[.bool sa, .slice oa lA cA])] := (Fr.nil w1).alloc rfl _ _
  have FP2 := Lib.hid (FP1.out.later hfA.below)
  have HA2 := Lib.hid (hzA.keep hfA.below)
  have FA2 := Lib.hid hfA
  clear hzA hb1 hfA
  go_wp2_with fail
  refine (made_law _ _ _ _ z _ HA2.out hlA).mono ?_
  rintro e w2 ⟨sy, oy, lY, cY, ok, z', rfl, hlY, hzY, hb2, hxY⟩
  obtain ⟨rfl, rfl⟩ : ok = true ∧ z = z' := by
    rcases hxY with ⟨_, h2, h3⟩ | ⟨h1, _⟩
    · exact ⟨h2, h3.symm⟩
    · exact absurd HFIT.out h1
  have FP3 := Lib.hid (FP2.out.later hb2)
  have FA3 := Lib.hid (FA2.out.later hb2)
  have HA3 := Lib.hid (HA2.out.keep hb2)
  have hfY : Fr w2 (w2.alloc (.cells #[.bool sy, .slice oy lY cY] 24)) [(24, #[.bool sy, .slice oy lY cY])] := (Fr.nil w2).alloc rfl _ _
  have FP4 := Lib.hid (FP3.out.later hfY.below)
  have FA4 := Lib.hid (FA3.out.later hfY.below)
  have HA4 := Lib.hid (HA3.out.keep hfY.below)
  have HY4 := Lib.hid (hzY.keep hfY.below)
  have FY4 := Lib.hid hfY
  clear hzY hb2 hfY hxY
  have hlY2 : lY ≤ 1000000000 := by omega
  have hlA2 : lA ≤ 1000000000 := by omega
  have b0 : (w2.alloc (.cells #[.bool sy, .slice oy lY cY] 24)).cell? ⟨w1.heap.size, 0, none⟩ = some (.bool sa) := FA4.out.cell 0 0 rfl rfl
  have b1 : (w2.alloc (.cells #[.bool sy, .slice oy lY cY] 24)).cell? ⟨w1.heap.size, 1, none⟩ = some (.slice oa lA cA) := FA4.out.cell 0 1 rfl rfl
  have b2 : (w2.alloc (.cells #[.bool sy, .slice oy lY cY] 24)).cell? ⟨w2.heap.size, 0, none⟩ = some (.bool sy) := FY4.out.cell 0 0 rfl rfl
  have b3 : (w2.alloc (.cells #[.bool sy, .slice oy lY cY] 24)).cell? ⟨w2.heap.size, 1, none⟩ = some (.slice oy lY cY) := FY4.out.cell 0 1 rfl rfl
  go_wp2_with fail
  refine ((int16_any _ _ _ _ z _ HA4.out hlA2).mono fun e w h => h.one).mono ?_
  rw [← HI.out, ← HB.out]
  rintro e w3 ⟨rfl, hb3⟩
  clear b0 b1 b2 b3
  have FP5 := Lib.hid (FP4.out.later hb3)
  have FA5 := Lib.hid (FA4.out.later hb3)
  have FY5 := Lib.hid (FY4.out.later hb3)
  have HA5 := Lib.hid (HA4.out.keep hb3)
  have HY5 := Lib.hid (HY4.out.keep hb3)
  clear hb3
  have b0 : w3.cell? ⟨w1.heap.size, 0, none⟩ = some (.bool sa) := FA5.out.cell 0 0 rfl rfl
  have b1 : w3.cell? ⟨w1.heap.size, 1, none⟩ = some (.slice oa lA cA) := FA5.out.cell 0 1 rfl rfl
  have b2 : w3.cell? ⟨w2.heap.size, 0, none⟩ = some (.bool sy) := FY5.out.cell 0 0 rfl rfl
  have b3 : w3.cell? ⟨w2.heap.size, 1, none⟩ = some (.slice oy lY cY) := FY5.out.cell 0 1 rfl rfl
  go_wp2_with fail
  refine ((toInt_any _ _ _ _ z _ HY5.out).mono fun e w h => h.one).mono ?_
  rw [← HI.out, ← HB.out]
  rintro e w4 ⟨rfl, hb4⟩
  clear b0 b1 b2 b3
  have FP6 := Lib.hid (FP5.out.later hb4)
  have FA6 := Lib.hid (FA5.out.later hb4)
  have FY6 := Lib.hid (FY5.out.later hb4)
  have HA6 := Lib.hid (HA5.out.keep hb4)
  have HY6 := Lib.hid (HY5.out.keep hb4)
  clear hb4
  have b0 : w4.cell? ⟨w1.heap.size, 0, none⟩ = some (.bool sa) := FA6.out.cell 0 0 rfl rfl
  have b1 : w4.cell? ⟨w1.heap.size, 1, none⟩ = some (.slice oa lA cA) := FA6.out.cell 0 1 rfl rfl
  have b2 : w4.cell? ⟨w2.heap.size, 0, none⟩ = some (.bool sy) := FY6.out.cell 0 0 rfl rfl
  have b3 : w4.cell? ⟨w2.heap.size, 1, none⟩ = some (.slice oy lY cY) := FY6.out.cell 0 1 rfl rfl
  go_wp2_with fail
  go_region_held3 (fun w' => w'.cell? ⟨w1.heap.size, 0, none⟩ = some (.bool sa) ∧ w'.cell? ⟨w1.heap.size, 1, none⟩ = some (.slice oa lA cA) ∧ w'.cell? ⟨w2.heap.size, 0, none⟩ = some (.bool sy) ∧ w'.cell? ⟨w2.heap.size, 1, none⟩ = some (.slice oy lY cY)) (go_keep)
    (first | (go_at_call 23; refine (awake_any _).mono ?_; rintro e u10 ⟨rfl, hb⟩; have hbb := hb; have FPr10 := Lib.hid (FPr9.out.later hbb); have FAr10 := Lib.hid (FAr9.out.later hbb); have FYr10 := Lib.hid (FYr9.out.later hbb); have HAr10 := Lib.hid (HAr9.out.keep hbb); have HYr10 := Lib.hid (HYr9.out.keep hbb); have HNr10 := Lib.hid (HNr9.out.keep hbb); have HOr10 := Lib.hid (HOr9.out.keep hbb); clear hb hbb; have c10x0 : u10.cell? ⟨w1.heap.size, 0, none⟩ = some (.bool sa) := FAr10.out.cell 0 0 rfl rfl; have c10x1 : u10.cell? ⟨w1.heap.size, 1, none⟩ = some (.slice oa lA cA) := FAr10.out.cell 0 1 rfl rfl; have c10x2 : u10.cell? ⟨w2.heap.size, 0, none⟩ = some (.bool sy) := FYr10.out.cell 0 0 rfl rfl; have c10x3 : u10.cell? ⟨w2.heap.size, 1, none⟩ = some (.slice oy lY cY) := FYr10.out.cell 0 1 rfl rfl) | (go_at_call 31; refine (text16_any _ _ _ _ (-z) _ HO0.out hlP).mono ?_; rintro e u9 ⟨rfl, hb⟩; have hbb := hb; have FPr9 := Lib.hid (FPr8.out.later hbb); have FAr9 := Lib.hid (FAr8.out.later hbb); have FYr9 := Lib.hid (FYr8.out.later hbb); have HAr9 := Lib.hid (HAr8.out.keep hbb); have HYr9 := Lib.hid (HYr8.out.keep hbb); have HNr9 := Lib.hid (HNr8.out.keep hbb); have HOr9 := Lib.hid (HO0.out.keep hbb); clear hb hbb; have c9x0 : u9.cell? ⟨w1.heap.size, 0, none⟩ = some (.bool sa) := FAr9.out.cell 0 0 rfl rfl; have c9x1 : u9.cell? ⟨w1.heap.size, 1, none⟩ = some (.slice oa lA cA) := FAr9.out.cell 0 1 rfl rfl; have c9x2 : u9.cell? ⟨w2.heap.size, 0, none⟩ = some (.bool sy) := FYr9.out.cell 0 0 rfl rfl; have c9x3 : u9.cell? ⟨w2.heap.size, 1, none⟩ = some (.slice oy lY cY) := FYr9.out.cell 0 1 rfl rfl) | (go_at_call 33; refine (opp16_any _ _ _ _ z _ HAr7.out hlcA hcmA).mono ?_; rintro e u8 ⟨sp, op, lP, cP, rfl, hlcP, hcmP, hzP, hb⟩; have hbb := hb; have FPr8 := Lib.hid (FPr7.out.later hbb); have FAr8 := Lib.hid (FAr7.out.later hbb); have FYr8 := Lib.hid (FYr7.out.later hbb); have HAr8 := Lib.hid (HAr7.out.keep hbb); have HYr8 := Lib.hid (HYr7.out.keep hbb); have HNr8 := Lib.hid (HNr7.out.keep hbb); have hlP : lP ≤ 1000000000 := opp_len hzP HFIT.out; have HO0 := Lib.hid hzP; clear hzP; clear hb hbb; have c8x0 : u8.cell? ⟨w1.heap.size, 0, none⟩ = some (.bool sa) := FAr8.out.cell 0 0 rfl rfl; have c8x1 : u8.cell? ⟨w1.heap.size, 1, none⟩ = some (.slice oa lA cA) := FAr8.out.cell 0 1 rfl rfl; have c8x2 : u8.cell? ⟨w2.heap.size, 0, none⟩ = some (.bool sy) := FYr8.out.cell 0 0 rfl rfl; have c8x3 : u8.cell? ⟨w2.heap.size, 1, none⟩ = some (.slice oy lY cY) := FYr8.out.cell 0 1 rfl rfl) | (go_at_call 26; refine (string_any _ _ _ _ (-z) _ HN0.out hlN).mono ?_; rintro e u7 ⟨rfl, hb⟩; have hbb := hb; have FPr7 := Lib.hid (FPr6.out.later hbb); have FAr7 := Lib.hid (FAr6.out.later hbb); have FYr7 := Lib.hid (FYr6.out.later hbb); have HAr7 := Lib.hid (HAr6.out.keep hbb); have HYr7 := Lib.hid (HYr6.out.keep hbb); have HNr7 := Lib.hid (HN0.out.keep hbb); clear hb hbb; have c7x0 : u7.cell? ⟨w1.heap.size, 0, none⟩ = some (.bool sa) := FAr7.out.cell 0 0 rfl rfl; have c7x1 : u7.cell? ⟨w1.heap.size, 1, none⟩ = some (.slice oa lA cA) := FAr7.out.cell 0 1 rfl rfl; have c7x2 : u7.cell? ⟨w2.heap.size, 0, none⟩ = some (.bool sy) := FYr7.out.cell 0 0 rfl rfl; have c7x3 : u7.cell? ⟨w2.heap.size, 1, none⟩ = some (.slice oy lY cY) := FYr7.out.cell 0 1 rfl rfl) | (go_at_call 32; refine (neg_any _ _ _ _ z _ HYr5.out hlY2).mono ?_; rintro e u6 ⟨sn, on, lN, cN, rfl, hzN, hb⟩; have hbb := hb; have FPr6 := Lib.hid (FPr5.out.later hbb); have FAr6 := Lib.hid (FAr5.out.later hbb); have FYr6 := Lib.hid (FYr5.out.later hbb); have HAr6 := Lib.hid (HAr5.out.keep hbb); have HYr6 := Lib.hid (HYr5.out.keep hbb); have hlN : lN ≤ 1000000000 := neg_len hzN HFIT.out; have HN0 := Lib.hid hzN; clear hzN; clear hb hbb; have c6x0 : u6.cell? ⟨w1.heap.size, 0, none⟩ = some (.bool sa) := FAr6.out.cell 0 0 rfl rfl; have c6x1 : u6.cell? ⟨w1.heap.size, 1, none⟩ = some (.slice oa lA cA) := FAr6.out.cell 0 1 rfl rfl; have c6x2 : u6.cell? ⟨w2.heap.size, 0, none⟩ = some (.bool sy) := FYr6.out.cell 0 0 rfl rfl; have c6x3 : u6.cell? ⟨w2.heap.size, 1, none⟩ = some (.slice oy lY cY) := FYr6.out.cell 0 1 rfl rfl) | (go_at_call 20; refine (bitLen16_any _ _ _ _ z _ HAr4.out hlA2).mono ?_; rintro e u5 ⟨rfl, hb⟩; have hbb := hb; have FPr5 := Lib.hid (FPr4.out.later hbb); have FAr5 := Lib.hid (FAr4.out.later hbb); have FYr5 := Lib.hid (FYr4.out.later hbb); have HAr5 := Lib.hid (HAr4.out.keep hbb); have HYr5 := Lib.hid (HYr4.out.keep hbb); clear hb hbb; have c5x0 : u5.cell? ⟨w1.heap.size, 0, none⟩ = some (.bool sa) := FAr5.out.cell 0 0 rfl rfl; have c5x1 : u5.cell? ⟨w1.heap.size, 1, none⟩ = some (.slice oa lA cA) := FAr5.out.cell 0 1 rfl rfl; have c5x2 : u5.cell? ⟨w2.heap.size, 0, none⟩ = some (.bool sy) := FYr5.out.cell 0 0 rfl rfl; have c5x3 : u5.cell? ⟨w2.heap.size, 1, none⟩ = some (.slice oy lY cY) := FYr5.out.cell 0 1 rfl rfl) | (go_at_call 19; refine (bitLen_any _ _ _ _ z _ HYr3.out hlY2).mono ?_; rintro e u4 ⟨rfl, hb⟩; have hbb := hb; have FPr4 := Lib.hid (FPr3.out.later hbb); have FAr4 := Lib.hid (FAr3.out.later hbb); have FYr4 := Lib.hid (FYr3.out.later hbb); have HAr4 := Lib.hid (HAr3.out.keep hbb); have HYr4 := Lib.hid (HYr3.out.keep hbb); clear hb hbb; have c4x0 : u4.cell? ⟨w1.heap.size, 0, none⟩ = some (.bool sa) := FAr4.out.cell 0 0 rfl rfl; have c4x1 : u4.cell? ⟨w1.heap.size, 1, none⟩ = some (.slice oa lA cA) := FAr4.out.cell 0 1 rfl rfl; have c4x2 : u4.cell? ⟨w2.heap.size, 0, none⟩ = some (.bool sy) := FYr4.out.cell 0 0 rfl rfl; have c4x3 : u4.cell? ⟨w2.heap.size, 1, none⟩ = some (.slice oy lY cY) := FYr4.out.cell 0 1 rfl rfl) | (go_at_call 22; refine (sign16_any _ _ _ _ z _ HAr2.out).mono ?_; rintro e u3 ⟨rfl, hb⟩; have hbb := hb; have FPr3 := Lib.hid (FPr2.out.later hbb); have FAr3 := Lib.hid (FAr2.out.later hbb); have FYr3 := Lib.hid (FYr2.out.later hbb); have HAr3 := Lib.hid (HAr2.out.keep hbb); have HYr3 := Lib.hid (HYr2.out.keep hbb); clear hb hbb; have c3x0 : u3.cell? ⟨w1.heap.size, 0, none⟩ = some (.bool sa) := FAr3.out.cell 0 0 rfl rfl; have c3x1 : u3.cell? ⟨w1.heap.size, 1, none⟩ = some (.slice oa lA cA) := FAr3.out.cell 0 1 rfl rfl; have c3x2 : u3.cell? ⟨w2.heap.size, 0, none⟩ = some (.bool sy) := FYr3.out.cell 0 0 rfl rfl; have c3x3 : u3.cell? ⟨w2.heap.size, 1, none⟩ = some (.slice oy lY cY) := FYr3.out.cell 0 1 rfl rfl) | (go_at_call 21; refine (sign_any _ _ _ _ z _ HYr1.out).mono ?_; rintro e u2 ⟨rfl, hb⟩; have hbb := hb; have FPr2 := Lib.hid (FPr1.out.later hbb); have FAr2 := Lib.hid (FAr1.out.later hbb); have FYr2 := Lib.hid (FYr1.out.later hbb); have HAr2 := Lib.hid (HAr1.out.keep hbb); have HYr2 := Lib.hid (HYr1.out.keep hbb); clear hb hbb; have c2x0 : u2.cell? ⟨w1.heap.size, 0, none⟩ = some (.bool sa) := FAr2.out.cell 0 0 rfl rfl; have c2x1 : u2.cell? ⟨w1.heap.size, 1, none⟩ = some (.slice oa lA cA) := FAr2.out.cell 0 1 rfl rfl; have c2x2 : u2.cell? ⟨w2.heap.size, 0, none⟩ = some (.bool sy) := FYr2.out.cell 0 0 rfl rfl; have c2x3 : u2.cell? ⟨w2.heap.size, 1, none⟩ = some (.slice oy lY cY) := FYr2.out.cell 0 1 rfl rfl) | (go_at_call 31; refine (text16_any _ _ _ _ z _ HAr0.out hlA2).mono ?_; rintro e u1 ⟨rfl, hb⟩; have hbb := hb; have FPr1 := Lib.hid (FPr0.out.later hbb); have FAr1 := Lib.hid (FAr0.out.later hbb); have FYr1 := Lib.hid (FYr0.out.later hbb); have HAr1 := Lib.hid (HAr0.out.keep hbb); have HYr1 := Lib.hid (HYr0.out.keep hbb); clear hb hbb; have c1x0 : u1.cell? ⟨w1.heap.size, 0, none⟩ = some (.bool sa) := FAr1.out.cell 0 0 rfl rfl; have c1x1 : u1.cell? ⟨w1.heap.size, 1, none⟩ = some (.slice oa lA cA) := FAr1.out.cell 0 1 rfl rfl; have c1x2 : u1.cell? ⟨w2.heap.size, 0, none⟩ = some (.bool sy) := FYr1.out.cell 0 0 rfl rfl; have c1x3 : u1.cell? ⟨w2.heap.size, 1, none⟩ = some (.slice oy lY cY) := FYr1.out.cell 0 1 rfl rfl) | (go_at_call 26; refine (string_any _ _ _ _ z w4.drew (HY6.out.keep (Below.refl _ _).drew) hlY2).mono ?_; rintro e u0 ⟨rfl, hb⟩; have hbb := below_of_drew hb; have FPr0 := Lib.hid (FP6.out.later hbb); have FAr0 := Lib.hid (FA6.out.later hbb); have FYr0 := Lib.hid (FY6.out.later hbb); have HAr0 := Lib.hid (HA6.out.keep hbb); have HYr0 := Lib.hid (HY6.out.keep hbb); clear hb hbb; have c0x0 : u0.cell? ⟨w1.heap.size, 0, none⟩ = some (.bool sa) := FAr0.out.cell 0 0 rfl rfl; have c0x1 : u0.cell? ⟨w1.heap.size, 1, none⟩ = some (.slice oa lA cA) := FAr0.out.cell 0 1 rfl rfl; have c0x2 : u0.cell? ⟨w2.heap.size, 0, none⟩ = some (.bool sy) := FYr0.out.cell 0 0 rfl rfl; have c0x3 : u0.cell? ⟨w2.heap.size, 1, none⟩ = some (.slice oy lY cY) := FYr0.out.cell 0 1 rfl rfl))
  go_wp2
  go_ret
  exact ⟨rfl, FPr10.out.below⟩

set_option maxRecDepth 100000 in
theorem lifted (os : Os) (started : os.Started) (H : Type) (enc : TypeId × Value → H) :
    ReturnsInHanded {} Try.checked os 5 .any (Rows.numReadsSpec.pre6 enc Try.prog Try.f5 Rows.numReadsRow.domain false) (Rows.numReadsSpec.post enc Try.prog Try.f5 false true false false) := by
  refine returnsInHanded_of_change (C := Try.checked) own started (by kernel_rfl) Try.func5
    (ChangeSpec.witness6 (enc := enc) (C := Try.checked) false ⟨#[], #[.agg #[.bool false, .slice none 0 0]], []⟩ 8 (by kernel_rfl) (by kernel_rfl) (by kernel_rfl) (by kernel_rfl)) ?_
  intro W base args ds gs before hval0 hW hcnd _
  have hval : ∀ (j : Nat) t v, Try.f5.params[j]? = some t → args[j]? = some v → Value.okWide Try.prog W .any base t v := hval0
  have hW' := hW
  obtain ⟨p, q, hA0, hV, rfl, hfz, hnd⟩ := hW
  have hA : DataW.TrodAll enc Try.prog W 0 (fun _ => true) true Try.f5.params.toList args.toList ds p := hA0
  have hAk := hA
  rw [Try.params5] at hA hval
  obtain ⟨v0, vs0, d0, ds0, p0, q0, hargs, rfl, rfl, h0, r0⟩ := trodAll_cons hA
  obtain ⟨rfl, rfl, rfl⟩ := trodAll_nil r0
  obtain rfl : args = #[v0] := by cases args; simp_all
  obtain ⟨rfl, rfl⟩ := trodVars_none hV
  obtain ⟨s, ao, la, ca, xs, rfl, hs, hd, hla⟩ := open_raw (hval 0 46 v0 rfl rfl) h0
  clear hA0 hval0
  rw [List.append_nil] at hW'
  refine (walk s ao la ca xs W hs hd hla).mono fun e W' ⟨he, hg⟩ => ?_
  subst he
  exact ⟨_, rfl, post_law (by kernel_rfl) (by rw [Try.params5]; intro t ht; simp at ht; subst ht; exact ⟨by kernel_rfl, of_decide_eq_true (by kernel_rfl)⟩) hW' rfl rfl Try.underlying4 hAk rfl rfl rfl hg⟩

theorem over : Rows.numReadsRow.holds Try.pinned (OpenSpec.ofChange Rows.numReadsSpec) :=
  OpenClaim.holds_of_wide 5 Try.f5 rfl rfl rfl rfl rfl rfl rfl ⟨rfl, rfl, rfl, rfl, rfl⟩ rfl rfl rfl rfl rfl (by kernel_rfl) Try.func5 (by kernel_rfl)
    (of_decide_eq_true (by kernel_rfl)) (by unfold Func.isWrapper; first | (rw [if_pos (by decide +kernel)]; kernel_rfl) | (rw [if_neg (by decide +kernel)]; exact ⟨rfl, rfl⟩))
    (fun os started H enc _ => lifted os started H enc)

/-- the statement -/
theorem proved : Rows.NumReadsSaid :=
  over
end Go.Proofs.Ytdnnjjclklcihaa.numReads
