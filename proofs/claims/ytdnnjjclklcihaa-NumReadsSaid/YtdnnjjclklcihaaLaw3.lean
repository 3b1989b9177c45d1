/- The laws' helper made. -/
import Derived.Test.YtdnnjjclklcihaaNumeral
set_option linter.unusedVariables false
namespace Go.Proofs.Ytdnnjjclklcihaa
open Go.RowKit Go.Proofs

/-- the program's integer that made returns, and whether it fits -/
def MadePost (z : Int) (W : World) (e : Ending) (w' : World) : Prop :=
  ∃ neg ao len cap ok z', e = .returned (.tuple #[.agg #[.bool neg, .slice ao len cap], .bool ok]) ∧ len ≤ 512 ∧ Z32 w' neg ao len z' ∧ Below W.heap.size W w' ∧ ((Fits z ∧ ok = true ∧ z' = z) ∨ (¬ Fits z ∧ ok = false ∧ z' = 0))

theorem fits_zero : Fits 0 := by unfold Fits; decide

set_option maxHeartbeats 1000000 in
theorem made_law (neg : Bool) (ao : Option Addr) (len cap : Nat) (z : Int) (W : World) (h : Z16 W neg ao len z) (hl : len ≤ 1000000) :
    Calls Try.prog 29 #[.agg #[.bool neg, .slice ao len cap]] W (MadePost z W) := by
  have hf : Fr W ((W.alloc (.cells #[.bool neg, .slice ao len cap] 28)).alloc (.cells #[.bool false, .slice none 0 0] 24))
      [(28, #[.bool neg, .slice ao len cap]), (24, #[.bool false, .slice none 0 0])] := ((Fr.nil W).alloc rfl _ _).alloc (by simp) _ _
  have hlt : z.natAbs < B32 ^ len := Nat.lt_of_lt_of_le h.n16.lt (Nat.pow_le_pow_left (by decide) _)
  have hnl := numeralZ_len hlt
  have HZ := Lib.hid (h.keep hf.below)
  have HF := Lib.hid hf
  have hnb : (numeralZ z).length ≤ 100000000 := by omega
  have HNB := Lib.hid hnb
  clear h hf hlt hnl hnb
  go_enter Try.func29, Try.ntmps29
  go_wp2_with fail
  refine (text16_any _ _ _ _ z _ HZ.out (by omega)).mono ?_
  rintro e w1 ⟨rfl, hb1⟩
  have HF1 := Lib.hid (HF.out.later hb1)
  clear hb1
  go_wp2_with fail
  refine ((parse_any (numeralZ z) _ HNB.out).mono fun e w h => h.one).mono ?_
  rintro e w2 ⟨na, po, la, ca, er, z', rfl, hz2, hb2, hx⟩
  have HF2 := Lib.hid (HF1.out.later hb2)
  have hy : (Fits z ∧ er = 0 ∧ z' = z) ∨ (¬ Fits z ∧ er = 3 ∧ z' = 0) := by
    rw [numZ_numeralZ] at hx
    rcases hx with ⟨h1, _⟩ | ⟨_, h2⟩ | ⟨_, h2⟩
    · rw [isNum_numeralZ] at h1; cases h1
    · exact .inr h2
    · exact .inl h2
  have hla : la ≤ 512 := by
    rcases hy with ⟨h1, _, h3⟩ | ⟨_, _, h3⟩
    · rw [h3] at hz2; exact fits_len hz2 h1
    · rw [h3] at hz2; exact fits_len hz2 fits_zero
  have HZ2 := Lib.hid hz2
  clear hx hz2 hb2
  have hfb : Fr w2 (w2.alloc (.cells #[.bool na, .slice po la ca] 24)) [(24, #[.bool na, .slice po la ca])] := (Fr.nil w2).alloc rfl _ _
  have HF3 := Lib.hid (HF2.out.later hfb.below)
  have HZ3 := Lib.hid (HZ2.out.keep hfb.below)
  clear hfb
  have g0 : (w2.alloc (.cells #[.bool na, .slice po la ca] 24)).cell? ⟨W.heap.size + 1, 0, none⟩ = some (.bool false) := HF3.out.cell 1 0 rfl rfl
  have g1 : (w2.alloc (.cells #[.bool na, .slice po la ca] 24)).cell? ⟨W.heap.size + 1, 1, none⟩ = some (.slice none 0 0) := HF3.out.cell 1 1 rfl rfl
  have g2 : (w2.alloc (.cells #[.bool na, .slice po la ca] 24)).frozen? ⟨W.heap.size + 1, 0, none⟩ = false := HF3.out.frozen 1 0 rfl
  have g3 : (w2.alloc (.cells #[.bool na, .slice po la ca] 24)).frozen? ⟨W.heap.size + 1, 1, none⟩ = false := HF3.out.frozen 1 1 rfl
  rcases hy with ⟨h1, rfl, rfl⟩ | ⟨h1, rfl, rfl⟩
  · have HX := Lib.hid h1
    clear h1
    go_wp2
    obtain ⟨e0, e1, hz, hbel, _⟩ := HF3.out.finI (cap := ca) 1 rfl HZ3.out
    exact bodyPost_ret (v := .tuple #[.agg #[.bool na, .slice po la ca], .bool true]) (by simp [results, Try.results29, go_sem, e0, e1]) rfl ⟨na, po, la, ca, true, _, rfl, hla, hz, hbel, .inl ⟨HX.out, rfl, rfl⟩⟩
  · have HX := Lib.hid h1
    clear h1
    go_wp2
    obtain ⟨e0, e1, hz, hbel, _⟩ := HF3.out.finI (cap := ca) 1 rfl HZ3.out
    exact bodyPost_ret (v := .tuple #[.agg #[.bool na, .slice po la ca], .bool false]) (by simp [results, Try.results29, go_sem, e0, e1]) rfl ⟨na, po, la, ca, false, _, rfl, hla, hz, hbel, .inr ⟨HX.out, rfl, rfl⟩⟩
end Go.Proofs.Ytdnnjjclklcihaa
