/- The laws' helper two. -/
import Derived.Test.YtdnnjjclklcihaaLaw3
set_option linter.unusedVariables false
namespace Go.Proofs.Ytdnnjjclklcihaa
open Go.RowKit Go.Proofs

/-- made's answer about z -/
def MadeIs (z : Int) (ok : Bool) (z' : Int) : Prop := (Fits z ∧ ok = true ∧ z' = z) ∨ (¬ Fits z ∧ ok = false ∧ z' = 0)

def TwoPost (x y : Int) (W : World) (e : Ending) (w' : World) : Prop :=
  ∃ na ao la ca nb bo lb cb ok1 ok2 x' y', e = .returned (.tuple #[.agg #[.bool na, .slice ao la ca], .agg #[.bool nb, .slice bo lb cb], .bool (ok1 && ok2)]) ∧ la ≤ 512 ∧ lb ≤ 512 ∧
    Z32 w' na ao la x' ∧ Z32 w' nb bo lb y' ∧ Below W.heap.size W w' ∧ MadeIs x ok1 x' ∧ MadeIs y ok2 y'

theorem drew_cell (w : World) (a : Addr) : w.drew.cell? a = w.cell? a := rfl

set_option maxHeartbeats 2000000 in
theorem two_any (na nb : Bool) (ao bo : Option Addr) (la lb ca cb : Nat) (x y : Int) (W : World) (ha : Z16 W na ao la x) (hb : Z16 W nb bo lb y) (hla : la ≤ 1000000) (hlb : lb ≤ 1000000) :
    Calls Try.prog 34 #[.agg #[.bool na, .slice ao la ca], .agg #[.bool nb, .slice bo lb cb]] W (TwoPost x y W) := by
  have hf : Fr W ((((W.alloc (.cells #[.bool na, .slice ao la ca] 28)).alloc (.cells #[.bool nb, .slice bo lb cb] 28)).alloc (.cells #[.bool false, .slice none 0 0] 24)).alloc (.cells #[.bool false, .slice none 0 0] 24))
      [(28, #[.bool na, .slice ao la ca]), (28, #[.bool nb, .slice bo lb cb]), (24, #[.bool false, .slice none 0 0]), (24, #[.bool false, .slice none 0 0])] :=
    ((((Fr.nil W).alloc rfl _ _).alloc (by simp) _ _).alloc (by simp) _ _).alloc (by simp) _ _
  have HA := Lib.hid (ha.keep hf.below)
  have HB := Lib.hid (hb.keep hf.below)
  have HF := Lib.hid hf
  clear ha hb hf
  go_enter Try.func34, Try.ntmps34
  go_wp2_with fail
  refine (made_law _ _ _ _ x _ HA.out hla).mono ?_
  rintro e w1 ⟨s1, o1, l1, c1, ok1, x', rfl, hl1, hz1, hb1, hx1⟩
  have HF1 := Lib.hid (HF.out.later hb1)
  have HB1 := Lib.hid (HB.out.keep hb1)
  have HZ1 := Lib.hid hz1
  have HX1 : Hid (MadeIs x ok1 x') := hx1
  clear hz1 hb1 hx1
  have hfb : Fr w1 (w1.alloc (.cells #[.bool s1, .slice o1 l1 c1] 24)) [(24, #[.bool s1, .slice o1 l1 c1])] := (Fr.nil w1).alloc rfl _ _
  have HFB := Lib.hid hfb
  have HF2 := Lib.hid (HF1.out.later hfb.below)
  have HB2 := Lib.hid (HB1.out.keep hfb.below)
  have HZ2 := Lib.hid (HZ1.out.keep hfb.below)
  clear hfb
  have b2 : (w1.alloc (.cells #[.bool s1, .slice o1 l1 c1] 24)).cell? ⟨W.heap.size + 1, 0, none⟩ = some (.bool nb) := HF2.out.cell 1 0 rfl rfl
  have b3 : (w1.alloc (.cells #[.bool s1, .slice o1 l1 c1] 24)).cell? ⟨W.heap.size + 1, 1, none⟩ = some (.slice bo lb cb) := HF2.out.cell 1 1 rfl rfl
  go_wp2_with fail
  refine (made_law _ _ _ _ y _ HB2.out hlb).mono ?_
  rintro e w2 ⟨s2, o2, l2, c2, ok2, y', rfl, hl2, hz2, hb2, hx2⟩
  have HF3 := Lib.hid (HF2.out.later hb2)
  have HFB3 := Lib.hid (HFB.out.later hb2)
  have HY3 := Lib.hid (HZ2.out.keep hb2)
  have HZ3 := Lib.hid hz2
  have HX2 : Hid (MadeIs y ok2 y') := hx2
  clear hz2 hb2 hx2
  have hfc : Fr w2 (w2.alloc (.cells #[.bool s2, .slice o2 l2 c2] 24)) [(24, #[.bool s2, .slice o2 l2 c2])] := (Fr.nil w2).alloc rfl _ _
  have HF4 := Lib.hid (HF3.out.later hfc.below)
  have HFB4 := Lib.hid (HFB3.out.later hfc.below)
  have HY4 := Lib.hid (HY3.out.keep hfc.below)
  have HZ4 := Lib.hid (HZ3.out.keep hfc.below)
  have HFC := Lib.hid hfc
  clear hfc b2 b3
  go_wp2_with fail
  obtain ⟨W3, hW3⟩ : ∃ W3, W3 = w2.alloc (.cells #[.bool s2, .slice o2 l2 c2] 24) := ⟨_, rfl⟩
  rw [← hW3] at HF4 HFB4 HY4 HZ4 HFC ⊢
  clear hW3
  have d0 : W3.cell? ⟨w1.heap.size, 0, none⟩ = some (.bool s1) := HFB4.out.cell 0 0 rfl rfl
  have d1 : W3.cell? ⟨w1.heap.size, 1, none⟩ = some (.slice o1 l1 c1) := HFB4.out.cell 0 1 rfl rfl
  have d2 : W3.cell? ⟨w2.heap.size, 0, none⟩ = some (.bool s2) := HFC.out.cell 0 0 rfl rfl
  have d3 : W3.cell? ⟨w2.heap.size, 1, none⟩ = some (.slice o2 l2 c2) := HFC.out.cell 0 1 rfl rfl
  have g0 : W3.cell? ⟨W.heap.size + 1 + 1, 0, none⟩ = some (.bool false) := HF4.out.cell 2 0 rfl rfl
  have g1 : W3.cell? ⟨W.heap.size + 1 + 1, 1, none⟩ = some (.slice none 0 0) := HF4.out.cell 2 1 rfl rfl
  have g2 : W3.frozen? ⟨W.heap.size + 1 + 1, 0, none⟩ = false := HF4.out.frozen 2 0 rfl
  have g3 : W3.frozen? ⟨W.heap.size + 1 + 1, 1, none⟩ = false := HF4.out.frozen 2 1 rfl
  have g4 : W3.cell? ⟨W.heap.size + 1 + 1 + 1, 0, none⟩ = some (.bool false) := HF4.out.cell 3 0 rfl rfl
  have g5 : W3.cell? ⟨W.heap.size + 1 + 1 + 1, 1, none⟩ = some (.slice none 0 0) := HF4.out.cell 3 1 rfl rfl
  have g6 : W3.frozen? ⟨W.heap.size + 1 + 1 + 1, 0, none⟩ = false := HF4.out.frozen 3 0 rfl
  have g7 : W3.frozen? ⟨W.heap.size + 1 + 1 + 1, 1, none⟩ = false := HF4.out.frozen 3 1 rfl
  have hs1 : W.heap.size + 4 ≤ w1.heap.size := by have := HF1.out.size; simpa using this
  have hs2 : w1.heap.size + 1 ≤ w2.heap.size := by have := HFB3.out.size; simpa using this
  cases ok1 with
  | false =>
    go_region
    go_wp2
    obtain ⟨k0, k1, hz, _, hfr⟩ := HF4.out.finI (cap := c1) 2 rfl HY4.out
    have hy2 := (HZ4.out.setFr HF4.out 2 0 rfl rfl (.bool s1)).setFr (HF4.out.set 2 0 rfl (.bool s1)) 2 1 rfl rfl (.slice o1 l1 c1)
    obtain ⟨k2, k3, hy3, hbel, hfr2⟩ := hfr.finI (cap := c2) 3 rfl hy2
    have hz3 := (hz.setFr hfr 3 0 rfl rfl (.bool s2)).setFr (hfr.set 3 0 rfl (.bool s2)) 3 1 rfl rfl (.slice o2 l2 c2)
    have k4 := hfr2.cell 2 0 (v := .bool s1) rfl rfl
    have k5 := hfr2.cell 2 1 (v := .slice o1 l1 c1) rfl rfl
    exact bodyPost_ret (v := .tuple #[.agg #[.bool s1, .slice o1 l1 c1], .agg #[.bool s2, .slice o2 l2 c2], .bool false]) (by simp [results, Try.results34, go_sem, k2, k3, k4, k5]) rfl ⟨s1, o1, l1, c1, s2, o2, l2, c2, false, ok2, x', y', rfl, hl1, hl2, hz3, hy3, hbel.drew, HX1.out, HX2.out⟩
  | true =>
    go_region
    go_wp2
    obtain ⟨k0, k1, hz, _, hfr⟩ := HF4.out.finI (cap := c1) 2 rfl HY4.out
    have hy2 := (HZ4.out.setFr HF4.out 2 0 rfl rfl (.bool s1)).setFr (HF4.out.set 2 0 rfl (.bool s1)) 2 1 rfl rfl (.slice o1 l1 c1)
    obtain ⟨k2, k3, hy3, hbel, hfr2⟩ := hfr.finI (cap := c2) 3 rfl hy2
    have hz3 := (hz.setFr hfr 3 0 rfl rfl (.bool s2)).setFr (hfr.set 3 0 rfl (.bool s2)) 3 1 rfl rfl (.slice o2 l2 c2)
    have k4 := hfr2.cell 2 0 (v := .bool s1) rfl rfl
    have k5 := hfr2.cell 2 1 (v := .slice o1 l1 c1) rfl rfl
    exact bodyPost_ret (v := .tuple #[.agg #[.bool s1, .slice o1 l1 c1], .agg #[.bool s2, .slice o2 l2 c2], .bool ok2]) (by simp [results, Try.results34, go_sem, k2, k3, k4, k5]) rfl ⟨s1, o1, l1, c1, s2, o2, l2, c2, true, ok2, x', y', rfl, hl1, hl2, hz3, hy3, hbel.drew, HX1.out, HX2.out⟩
end Go.Proofs.Ytdnnjjclklcihaa
