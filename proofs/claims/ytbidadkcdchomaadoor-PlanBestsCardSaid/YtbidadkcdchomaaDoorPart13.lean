/- Part 13 of the contracts: RFeasP, LAwakeM, LAwake, PlanChecksW, LOpen, PHas, PTrue. -/
import Derived.Carry
import Derived.Lib.SmallJoins
import Derived.ProofKit
import Derived.OpenShut
import Derived.Deep.Slices
import Derived.Deep.Fields
import Derived.ChangeSame
import Derived.Test.YtbidadkcdchomaaDoorPart12

/- Feasible as the program asks it and as the specification asks it are the same, where no start is too large. No function of the program is walked here. -/
set_option linter.unusedVariables false
set_option linter.unusedSimpArgs false
namespace Go.Proofs.YtbidadkcdchomaaDoor
open Go.RowKit

theorem stayZ_beg (z : Int) (b : BN) (k : Nat) (h : k < b.tm.length) : stayZ z b.tm (k * 2) = z + (begN b k : Int) ∧ stayZ z b.tm (k * 2 + 1) = z + (begN b (k + 1) : Int) := by
  unfold stayZ begN
  rw [show k * 2 / 2 = k by omega, show (k * 2 + 1) / 2 = k by omega, show k * 2 % 2 = 0 by omega, show (k * 2 + 1) % 2 = 1 by omega, if_pos h, if_pos h]
  exact ⟨rfl, rfl⟩
theorem clashK_meet {b1 b2 : BN} {z1 z2 : Int} {r1 r2 : List Int} {k : Nat} (h1 : k < b1.tm.length) (h2 : k < b2.tm.length) : clashK b1.tm b2.tm z1 z2 r1 r2 k = (decide (r1[k]?.getD 0 = r2[k]?.getD 0) && meetK b1 b2 z1 z2 k) := by
  unfold clashK meetK
  rw [(stayZ_beg z1 b1 k h1).1, (stayZ_beg z1 b1 k h1).2, (stayZ_beg z2 b2 k h2).1, (stayZ_beg z2 b2 k h2).2]
theorem clash_iff {b1 b2 : BN} {z1 z2 : Int} {r1 r2 : List Int} (h1 : b1.tm.length = r1.length) (h2 : b2.tm.length = r1.length) : clashZ b1.tm b2.tm z1 z2 r1 r2 = false ↔ ∀ k, k < r1.length → ¬ (r1[k]?.getD 0 = r2[k]?.getD 0 ∧ meetK b1 b2 z1 z2 k = true) := by
  constructor
  · intro h k hk hc
    have hy : clashK b1.tm b2.tm z1 z2 r1 r2 k = true := by
      rw [clashK_meet (by omega) (by omega), decide_eq_true hc.1, hc.2]; rfl
    rw [clash_yes hk hy] at h
    cases h
  · intro h
    refine clash_no fun k hk => ?_
    rw [clashK_meet (by omega) (by omega), Bool.and_eq_false_iff]
    by_cases e : r1[k]?.getD 0 = r2[k]?.getD 0
    · right
      cases hm : meetK b1 b2 z1 z2 k
      · rfl
      · exact absurd ⟨e, hm⟩ (h k hk)
    · left
      exact decide_eq_false e
theorem feas_iff {vn : List Nat} {bn : List BN} {en : Int} {zs : List Int} {rs : List (List Int)} (hT : TaskN vn bn) (hz : ∀ i, i < zs.length → zs[i]?.getD 0 ≤ 4611686018427387904) : FeasP vn bn en zs rs ↔ FeasR vn bn en zs rs := by
  constructor
  · intro h
    refine ⟨h.ls, h.lr, fun i hi => ?_, fun i hi k hk => ?_, h.en⟩
    · have h1 := okStart_le (h.st i hi)
      have h2 := (h.ve i hi).1
      rw [vI_len] at h2
      exact ⟨⟨h1.1, hz i (by rw [h.ls]; exact hi)⟩, h2⟩
    · have h2 := (h.ve i hi).1
      rw [vI_len] at h2
      have h3 := (h.ve i hi).2 k (by omega)
      rw [vI_get] at h3
      refine ⟨h3, fun j hj => ?_⟩
      have h4 := h.cl i hi j hj
      rw [clash_iff (by rw [h2]; exact hT.len i hi) (by rw [h2]; exact hT.len j (by omega))] at h4
      exact h4 k (by omega)
  · intro h
    refine ⟨h.ls, h.lr, fun i hi => ?_, fun i hi => ?_, fun i hi j hj => ?_, h.en⟩
    · have h1 := (h.row i hi).1
      have := hT.dur hi
      unfold okStart
      rw [decide_eq_true h1.1, decide_eq_true (show zs[i]?.getD 0 ≤ 9223372036854775807 - (durN bn[i]! : Int) by omega)]
      rfl
    · have h2 := (h.row i hi).2
      refine ⟨by rw [vI_len]; exact h2, fun k hk => ?_⟩
      rw [vI_get]
      exact (h.cell i hi k (by omega)).1
    · have h2 := (h.row i hi).2
      rw [clash_iff (by rw [h2]; exact hT.len i hi) (by rw [h2]; exact hT.len j (by omega))]
      exact fun k hk => (h.cell i hi k (by omega)).2 j hj
end Go.Proofs.YtbidadkcdchomaaDoor

/- The laws' example, computed. No function of the program is walked here. -/
set_option linter.unusedVariables false
set_option linter.unusedSimpArgs false
namespace Go.Proofs.YtbidadkcdchomaaDoor
open Go.RowKit

def vnE : List Nat := [1, 1]
def bnE : List BN := [⟨0, [2, 3]⟩, ⟨0, [2, 3]⟩]
theorem e8 : startsN vnE bnE 8 (osN bnE 2) = some [0, 3] := by decide
theorem e8r : startsN vnE bnE 8 (List.range 2) = some [0, 3] := by decide
theorem eno : ∀ j, j < 8 → startsN vnE bnE j (osN bnE 2) = none := by decide
theorem ecol : ∀ k, k < 2 → stageN vnE bnE [0, 3] 2 k = some [0, 0] := by decide
theorem taskE : TaskN vnE bnE := ⟨⟨by decide, by decide⟩, by decide, by decide, by decide, by decide, by decide⟩
theorem bestE_en {en : Nat} (h1 : ∀ j, j < en → startsN vnE bnE j (osN bnE 2) = none) (h2 : startsN vnE bnE en (osN bnE 2) ≠ none) : en = 8 := by
  by_cases h : en < 8
  · exact absurd (eno en h) h2
  · by_cases h3 : 8 < en
    · have := h1 8 h3
      rw [e8] at this
      cases this
    · omega
theorem hasE : HasBest vnE bnE 2 := fun en h0 h1 h2 => by
  obtain rfl := bestE_en h1 h2
  exact ⟨[0, 3], fun _ => [0, 0], h0, h1, h2, e8r, by decide, ecol⟩
theorem bestE {en : Nat} {ss : List Nat} {col : Nat → List Nat} (h : BestN vnE bnE 2 en ss col) : en = 8 ∧ ss = [0, 3] ∧ rowsB col 2 2 = [[0, 0], [0, 0]] := by
  obtain rfl := bestE_en h.no h.yes
  have hs := h.st
  rw [e8r] at hs
  obtain rfl := Option.some.inj hs
  have c0 := h.col 0 (by decide)
  have c1 := h.col 1 (by decide)
  rw [ecol 0 (by decide)] at c0
  rw [ecol 1 (by decide)] at c1
  refine ⟨rfl, rfl, ?_⟩
  have e0 := (Option.some.inj c0).symm
  have e1 := (Option.some.inj c1).symm
  have r2 : List.range 2 = [0, 1] := rfl
  unfold rowsB rowG
  rw [r2]
  simp only [List.map_cons, List.map_nil]
  rw [e0, e1]
  rfl
theorem map_same {α β : Type} {f : α → β} (hf : ∀ x y, f x = f y → x = y) : ∀ a b : List α, a.map f = b.map f → a = b
  | [], [], _ => rfl
  | [], _ :: _, h => by simp at h
  | _ :: _, [], h => by simp at h
  | x :: a, y :: b, h => by
    rw [List.map_cons, List.map_cons] at h
    rw [hf x y (List.cons.inj h).1, map_same hf a b (List.cons.inj h).2]
theorem vI_inj {a b : List Nat} (h : vI a = vI b) : a = b := map_same (fun x y e => Int.ofNat.inj e) a b h
theorem bI_inj {a b : List BN} (h : a.map bI = b.map bI) : a = b := by
  refine map_same (fun x y e => ?_) a b h
  obtain ⟨r1, t1⟩ := x
  obtain ⟨r2, t2⟩ := y
  have h1 := congrArg Bt.rdy e
  have h2 := congrArg Bt.tm e
  have h3 : r1 = r2 := Int.ofNat.inj h1
  have h4 : t1 = t2 := vI_inj h2
  rw [h3, h4]
theorem feasE : FeasR vnE bnE 8 [0, 3] [[0, 0], [0, 0]] := ⟨rfl, rfl, by unfold RowR; decide, by unfold CellR; decide, by decide⟩
theorem feasE_no : ¬ FeasP vnE bnE 0 [] [] := fun h => by have := h.ls; cases this
end Go.Proofs.YtbidadkcdchomaaDoor

/- The laws' awake. -/
set_option linter.unusedVariables false
set_option linter.unusedSimpArgs false
namespace Go.Proofs.YtbidadkcdchomaaDoor
open Go.RowKit

theorem il2 {w : World} {g T : Nat} {a b : Int} (R : w.heap[g]? = some (.cells #[.int .i64 a, .int .i64 b] T (0, 0))) : Il w (some ⟨g, 0, none⟩) 2 [a, b] := by
  refine ⟨rfl, g, 0, fun _ => rfl, fun i hi => ?_⟩
  rw [Nat.zero_add, cell_row R]
  have : i = 0 ∨ i = 1 := by omega
  rcases this with rfl | rfl <;> rfl
theorem batsE {w : World} {g g1 g2 T T2 : Nat} (R : w.heap[g]? = some (.cells #[.int .i64 0, .slice (some ⟨g1, 0, none⟩) 2 2, .int .i64 0, .slice (some ⟨g2, 0, none⟩) 2 2] T (0, 0))) (R1 : w.heap[g1]? = some (.cells #[.int .i64 2, .int .i64 3] T2 (0, 0))) (R2 : w.heap[g2]? = some (.cells #[.int .i64 2, .int .i64 3] T2 (0, 0))) : Bats w (some ⟨g, 0, none⟩) 2 (bnE.map bI) := by
  refine ⟨rfl, g, 0, fun _ => rfl, fun i hi => ?_⟩
  have : i = 0 ∨ i = 1 := by omega
  rcases this with rfl | rfl
  · exact ⟨some ⟨g1, 0, none⟩, 2, 2, by rw [cell_row R]; rfl, by rw [cell_row R]; rfl, il2 R1, by omega⟩
  · exact ⟨some ⟨g2, 0, none⟩, 2, 2, by rw [cell_row R]; rfl, by rw [cell_row R]; rfl, il2 R2, by omega⟩
theorem taskPE : TaskP (vI vnE) (bnE.map bI) := ⟨⟨by decide, by decide, by unfold In; decide⟩, by decide, by unfold FineT In; decide⟩
/-- Best, at the example -/
theorem best_E {g1 g2 bc vc : Nat} (W : World) (hv : Il W (some ⟨g1, 0, none⟩) 2 (vI vnE)) (hb : Bats W (some ⟨g2, 0, none⟩) 2 (bnE.map bI)) (hN : NowM W) :
    Calls Tryd.prog 11 #[.slice (some ⟨g1, 0, none⟩) 2 vc, .slice (some ⟨g2, 0, none⟩) 2 bc] W fun e w' => ∃ sa sc ya, e = .returned (.tuple #[.agg #[.int .i64 8, .slice sa 2 sc, .slice ya 2 2], .int .i64 0]) ∧ Il w' sa 2 [0, 3] ∧ Rows2 w' ya 2 [[0, 0], [0, 0]] ∧ Below W.heap.size W w' := by
  refine (best_any (vI vnE) (bnE.map bI) (some ⟨g1, 0, none⟩) 2 vc (some ⟨g2, 0, none⟩) 2 bc W hv hb hN (by omega) (by omega) (fun vn bn h1 h2 h3 => ?_)).mono ?_
  · rw [← vI_inj h1, ← bI_inj h2]; exact hasE
  · rintro e w' ⟨hbel, ⟨h1, _⟩ | ⟨_, vn, bn, h1, h2, h3, ⟨h4, _⟩ | ⟨en, ss, col, sa, sc, ya, h4, rfl, h5, h6⟩⟩⟩
    · exact absurd taskPE h1
    · rw [← vI_inj h1, ← bI_inj h2] at h4
      have := h4 8 (by omega)
      rw [e8] at this
      cases this
    · have hvn : vn = vnE := (vI_inj h1).symm
      have hbn : bn = bnE := (bI_inj h2).symm
      subst hvn hbn
      obtain ⟨rfl, rfl, h7⟩ := bestE h4
      have h8 : rowsB col 2 vnE.length = [[0, 0], [0, 0]] := h7
      rw [h8] at h6
      exact ⟨sa, sc, ya, rfl, h5, h6, hbel⟩
/-- Check, at the example and its best schedule -/
theorem check_E {g1 g2 bc vc sc : Nat} {sa ya : Option Addr} (W : World) (hv : Il W (some ⟨g1, 0, none⟩) 2 (vI vnE)) (hb : Bats W (some ⟨g2, 0, none⟩) 2 (bnE.map bI)) (hs : Il W sa 2 [0, 3]) (hy : Rows2 W ya 2 [[0, 0], [0, 0]]) :
    Calls Tryd.prog 17 #[.slice (some ⟨g1, 0, none⟩) 2 vc, .slice (some ⟨g2, 0, none⟩) 2 bc, .agg #[.int .i64 8, .slice sa 2 sc, .slice ya 2 2]] W fun e w' => e = .returned (.int .i64 0) ∧ Below W.heap.size W w' := by
  refine (check_any (vI vnE) (bnE.map bI) 8 (some ⟨g1, 0, none⟩) 2 vc (some ⟨g2, 0, none⟩) 2 bc sa 2 sc [0, 3] ya 2 2 [[0, 0], [0, 0]] W hv hb hs hy (by omega) (by omega) (by omega) (by omega)).mono ?_
  rintro e w' ⟨z, rfl, ⟨h1, _⟩ | ⟨_, vn, bn, h1, h2, h3, ⟨h4, rfl⟩ | ⟨h4, _⟩⟩, hb⟩
  · exact absurd taskPE h1
  · exact ⟨rfl, hb⟩
  · rw [← vI_inj h1, ← bI_inj h2] at h4
    exact absurd ((feas_iff taskE (by decide)).2 feasE) h4
/-- Check, at the example and no schedule -/
theorem check_E0 {g1 g2 bc vc : Nat} (W : World) (hv : Il W (some ⟨g1, 0, none⟩) 2 (vI vnE)) (hb : Bats W (some ⟨g2, 0, none⟩) 2 (bnE.map bI)) :
    Calls Tryd.prog 17 #[.slice (some ⟨g1, 0, none⟩) 2 vc, .slice (some ⟨g2, 0, none⟩) 2 bc, .agg #[.int .i64 0, .slice none 0 0, .slice none 0 0]] W fun e w' => e = .returned (.int .i64 20) ∧ Below W.heap.size W w' := by
  refine (check_any (vI vnE) (bnE.map bI) 0 (some ⟨g1, 0, none⟩) 2 vc (some ⟨g2, 0, none⟩) 2 bc none 0 0 [] none 0 0 [] W hv hb (Il.nil _ _) ⟨rfl, 0, 0, fun h => absurd h (Nat.lt_irrefl _), fun i hi => absurd hi (Nat.not_lt_zero _)⟩ (by omega) (by omega) (by omega) (by omega)).mono ?_
  rintro e w' ⟨z, rfl, ⟨h1, _⟩ | ⟨_, vn, bn, h1, h2, h3, ⟨h4, rfl⟩ | ⟨h4, rfl⟩⟩, hb⟩
  · exact absurd taskPE h1
  · rw [← vI_inj h1, ← bI_inj h2] at h4
    exact absurd h4 feasE_no
  · exact ⟨rfl, hb⟩

set_option maxRecDepth 100000 in
set_option maxHeartbeats 4000000 in
theorem awake_any (W : World) (hN : NowM W) : Calls Tryd.prog 9 #[] W fun e w' => e = .returned (.bool true) ∧ Below W.heap.size W w' := by
  obtain ⟨VE, hVE⟩ : ∃ VE, VE = ((W.alloc (.cells #[.int .i64 2, .int .i64 3] 3)).alloc (.cells #[.int .i64 2, .int .i64 3] 3)).alloc (.cells #[.int .i64 0, .slice (some ⟨W.heap.size, 0, none⟩) 2 2, .int .i64 0, .slice (some ⟨W.heap.size + 1, 0, none⟩) 2 2] 43) := ⟨_, rfl⟩
  have b1 := box_below W (.cells #[.int .i64 2, .int .i64 3] 3)
  have b2 := box_below (W.alloc (.cells #[.int .i64 2, .int .i64 3] 3)) (.cells #[.int .i64 2, .int .i64 3] 3)
  have b3 := box_below ((W.alloc (.cells #[.int .i64 2, .int .i64 3] 3)).alloc (.cells #[.int .i64 2, .int .i64 3] 3)) (.cells #[.int .i64 0, .slice (some ⟨W.heap.size, 0, none⟩) 2 2, .int .i64 0, .slice (some ⟨W.heap.size + 1, 0, none⟩) 2 2] 43)
  have s1 : (W.alloc (.cells #[.int .i64 2, .int .i64 3] 3)).heap.size = W.heap.size + 1 := size_alloc _ _
  have s2 : ((W.alloc (.cells #[.int .i64 2, .int .i64 3] 3)).alloc (.cells #[.int .i64 2, .int .i64 3] 3)).heap.size = W.heap.size + 1 + 1 := by rw [size_alloc, s1]
  have HBE : Hid (Below W.heap.size W VE) := Lib.hid (by rw [hVE]; exact below_then b1 (below_then b2 b3))
  have r1 : VE.heap[W.heap.size]? = some (.cells #[.int .i64 2, .int .i64 3] 3 (0, 0)) := by rw [hVE]; exact row_keep (below_then b2 b3) (new_row W _)
  have r2 : VE.heap[W.heap.size + 1]? = some (.cells #[.int .i64 2, .int .i64 3] 3 (0, 0)) := by
    have h := row_keep b3 (new_row (W.alloc (.cells #[.int .i64 2, .int .i64 3] 3)) (.cells #[.int .i64 2, .int .i64 3] 3))
    rw [s1] at h
    rw [hVE]
    exact h
  have r3 : VE.heap[W.heap.size + 1 + 1]? = some (.cells #[.int .i64 0, .slice (some ⟨W.heap.size, 0, none⟩) 2 2, .int .i64 0, .slice (some ⟨W.heap.size + 1, 0, none⟩) 2 2] 43 (0, 0)) := by
    have h := new_row ((W.alloc (.cells #[.int .i64 2, .int .i64 3] 3)).alloc (.cells #[.int .i64 2, .int .i64 3] 3)) (.cells #[.int .i64 0, .slice (some ⟨W.heap.size, 0, none⟩) 2 2, .int .i64 0, .slice (some ⟨W.heap.size + 1, 0, none⟩) 2 2] 43)
    rw [s2] at h
    rw [hVE]
    exact h
  have HBT : Hid (Bats VE (some ⟨W.heap.size + 1 + 1, 0, none⟩) 2 (bnE.map bI)) := Lib.hid (batsE r3 r1 r2)
  have HNW := Lib.hid (hN.keep HBE.out)
  have HVE := Lib.hid hVE
  clear hN hVE b1 b2 b3 s1 s2 r1 r2 r3
  go_enter Tryd.func9, Tryd.ntmps9
  go_upto_region 2 with fail
  rw [← HVE.out]
  have BX := Lib.hid (box_below VE (.cells #[.int .i64 1, .int .i64 1] 3))
  have P := Lib.hid (best_E (g1 := VE.heap.size) (g2 := W.heap.size + 1 + 1) (bc := 2) (vc := 2) (VE.alloc (.cells #[.int .i64 1, .int .i64 1] 3)) (il2 (new_row VE _)) (HBT.out.keep BX.out) (HNW.out.keep BX.out))
  go_upto_region 3 with (go_at_call 11; refine P.out.mono ?_; rintro e w1 ⟨sa, sc, ya, rfl, hi, hy, hb⟩; have HI := Lib.hid hi; have HY := Lib.hid hy; have HB1 := Lib.hid (below_then BX.out hb); clear hi hy hb)
  obtain ⟨w2, hw2⟩ : ∃ w2, w2 = w1.alloc (.cells #[.int .i64 8, .slice sa 2 sc, .slice ya 2 2] 28) := ⟨_, rfl⟩
  have HB2 : Hid (Below w1.heap.size w1 w2) := Lib.hid (by rw [hw2]; exact box_below w1 _)
  have R2 : Hid (w2.heap[w1.heap.size]? = some (.cells #[.int .i64 8, .slice sa 2 sc, .slice ya 2 2] 28 (0, 0))) := Lib.hid (by rw [hw2]; exact new_row w1 _)
  have HI2 := Lib.hid (HI.out.keep HB2.out)
  have HY2 := Lib.hid (HY.out.keep HB2.out)
  have HBT2 := Lib.hid (HBT.out.keep (below_then HB1.out HB2.out))
  have HW2 := Lib.hid (HBE.out.trans ((below_then HB1.out HB2.out).mono HBE.out.size))
  obtain ⟨q0, q1, q2⟩ := cells3 R2.out
  rw [← hw2]
  clear hw2
  go_wp2_with fail
  refine (sameInts_any sa 2 sc (some ⟨w2.heap.size, 0, none⟩) 2 2 [0, 3] [0, 3] _ (HI2.out.keep (box_below w2 _)) (il2 (new_row w2 _)) (by omega) (by omega)).mono ?_
  rintro e w3 ⟨he, hd⟩
  rw [show sameZ [0, 3] [0, 3] = true from by decide] at he
  subst he
  have HB3 : Hid (Below w2.heap.size w2 w3) := Lib.hid (below_then (box_below w2 (.cells #[.int .i64 0, .int .i64 3] 3)) hd.below)
  have B34 := Lib.hid (box_below w3 (.cells #[.int .i64 1, .int .i64 1] 3))
  have BB := Lib.hid (below_then HB3.out B34.out)
  have q0 := cell_later BB.out q0
  have q1 := cell_later BB.out q1
  have q2 := cell_later BB.out q2
  clear hd
  go_wp2_with fail
  refine (check_E (g1 := w3.heap.size) (g2 := W.heap.size + 1 + 1) _ (il2 (new_row w3 _)) (HBT2.out.keep BB.out) (HI2.out.keep BB.out) (HY2.out.keep BB.out)).mono ?_
  rintro e w4 ⟨rfl, hb4⟩
  have B4 := Lib.hid (below_then BB.out hb4)
  clear hb4
  go_wp2_with fail
  refine (check_E0 (g1 := w4.heap.size) (g2 := W.heap.size + 1 + 1) _ (il2 (new_row w4 _)) (HBT2.out.keep (below_then B4.out (box_below w4 _)))).mono ?_
  rintro e w5 ⟨rfl, hb5⟩
  have B5 := Lib.hid (HW2.out.trans ((below_then B4.out (below_then (box_below w4 _) hb5)).mono HW2.out.size))
  clear hb5
  go_wp2
  go_ret
  exact ⟨rfl, B5.out⟩
end Go.Proofs.YtbidadkcdchomaaDoor

/- PlanChecks, at any house, batches and schedule in memory. -/
set_option linter.unusedVariables false
set_option linter.unusedSimpArgs false
namespace Go.Proofs.YtbidadkcdchomaaDoor
open Go.RowKit

def YesT (W : World) (e : Ending) (w' : World) : Prop := e = .returned (.bool true) ∧ Below W.heap.size W w'
set_option maxRecDepth 100000 in
set_option maxHeartbeats 8000000 in
theorem checks_walk (vs : List Int) (bs : List Bt) (en : Int) (va : Option Addr) (vl vc : Nat) (ba : Option Addr) (bl bc : Nat) (sa : Option Addr) (sl sc : Nat) (zs : List Int) (ya : Option Addr) (yl yc : Nat) (rs : List (List Int)) (W : World)
    (hv : Il W va vl vs) (hb : Bats W ba bl bs) (hs : Il W sa sl zs) (hy : Rows2 W ya yl rs) (hN : NowM W) (hvl : vl ≤ 9223372036854775807) (hbl : bl ≤ 9223372036854775807) (hsl : sl ≤ 9223372036854775807) (hyl : yl ≤ 9223372036854775807) :
    Calls Tryd.prog 4 #[.slice va vl vc, .slice ba bl bc, .agg #[.int .i64 en, .slice sa sl sc, .slice ya yl yc]] W (YesT W) := by
  obtain ⟨V, hV⟩ : ∃ V, V = W.alloc (.cells #[.int .i64 en, .slice sa sl sc, .slice ya yl yc] 28) := ⟨_, rfl⟩
  have HB : Hid (Below W.heap.size W V) := Lib.hid (by rw [hV]; exact box_below W _)
  have R : Hid (V.heap[W.heap.size]? = some (.cells #[.int .i64 en, .slice sa sl sc, .slice ya yl yc] 28 (0, 0))) := Lib.hid (by rw [hV]; exact new_row W _)
  have HVI := Lib.hid (hv.keep HB.out)
  have HBB := Lib.hid (hb.keep HB.out)
  have HSS := Lib.hid (hs.keep HB.out)
  have HYY := Lib.hid (hy.keep HB.out)
  have HNN := Lib.hid (hN.keep HB.out)
  have HSL := Lib.hid hs.len
  have HV := Lib.hid hV
  obtain ⟨q0, q1, q2⟩ := cells3 R.out
  clear hv hb hs hy hN hV
  go_enter Tryd.func4, Tryd.ntmps4
  go_upto_region 1 with fail
  rw [← HV.out]
  go_wp2_with fail
  refine (few_any va vl vc ba bl bc bs V HBB.out).mono ?_
  rintro e w1 ⟨b, rfl, hb1⟩
  have HB1 := Lib.hid hb1
  obtain ⟨q0, q1, q2⟩ := cells3 (row_keep hb1 R.out)
  clear hb1
  cases b with
  | false =>
    have PA := Lib.hid (awake_any w1 (HNN.out.keep HB1.out))
    go_wp2_with (go_at_call 9; refine PA.out.mono ?_; rintro e w2 ⟨rfl, hb2⟩; have HB2 := Lib.hid (HB.out.trans ((below_then HB1.out hb2).mono HB.out.size)); clear hb2)
    go_ret
    exact ⟨rfl, HB2.out⟩
  | true =>
    go_wp2_with fail
    refine (fewV_any en sa sl sc ya yl yc rs w1 (HYY.out.keep HB1.out)).mono ?_
    rintro e w2 ⟨b, rfl, hb2⟩
    have HB2 := Lib.hid (below_then HB1.out hb2)
    obtain ⟨q0, q1, q2⟩ := cells3 (row_keep HB2.out R.out)
    clear hb2
    cases b with
    | false =>
      have PA := Lib.hid (awake_any w2 (HNN.out.keep HB2.out))
      go_wp2_with (go_at_call 9; refine PA.out.mono ?_; rintro e w3 ⟨rfl, hb3⟩; have HB3 := Lib.hid (HB.out.trans ((below_then HB2.out hb3).mono HB.out.size)); clear hb3)
      go_ret
      exact ⟨rfl, HB3.out⟩
    | true =>
      go_wp2
      go_loopg [7] sl (fun gg s7 wr => ∃ k : Nat, s7 = .int .i64 (k : Int) ∧ k ≤ sl ∧ sl - k ≤ gg ∧ Hid (∀ j, j < k → zs[j]?.getD 0 ≤ 4611686018427387904) ∧ Hid (Below V.heap.size V wr))
      case atStart => exact ⟨0, rfl, Nat.zero_le _, by omega, Lib.hid (fun j hj => absurd hj (Nat.not_lt_zero _)), HB2⟩
      case round =>
        obtain ⟨k, rfl, hk, hgg, HJ, HW⟩ := hrel
        obtain ⟨q0, q1, q2⟩ := cells3 (row_keep HW.out R.out)
        by_cases h1 : k < sl
        · have u0 : (0 : Int) ≤ (k : Int) := by omega
          have u1 : (k : Int) < (sl : Int) := by omega
          obtain ⟨g, o, rfl, hc⟩ := (HSS.out.keep HW.out).at (by omega)
          have c0 := hc k h1
          obtain ⟨z, hz⟩ : ∃ z, z = zs[k]?.getD 0 := ⟨_, rfl⟩
          rw [← hz] at c0
          have HZ := Lib.hid hz
          clear hc hz
          by_cases h2 : (4611686018427387904 : Int) < z
          · have PA := Lib.hid (awake_any wr (HNN.out.keep HW.out))
            go_wp2_with (go_at_call 9; refine PA.out.mono ?_; rintro e w3 ⟨rfl, hb3⟩; have HB3 := Lib.hid (HB.out.trans ((below_then HW.out hb3).mono HB.out.size)); clear hb3)
            go_ret
            exact ⟨rfl, HB3.out⟩
          · have HZ2 := Lib.hid (show z ≤ 4611686018427387904 by omega)
            go_wp2
            go_roundg (sl - (k + 1))
            case measure => omega
            case rel => exact ⟨k + 1, by go_num, by omega, Nat.le_refl _, Lib.hid (fun j hj => by
                rcases Nat.lt_succ_iff_lt_or_eq.1 hj with hj | rfl
                · exact HJ.out j hj
                · rw [← HZ.out]; exact HZ2.out), HW⟩
        · obtain rfl : k = sl := by omega
          have u1 : ¬ (k : Int) < (k : Int) := by omega
          go_wp2_with fail
          refine (check_any vs bs en va vl vc ba bl bc sa k sc zs ya yl yc rs wr (HVI.out.keep HW.out) (HBB.out.keep HW.out) (HSS.out.keep HW.out) (HYY.out.keep HW.out) hvl hbl hsl hyl).mono ?_
          rintro e w3 ⟨z, rfl, hR, hb3⟩
          have HB3 := Lib.hid (below_then HW.out hb3)
          have HR := Lib.hid hR
          clear hR hb3
          go_wp2_with fail
          refine (task_any va vl vc ba bl bc vs bs w3 (HVI.out.keep HB3.out) (HBB.out.keep HB3.out) hvl hbl).mono ?_
          rintro e w4 ⟨⟨ht, rfl⟩ | ⟨ht, rfl⟩, hb4⟩
          · have HB4 := Lib.hid (below_then HB3.out hb4)
            obtain ⟨q0, q1, q2⟩ := cells3 (row_keep HB4.out R.out)
            rcases HR.out with ⟨h, _⟩ | ⟨_, vn, bn, rfl, rfl, hT, hF⟩
            · exact absurd ht h
            have HT := Lib.hid hT
            have HI := Lib.hid (feas_iff (en := en) (rs := rs) hT (fun i hi => HJ.out i (by rw [HSL.out] at hi; exact hi)))
            clear hb4 ht hT
            go_wp2_with fail
            refine (feas_any va vl vc ba bl bc en sa k sc zs ya yl yc rs vn bn w4 (HVI.out.keep HB4.out) (HBB.out.keep HB4.out) (HSS.out.keep HB4.out) (HYY.out.keep HB4.out) HT.out).mono ?_
            rintro e w5 ⟨⟨hf, rfl⟩ | ⟨hf, rfl⟩, hb5⟩
            · have HB5 := Lib.hid (below_then HB4.out hb5)
              have PA := Lib.hid (awake_any w5 (HNN.out.keep HB5.out))
              rcases hF with ⟨_, rfl⟩ | ⟨h, _⟩
              · clear hb5 hf
                go_wp2_with (go_at_call 9; refine PA.out.mono ?_; rintro e w6 ⟨rfl, hb6⟩; have HB6 := Lib.hid (HB.out.trans ((below_then HB5.out hb6).mono HB.out.size)); clear hb6)
                go_ret
                exact ⟨rfl, HB6.out⟩
              · exact absurd (HI.out.2 hf) h
            · have HB5 := Lib.hid (below_then HB4.out hb5)
              have PA := Lib.hid (awake_any w5 (HNN.out.keep HB5.out))
              rcases hF with ⟨h, _⟩ | ⟨_, rfl⟩
              · exact absurd (HI.out.1 h) hf
              · clear hb5 hf
                go_wp2_with (go_at_call 9; refine PA.out.mono ?_; rintro e w6 ⟨rfl, hb6⟩; have HB6 := Lib.hid (HB.out.trans ((below_then HB5.out hb6).mono HB.out.size)); clear hb6)
                go_ret
                exact ⟨rfl, HB6.out⟩
          · have HB4 := Lib.hid (below_then HB3.out hb4)
            have PA := Lib.hid (awake_any w4 (HNN.out.keep HB4.out))
            rcases HR.out with ⟨_, rfl⟩ | ⟨h, _⟩
            · clear hb4 ht
              go_wp2_with (go_at_call 9; refine PA.out.mono ?_; rintro e w6 ⟨rfl, hb6⟩; have HB6 := Lib.hid (HB.out.trans ((below_then HB4.out hb6).mono HB.out.size)); clear hb6)
              go_ret
              exact ⟨rfl, HB6.out⟩
            · exact absurd h ht
end Go.Proofs.YtbidadkcdchomaaDoor

/- The statements' arguments: a list of integers, a list of batches, a schedule. -/
set_option linter.unusedVariables false
set_option linter.unusedSimpArgs false
namespace Go.Proofs.YtbidadkcdchomaaDoor
open Go.ChangeShapes Go.WideShapes Go.RowKit Go.Joins Go.Deep

/-- one field of a struct whose fields are single cells, out of the struct's reading at address a -/
theorem field_read {H : Type} {enc : TypeId × Value → H} {P : Program} {w : World} {base : Nat} {spare : Nat → Bool} {held : Bool} {e : TypeId} {fs : Array Field} {a : Addr} {cs : List Value} {n : Nat} {x : DataW H × List MemPlace}
    (he : P.underlying e = some (.struct fs)) (h1 : oneCellFields P fs = true) (hc : w.cells? base a (P.cellsOf e) = some cs) (ht : DataW.trod enc P w base spare held n e cs = some x) (hC : P.cellsOf e = fs.size) (j : Nat) (tj : TypeId) (hjt : fs[j]?.map (·.type) = some tj) :
    ∃ (v : Value) (y : DataW H × List MemPlace) (m : Nat), w.cell? (a.add j) = some v ∧ DataW.trod enc P w base spare held m tj [v] = some y := by
  obtain ⟨f, hj, rfl⟩ := Option.map_eq_some_iff.1 hjt
  obtain ⟨ys, m, _, _, hl, hyl, hf⟩ := DataW.trod_struct he ht
  obtain ⟨_, hcl, hat⟩ := World.cells?_some hc
  have hjs : j < fs.size := (Array.getElem?_eq_some_iff.1 hj).1
  have hjc : j < cs.length := by omega
  obtain ⟨o1, o2⟩ := Go.Deep.hone_of h1 j f hj
  have hr := hf j f hj
  rw [o1, o2, List.drop_eq_getElem_cons hjc] at hr
  have hy : ys[j]? = some (ys[j]'(by omega)) := List.getElem?_eq_getElem (by omega)
  refine ⟨cs[j], ys[j]'(by omega), m, ?_, ?_⟩
  · rw [hat j (by omega), List.getElem?_eq_getElem hjc]
  · rw [← hy, ← hr]; rfl


set_option maxRecDepth 100000 in
/-- a list of integers, read as one cell -/
theorem open_list_f {H : Type} {enc : TypeId × Value → H} {W : World} {v : Value} {m : Nat} {y : DataW H × List MemPlace}
    (hf : DataW.trod enc Tryd.prog W 0 (fun _ => true) true m 22 [v] = some y) : ∃ ao la ca xs, v = .slice ao la ca ∧ Il W ao la xs ∧ la ≤ 9223372036854775807 := by
  rcases open_ints Tryd.underlying22 Tryd.underlying3 (by kernel_rfl) hf with ⟨e1, _⟩ | ⟨a, len, cap, zs, e1, _, hlc, hcm, hzl, _, hcell, hwf⟩
  · simp at e1
    subst e1
    exact ⟨none, 0, 0, [], rfl, Il.nil _ _, by omega⟩
  · simp at e1
    subst e1
    have hzl2 : zs.length = cap := by simpa using hzl
    refine ⟨some a, len, cap, zs.take len, rfl, ⟨by simp; omega, ?_⟩, by unfold maxLen at hcm; omega⟩
    by_cases h0 : 0 < zs.length
    · obtain ⟨b, off, rfl, hc⟩ := ints_at hcell h0
      refine ⟨b, off, fun _ => rfl, fun i hi => ?_⟩
      rw [hc i (by omega), List.getElem?_take_of_lt hi]; rfl
    · exact ⟨0, 0, fun h => by omega, fun i hi => by omega⟩
theorem open_list {H : Type} {enc : TypeId × Value → H} {W : World} {v : Value} {d : DataW H} {p : List MemPlace} {base : Nat}
    (hv : Value.okWide Tryd.prog W .any base 22 v) (h : DataW.Trod enc Tryd.prog W 0 (fun _ => true) true 22 v d p) : ∃ ao la ca xs, v = .slice ao la ca ∧ Il W ao la xs ∧ la ≤ 9223372036854775807 := by
  obtain ⟨ao, la, ca, rfl⟩ := okWide_slice Tryd.underlying22 hv
  obtain ⟨fuel, hf⟩ := h
  exact open_list_f hf
set_option maxRecDepth 100000 in
theorem open_bats_c {H : Type} {enc : TypeId × Value → H} {W : World} {v : Value} {d : DataW H} {p : List MemPlace} {base : Nat}
    (hv : Value.okWide Tryd.prog W .any base 23 v) (h : DataW.Trod enc Tryd.prog W 0 (fun _ => true) true 23 v d p) :
    ∃ ao la ca xs, v = .slice ao la ca ∧ Bats W ao la xs ∧ la ≤ 9223372036854775807 ∧ la ≤ ca := by
  obtain ⟨ao, la, ca, rfl⟩ := okWide_slice Tryd.underlying23 hv
  obtain ⟨fuel, hf⟩ := h
  have hC : Tryd.prog.cellsOf 43 = 2 := by kernel_rfl
  rcases Go.Deep.open_slice Tryd.underlying23 hf with ⟨e1, _⟩ | ⟨a, len, cap, m, n, D, Pl, e1, _, hlc, hcm, hm, _, hi⟩
  · simp [Value.cells] at e1
    obtain ⟨rfl, rfl, rfl⟩ := e1
    exact ⟨none, 0, 0, [], rfl, ⟨rfl, 0, 0, fun h => by omega, fun i hi => by omega⟩, by omega, Nat.le_refl _⟩
  · simp [Value.cells] at e1
    obtain ⟨rfl, rfl, rfl⟩ := e1
    have hm2 : la ≤ m := by rw [hm]; split <;> omega
    have key : ∀ i, i < la → ∃ (x : Bt) (ta : Option Addr) (tl tc : Nat), W.cell? (a.add (i * 2)) = some (.int .i64 x.rdy) ∧ W.cell? (a.add (i * 2 + 1)) = some (.slice ta tl tc) ∧ Il W ta tl x.tm ∧ tl ≤ 9223372036854775807 := fun i hil => by
      obtain ⟨cs', hc, ht⟩ := hi i (by omega)
      rw [hC] at hc
      have h1 : oneCellFields Tryd.prog _ = true := (by kernel_rfl : oneCellFields Tryd.prog (Tryd.prog.fieldsOf 43) = true)
      have he : Tryd.prog.underlying 43 = some (.struct (Tryd.prog.fieldsOf 43)) := by kernel_rfl
      have hs : Tryd.prog.cellsOf 43 = (Tryd.prog.fieldsOf 43).size := by kernel_rfl
      rw [← hC] at hc
      have rd := field_read he h1 hc ht hs
      obtain ⟨v0, y0, m0, c0, t0⟩ := rd 0 3 (by kernel_rfl)
      obtain ⟨v1, y1, m1, c1, t1⟩ := rd 1 22 (by kernel_rfl)
      obtain ⟨z0, e0, _, w0⟩ := DataW.trod_int Tryd.underlying3 t0
      obtain ⟨ta, tl, tc, xs, rfl, hil2, htl⟩ := open_list_f t1
      simp only [List.cons.injEq, and_true] at e0
      subst e0
      simp only [Go.Deep.add_add, Nat.add_zero, hC] at c0 c1
      exact ⟨⟨z0, xs⟩, ta, tl, tc, c0, c1, hil2, htl⟩
    obtain ⟨f, hf2⟩ : ∃ f : Nat → Bt, ∀ i, i < la → ∃ (ta : Option Addr) (tl tc : Nat), W.cell? (a.add (i * 2)) = some (.int .i64 (f i).rdy) ∧ W.cell? (a.add (i * 2 + 1)) = some (.slice ta tl tc) ∧ Il W ta tl (f i).tm ∧ tl ≤ 9223372036854775807 := by
      refine ⟨fun i => if h : i < la then Classical.choose (key i h) else default, fun i hi => ?_⟩
      simp only [dif_pos hi]
      exact Classical.choose_spec (key i hi)
    refine ⟨some a, la, ca, (List.range la).map f, rfl, ⟨by simp, ?_⟩, by unfold maxLen at hcm; omega, hlc⟩
    by_cases h0 : 0 < la
    · obtain ⟨b, off, spot⟩ := a
      have hspot : spot = none := by
        obtain ⟨_, _, _, hc, _⟩ := hf2 0 (by omega)
        simpa [Addr.add] using World.cell?_spot hc
      subst hspot
      refine ⟨b, off, fun _ => rfl, fun i hi => ?_⟩
      obtain ⟨ta, tl, tc, k0, k1, k2, k3⟩ := hf2 i hi
      have e : ((List.range la).map f)[i]! = f i := by rw [getElem!_pos _ i (by simpa using hi)]; simp
      rw [add_off] at k0 k1
      exact ⟨ta, tl, tc, by rw [e]; exact ⟨k0, by rw [Nat.add_assoc]; exact k1, k2, k3⟩⟩
    · exact ⟨0, 0, fun h => by omega, fun i hi => by omega⟩
theorem open_bats {H : Type} {enc : TypeId × Value → H} {W : World} {v : Value} {d : DataW H} {p : List MemPlace} {base : Nat}
    (hv : Value.okWide Tryd.prog W .any base 23 v) (h : DataW.Trod enc Tryd.prog W 0 (fun _ => true) true 23 v d p) :
    ∃ ao la ca xs, v = .slice ao la ca ∧ Bats W ao la xs ∧ la ≤ 9223372036854775807 := by
  obtain ⟨ao, la, ca, xs, h1, h2, h3, _⟩ := open_bats_c hv h
  exact ⟨ao, la, ca, xs, h1, h2, h3⟩
theorem open_u8 {H : Type} {enc : TypeId × Value → H} {W : World} {v : Value} {d : DataW H} {p : List MemPlace} {base : Nat}
    (hv : Value.okWide Tryd.prog W .any base 5 v) (h : DataW.Trod enc Tryd.prog W 0 (fun _ => true) true 5 v d p) : ∃ n : Nat, v = .int .u8 (n : Int) ∧ n ≤ 255 := by
  obtain ⟨n, rfl⟩ := okWide_int Tryd.underlying5 hv
  obtain ⟨fuel, hf⟩ := h
  obtain ⟨m, e0, _, w0⟩ := DataW.trod_int Tryd.underlying5 hf
  simp [Value.cells] at e0
  subst e0
  have := bounds_u8 w0
  exact ⟨n.toNat, by rw [Int.toNat_of_nonneg this.1], by omega⟩
set_option maxRecDepth 100000 in
set_option maxRecDepth 100000 in
theorem open_rows_f {H : Type} {enc : TypeId × Value → H} {W : World} {v : Value} {m : Nat} {y : DataW H × List MemPlace}
    (hf : DataW.trod enc Tryd.prog W 0 (fun _ => true) true m 26 [v] = some y) : ∃ ao la ca rs, v = .slice ao la ca ∧ Rows2 W ao la rs ∧ la ≤ 9223372036854775807 := by
  have hC : Tryd.prog.cellsOf 22 = 1 := by kernel_rfl
  rcases Go.Deep.open_slice Tryd.underlying26 hf with ⟨e1, _⟩ | ⟨a, len, cap, m, n, D, Pl, e1, _, hlc, hcm, hm, _, hi⟩
  · simp at e1
    subst e1
    exact ⟨none, 0, 0, [], rfl, ⟨rfl, 0, 0, fun h => by omega, fun i hi => by omega⟩, by omega⟩
  · simp at e1
    subst e1
    have hm2 : len ≤ m := by rw [hm]; split <;> omega
    have key : ∀ i, i < len → ∃ (x : List Int) (ta : Option Addr) (tl tc : Nat), W.cell? (a.add i) = some (.slice ta tl tc) ∧ Il W ta tl x ∧ tl ≤ 9223372036854775807 := fun i hil => by
      obtain ⟨cs', hc, ht⟩ := hi i (by omega)
      rw [hC, Nat.mul_one] at hc
      obtain ⟨_, hcl, hat⟩ := World.cells?_some hc
      obtain ⟨u, hu⟩ : ∃ u, cs' = [u] := by
        match cs', hcl with
        | [u], _ => exact ⟨u, rfl⟩
      subst hu
      have h0 := hat 0 (by omega)
      obtain ⟨ta, tl, tc, xs, rfl, hil2, htl⟩ := open_list_f ht
      simp only [Go.Deep.add_add, Nat.add_zero] at h0
      exact ⟨xs, ta, tl, tc, h0, hil2, htl⟩
    obtain ⟨f, hf2⟩ : ∃ f : Nat → List Int, ∀ i, i < len → ∃ (ta : Option Addr) (tl tc : Nat), W.cell? (a.add i) = some (.slice ta tl tc) ∧ Il W ta tl (f i) ∧ tl ≤ 9223372036854775807 := by
      refine ⟨fun i => if h : i < len then Classical.choose (key i h) else [], fun i hi => ?_⟩
      simp only [dif_pos hi]
      exact Classical.choose_spec (key i hi)
    refine ⟨some a, len, cap, (List.range len).map f, rfl, ⟨by simp, ?_⟩, by unfold maxLen at hcm; omega⟩
    by_cases h0 : 0 < len
    · obtain ⟨b, off, spot⟩ := a
      have hspot : spot = none := by
        obtain ⟨_, _, _, hc, _⟩ := hf2 0 (by omega)
        simpa [Addr.add] using World.cell?_spot hc
      subst hspot
      refine ⟨b, off, fun _ => rfl, fun i hi => ?_⟩
      obtain ⟨ta, tl, tc, k0, k2, k3⟩ := hf2 i hi
      have e : ((List.range len).map f)[i]! = f i := by rw [getElem!_pos _ i (by simpa using hi)]; simp
      rw [add_off] at k0
      exact ⟨ta, tl, tc, k0, by rw [e]; exact k2, k3⟩
    · exact ⟨0, 0, fun h => by omega, fun i hi => by omega⟩
set_option maxRecDepth 100000 in
theorem open_sched {H : Type} {enc : TypeId × Value → H} {W : World} {v : Value} {d : DataW H} {p : List MemPlace} {base : Nat}
    (hv : Value.okWide Tryd.prog W .any base 28 v) (h : DataW.Trod enc Tryd.prog W 0 (fun _ => true) true 28 v d p) :
    ∃ en sa sl sc ya yl yc zs rs, v = .agg #[.int .i64 en, .slice sa sl sc, .slice ya yl yc] ∧ Il W sa sl zs ∧ Rows2 W ya yl rs ∧ sl ≤ 9223372036854775807 ∧ yl ≤ 9223372036854775807 := by
  obtain ⟨c0, c1, c2, y0, y1, y2, m, rfl, rfl, rfl, hy0, hy1, hy2⟩ := open_agg3 Tryd.underlying28 (by kernel_rfl) (by kernel_rfl) hv h
  obtain ⟨n, e0, _, w0⟩ := DataW.trod_int Tryd.underlying3 hy0
  simp at e0
  subst e0
  obtain ⟨sa, sl, sc, zs, rfl, h1, h2⟩ := open_list_f hy1
  obtain ⟨ya, yl, yc, rs, rfl, h3, h4⟩ := open_rows_f hy2
  exact ⟨n, sa, sl, sc, ya, yl, yc, zs, rs, rfl, h1, h3, h2, h4⟩
/-- the arguments read on as they did -/
theorem trodAll_below {H : Type} {enc : TypeId × Value → H} {P : Program} (hl : laidOutB P = true) {W W' : World} (hb : Below W.heap.size W W') :
    ∀ {ts : List TypeId} {vs : List Value} {ds : List (DataW H)} {ps : List MemPlace}, (∀ t ∈ ts, P.readableRec t = true ∧ t < P.types.size) →
      DataW.TrodAll enc P W 0 (fun _ => true) true ts vs ds ps → (∀ x ∈ ps, x.block < W.heap.size) → DataW.TrodAll enc P W' 0 (fun b => decide (b < W.heap.size)) true ts vs ds ps
  | [], [], [], _, _, h, _ => h
  | t :: ts, v :: vs, d :: ds, _, ht, ⟨p, q, h1, h2, e⟩, hlt => by
    have h3 := ht t List.mem_cons_self
    exact ⟨p, q, Below.trod hl h3.1 h3.2 h1 hb (fun x hx => hlt x (by rw [e]; exact List.mem_append_left _ hx)),
      trodAll_below hl hb (fun t' ht' => ht t' (List.mem_cons_of_mem _ ht')) h2 (fun x hx => hlt x (by rw [e]; exact List.mem_append_right _ hx)), e⟩
  | [], _ :: _, _, _, _, h, _ => by simp [DataW.TrodAll] at h
  | [], [], _ :: _, _, _, h, _ => by simp [DataW.TrodAll] at h
  | _ :: _, [], _, _, _, h, _ => by simp [DataW.TrodAll] at h
  | _ :: _, _ :: _, [], _, _, h, _ => by simp [DataW.TrodAll] at h

/-- a law's end -/
theorem post_law {P : Program} {H : Type} {enc : TypeId × Value → H} {f : Func} {s : ChangeSpec} {apart fresh handsOn : Bool} {W W' : World} {args : Array Value} {ds : List (DataW H)} {before : List MemPlace} {t : TypeId}
    (hl : laidOutB P = true) (hts : ∀ t ∈ f.params.toList, P.readableRec t = true ∧ t < P.types.size)
    (hW : DataW.Whole enc P f.params.toList s.vars apart W args.toList ds [] before) (hvs : s.vars = []) (hrt : f.resultTypes = #[t]) (hub : P.underlying t = some .bool)
    (hA : DataW.TrodAll enc P W 0 (fun _ => true) true f.params.toList args.toList ds before)
    (hr : (s.fn H ds).results = [.lit (.bool true)]) (ha : (s.fn H ds).args = ds) (hv : (s.fn H ds).vars = []) (hb : Below W.heap.size W W') :
    s.post enc P f apart fresh handsOn false W args (.bool true) W' := by
  have hlt := hW.lt
  refine ⟨ds, [], before, [], before, [], hW, ?_, ?_, ?_, World.keptBut_mono (fun p hp => ⟨hp, ?_⟩) (hb.frame _), fun h => by cases h⟩
  · rw [List.append_nil, hr, hrt]
    exact trodAll_cons_mk (shut_bool hub _) trodAll_mk0
  · rw [List.append_nil, ha]
    exact trodAll_below hl hb hts hA (fun x hx => by simpa using hlt x hx)
  · rw [List.append_nil, hv, hvs]
    rfl
  · exact Or.inr (by simpa using hp)
end Go.Proofs.YtbidadkcdchomaaDoor

/- What the search finds, whatever the order; the vessels that are chosen suffice and never clash. No function of the program is walked here. -/
set_option linter.unusedVariables false
set_option linter.unusedSimpArgs false
namespace Go.Proofs.YtbidadkcdchomaaDoor
open Go.RowKit

/-! ### starts as a function of the batch -/
def cntF (bs : List BN) (f : Nat → Nat) (os : List Nat) (k t : Nat) : Nat := os.countP fun i => inN bs[i]! (f i) k t
/-- the starts are feasible: no batch starts too early or ends too late, no stage is ever too full -/
structure FeasF (vs : List Nat) (bs : List BN) (fin n : Nat) (f : Nat → Nat) : Prop where
  inr : ∀ i, i < n → InR fin bs[i]! (f i)
  cnt : ∀ k, k < vs.length → ∀ t, cntF bs f (List.range n) k t ≤ vs[k]!
theorem on_map (bs : List BN) (f : Nat → Nat) : ∀ (os : List Nat) (l : List (BN × Nat)) (k t : Nat), cntN (onN bs os (os.map f) l) k t = cntN l k t + cntF bs f os k t
  | [], l, k, t => by simp [onN, cntF]
  | i :: os, l, k, t => by
    show cntN (onN bs os (os.map f) ((bs[i]!, f i) :: l)) k t = _
    rw [on_map bs f os, cnt_cons]
    unfold cntF
    rw [List.countP_cons]
    omega
theorem allR_map (fin : Nat) (bs : List BN) (f : Nat → Nat) : ∀ os : List Nat, AllR fin bs os (os.map f) ↔ ∀ i ∈ os, InR fin bs[i]! (f i)
  | [] => by simp [AllR]
  | i :: os => by
    show InR fin bs[i]! (f i) ∧ AllR fin bs os (os.map f) ↔ _
    rw [allR_map fin bs f os]
    simp
theorem allR_fun (fin : Nat) (bs : List BN) : ∀ os ss : List Nat, os.Nodup → AllR fin bs os ss → ∃ f : Nat → Nat, ss = os.map f
  | [], [], _, _ => ⟨fun _ => 0, rfl⟩
  | [], _ :: _, _, h => h.elim
  | _ :: _, [], _, h => h.elim
  | i :: os, s :: ss, hn, h => by
    obtain ⟨f, rfl⟩ := allR_fun fin bs os ss (List.nodup_cons.1 hn).2 h.2
    refine ⟨fun j => if j = i then s else f j, ?_⟩
    rw [List.map_cons, if_pos rfl]
    congr 1
    refine List.map_congr_left fun j hj => ?_
    rw [if_neg]
    rintro rfl
    exact (List.nodup_cons.1 hn).1 hj
theorem cntF_perm (bs : List BN) (f : Nat → Nat) {os ps : List Nat} (h : os.Perm ps) (k t : Nat) : cntF bs f os k t = cntF bs f ps k t := h.countP_eq _
theorem feasF_perm {vs : List Nat} {bs : List BN} {fin n : Nat} {f : Nat → Nat} {os : List Nat} (hp : os.Perm (List.range n)) : (AllR fin bs os (os.map f) ∧ FitsN vs (onN bs os (os.map f) [])) ↔ FeasF vs bs fin n f := by
  constructor
  · rintro ⟨h1, h2⟩
    refine ⟨fun i hi => (allR_map fin bs f os).1 h1 i (hp.mem_iff.2 (List.mem_range.2 hi)), fun k hk t => ?_⟩
    have := h2 k hk t
    rw [on_map, cntF_perm bs f hp] at this
    omega
  · rintro ⟨h1, h2⟩
    refine ⟨(allR_map fin bs f os).2 fun i hi => h1 i (List.mem_range.1 (hp.mem_iff.1 hi)), fun k hk t => ?_⟩
    have := h2 k hk t
    rw [on_map, cntF_perm bs f hp]
    have h0 : cntN [] k t = 0 := rfl
    omega
section
variable {vn : List Nat} {bn : List BN} {en n : Nat} {os ss : List Nat}
theorem starts_some (hT : TaskN vn bn) (hl : bn.length = n) (hen : en ≤ 30) (hp : os.Perm (List.range n)) (h : startsN vn bn en os = some ss) : ∃ f, ss = os.map f ∧ FeasF vn bn en n f ∧ ∀ f', FeasF vn bn en n f' → leLex ss (os.map f') := by
  have hmem : ∀ i ∈ os, i < bn.length := fun i hi => by rw [hl]; exact List.mem_range.1 (hp.mem_iff.1 hi)
  obtain ⟨h1, h2, h3⟩ := (place_ok hT.house hen bn (bn.map (jobOf en)) rfl os _ [] hmem good_zero (fits_zero vn)).1 ss h
  obtain ⟨f, rfl⟩ := allR_fun en bn os ss (hp.nodup_iff.2 List.nodup_range) h1
  refine ⟨f, rfl, (feasF_perm hp).1 ⟨h1, h2⟩, fun f' hf' => ?_⟩
  have := (feasF_perm hp).2 hf'
  exact h3 _ this.1 this.2
theorem starts_none (hT : TaskN vn bn) (hl : bn.length = n) (hen : en ≤ 30) (hp : os.Perm (List.range n)) (h : startsN vn bn en os = none) (f : Nat → Nat) : ¬ FeasF vn bn en n f := by
  intro hf
  have hmem : ∀ i ∈ os, i < bn.length := fun i hi => by rw [hl]; exact List.mem_range.1 (hp.mem_iff.1 hi)
  have := (feasF_perm hp).2 hf
  exact (place_ok hT.house hen bn (bn.map (jobOf en)) rfl os _ [] hmem good_zero (fits_zero vn)).2 h _ this.1 this.2
theorem osN_perm (bn : List BN) (n : Nat) : (osN bn n).Perm (List.range n) := sortR_perm _ _
end

/-! ### the sort sorts -/
theorem get_set_ne (l : List Nat) (i j x : Nat) (h : i ≠ j) : (l.set i x)[j]! = l[j]! := by
  by_cases hj : j < l.length
  · rw [getElem!_pos _ j (by simpa using hj), getElem!_pos l j hj, List.getElem_set_ne h]
  · rw [getElem!_neg _ j (by simpa using hj), getElem!_neg l j hj]
theorem get_set_eq (l : List Nat) (i x : Nat) (h : i < l.length) : (l.set i x)[i]! = x := by
  rw [getElem!_pos _ i (by simpa using h), List.getElem_set_self]
theorem insN_sorted (K : Nat → Int) (n : Nat) : ∀ (j : Nat) (l : List Nat), j < n → n ≤ l.length →
    (∀ a b, a < b → b < n → a ≠ j → b ≠ j → K l[a]! ≤ K l[b]!) → (∀ b, j < b → b < n → K l[j]! ≤ K l[b]!) →
    ∀ a b, a < b → b < n → K (insN K j l)[a]! ≤ K (insN K j l)[b]!
  | 0, l, _, _, h1, h2, a, b, hab, hb => by
    unfold insN
    by_cases h : a = 0
    · subst h; exact h2 b hab hb
    · exact h1 a b hab hb h (by omega)
  | j + 1, l, hj, hl, h1, h2, a, b, hab, hb => by
    unfold insN
    split
    · rename_i hlt
      have ej : ((l.set (j + 1) l[j]!).set j l[j + 1]!)[j]! = l[j + 1]! := get_set_eq _ _ _ (by simp; omega)
      have ej1 : ((l.set (j + 1) l[j]!).set j l[j + 1]!)[j + 1]! = l[j]! := by
        rw [get_set_ne _ _ _ _ (by omega), get_set_eq _ _ _ (by omega)]
      have eo : ∀ q, q ≠ j → q ≠ j + 1 → ((l.set (j + 1) l[j]!).set j l[j + 1]!)[q]! = l[q]! := fun q g1 g2 => by
        rw [get_set_ne _ _ _ _ (by omega), get_set_ne _ _ _ _ (by omega)]
      refine insN_sorted K n j _ (by omega) (by simp; omega) (fun a b hab hb ha hb2 => ?_) (fun b hb1 hb2 => ?_) a b hab hb
      · by_cases e1 : b = j + 1
        · subst e1
          rw [ej1, eo a ha (by omega)]
          exact h1 a j (by omega) (by omega) (by omega) (by omega)
        · by_cases e2 : a = j + 1
          · subst e2
            rw [ej1, eo b hb2 e1]
            exact h1 j b (by omega) hb (by omega) e1
          · rw [eo a ha e2, eo b hb2 e1]
            exact h1 a b hab hb e2 e1
      · rw [ej]
        by_cases e1 : b = j + 1
        · subst e1
          rw [ej1]
          omega
        · rw [eo b (by omega) e1]
          exact h2 b (by omega) hb2
    · rename_i hge
      by_cases e1 : b = j + 1
      · subst e1
        by_cases e2 : a = j
        · subst e2; omega
        · have := h1 a j (by omega) (by omega) (by omega) (by omega)
          omega
      · by_cases e2 : a = j + 1
        · subst e2
          exact h2 b hab hb
        · exact h1 a b hab hb e2 e1
theorem sortTo_sorted (K : Nat → Int) (l : List Nat) : ∀ n, n ≤ l.length → ∀ a b, a < b → b < n → K (sortTo K l n)[a]! ≤ K (sortTo K l n)[b]!
  | 0, _, a, b, _, hb => absurd hb (Nat.not_lt_zero _)
  | n + 1, hn, a, b, hab, hb => by
    rw [sortTo]
    refine insN_sorted K (n + 1) n (sortTo K l n) (Nat.lt_succ_self _) (by rw [sortTo_len]; exact hn) (fun a b hab hb h1 h2 => ?_) (fun b h1 h2 => by omega) a b hab hb
    exact sortTo_sorted K l n (by omega) a b hab (by omega)
theorem sortR_sorted (K : Nat → Int) (n : Nat) : (sortR K n).Pairwise fun a b => K a ≤ K b := by
  rw [List.pairwise_iff_getElem]
  intro i j hi hj hij
  have := sortTo_sorted K (List.range n) n (by simp) i j hij (by rw [sortR_len] at hj; exact hj)
  rw [getElem!_pos _ i hi, getElem!_pos _ j hj] at this
  exact this
theorem insN_congr (K K' : Nat → Int) : ∀ (j : Nat) (l : List Nat), j < l.length → (∀ x ∈ l, ∀ y ∈ l, K x < K y ↔ K' x < K' y) → insN K j l = insN K' j l
  | 0, l, _, _ => rfl
  | j + 1, l, hj, h => by
    have m1 : l[j + 1]! ∈ l := by rw [getElem!_pos l (j + 1) hj]; exact List.getElem_mem hj
    have m0 : l[j]! ∈ l := by rw [getElem!_pos l j (by omega)]; exact List.getElem_mem (by omega)
    have e := h _ m1 _ m0
    unfold insN
    by_cases hk : K l[j + 1]! < K l[j]!
    · rw [if_pos hk, if_pos (e.1 hk)]
      refine insN_congr K K' j _ (by simp; omega) fun x hx y hy => ?_
      have hm : ∀ z, z ∈ (l.set (j + 1) l[j]!).set j l[j + 1]! → z ∈ l := fun z hz => by
        rcases List.mem_or_eq_of_mem_set hz with hz | rfl
        · rcases List.mem_or_eq_of_mem_set hz with hz | rfl
          · exact hz
          · exact m0
        · exact m1
      exact h x (hm x hx) y (hm y hy)
    · rw [if_neg hk, if_neg (fun c => hk (e.2 c))]
theorem sortTo_congr (K K' : Nat → Int) (l : List Nat) (h : ∀ x ∈ l, ∀ y ∈ l, K x < K y ↔ K' x < K' y) : ∀ n, n ≤ l.length → sortTo K l n = sortTo K' l n
  | 0, _ => rfl
  | n + 1, hn => by
    rw [sortTo, sortTo, sortTo_congr K K' l h n (by omega)]
    refine insN_congr K K' n _ (by rw [sortTo_len]; omega) fun x hx y hy => ?_
    have hp := sortTo_perm K' l n (by omega)
    exact h x (hp.mem_iff.1 hx) y (hp.mem_iff.1 hy)
theorem sortR_congr (K K' : Nat → Int) (n : Nat) (h : ∀ i, i < n → ∀ j, j < n → (K i < K j ↔ K' i < K' j)) : sortR K n = sortR K' n :=
  sortTo_congr K K' _ (fun x hx y hy => h x (List.mem_range.1 hx) y (List.mem_range.1 hy)) n (by simp)

/-! ### the vessels suffice -/
def thereP (vis : List (Nat × Nat)) (os : List Nat) (t : Nat) : Nat := os.countP fun i => decide ((vis[i]!).1 ≤ t) && decide (t < (vis[i]!).2)
theorem ff_some (vis : List (Nat × Nat)) (m : Nat) : ∀ (os fr ch done : List Nat), fr.length = m →
    (∀ b, fr.countP (fun x => decide (b < x)) ≤ done.countP (fun i => decide (b < (vis[i]!).2))) →
    (done ++ os).Pairwise (fun i j => (vis[i]!).1 ≤ (vis[j]!).1) → (∀ i ∈ os, (vis[i]!).1 < (vis[i]!).2) → (∀ t, thereP vis (done ++ os) t ≤ m) → ∃ r, ffN vis os fr ch = some r
  | [], fr, ch, done, _, _, _, _, _ => ⟨ch, by unfold ffN; rfl⟩
  | i :: os, fr, ch, done, hm, hc, hs, hp, ht => by
    unfold ffN
    cases hx : fr.findIdx? (fun x => decide (x ≤ (vis[i]!).1)) with
    | none =>
      exfalso
      rw [List.findIdx?_eq_none_iff] at hx
      have h1 : fr.countP (fun x => decide ((vis[i]!).1 < x)) = m := by
        rw [← hm]
        refine List.countP_eq_length.2 fun x hx' => ?_
        have := hx x hx'
        simp at this ⊢
        exact this
      have h2 := hc (vis[i]!).1
      have h3 : done.countP (fun i' => decide ((vis[i]!).1 < (vis[i']!).2)) = thereP vis done (vis[i]!).1 := by
        unfold thereP
        refine List.countP_congr fun j hj => ?_
        have := (List.pairwise_append.1 hs).2.2 j hj i List.mem_cons_self
        rw [decide_eq_true this, Bool.true_and]
      have h4 := ht (vis[i]!).1
      have h5 : thereP vis (done ++ i :: os) (vis[i]!).1 = thereP vis done (vis[i]!).1 + (thereP vis os (vis[i]!).1 + 1) := by
        unfold thereP
        rw [List.countP_append, List.countP_cons, if_pos]
        rw [decide_eq_true (Nat.le_refl _), decide_eq_true (hp i List.mem_cons_self)]
        rfl
      omega
    | some v =>
      have hv := (List.findIdx?_eq_some_iff_getElem.1 hx).1
      have e : done ++ i :: os = (done ++ [i]) ++ os := by simp
      refine ff_some vis m os _ _ (done ++ [i]) (by rw [List.length_set]; exact hm) (fun b => ?_) (by rw [← e]; exact hs) (fun j hj => hp j (List.mem_cons_of_mem _ hj)) (fun t => by rw [← e]; exact ht t)
      rw [List.countP_set hv, List.countP_append, List.countP_singleton]
      have := hc b
      omega
/-- no two that are given the same vessel meet -/
theorem ff_good (vis : List (Nat × Nat)) (m : Nat) : ∀ (os fr ch done r : List Nat), ffN vis os fr ch = some r → fr.length = m → (done ++ os).Nodup → (∀ i ∈ done ++ os, i < ch.length) → (∀ i ∈ os, (vis[i]!).1 ≤ (vis[i]!).2) →
    (∀ j ∈ done, ch[j]! < m ∧ (vis[j]!).2 ≤ fr[ch[j]!]!) → (∀ i ∈ done, ∀ j ∈ done, i ≠ j → ch[i]! = ch[j]! → (vis[i]!).2 ≤ (vis[j]!).1 ∨ (vis[j]!).2 ≤ (vis[i]!).1) →
    (∀ j ∈ done ++ os, r[j]! < m) ∧ ∀ i ∈ done ++ os, ∀ j ∈ done ++ os, i ≠ j → r[i]! = r[j]! → (vis[i]!).2 ≤ (vis[j]!).1 ∨ (vis[j]!).2 ≤ (vis[i]!).1
  | [], fr, ch, done, r, h, _, _, _, _, h1, h2 => by
    unfold ffN at h
    cases h
    rw [List.append_nil]
    exact ⟨fun j hj => (h1 j hj).1, h2⟩
  | i :: os, fr, ch, done, r, h, hm, hn, hl, hp, h1, h2 => by
    unfold ffN at h
    cases hx : fr.findIdx? (fun x => decide (x ≤ (vis[i]!).1)) with
    | none => rw [hx] at h; cases h
    | some v =>
      rw [hx] at h
      obtain ⟨hv, hv2, _⟩ := List.findIdx?_eq_some_iff_getElem.1 hx
      have hv2 : fr[v]! ≤ (vis[i]!).1 := by rw [getElem!_pos fr v hv]; simpa using hv2
      have e : done ++ i :: os = (done ++ [i]) ++ os := by simp
      have hi := hp i List.mem_cons_self
      have hil : i < ch.length := hl i (by simp)
      have hnd : i ∉ done := fun c => by
        have := (List.nodup_append.1 hn).2.2 i c i List.mem_cons_self
        exact this rfl
      have hch : ∀ j ∈ done, (ch.set i v)[j]! = ch[j]! := fun j hj => get_set_ne _ _ _ _ (by rintro rfl; exact hnd hj)
      have hci : (ch.set i v)[i]! = v := get_set_eq _ _ _ hil
      rw [e]
      refine ff_good vis m os _ _ (done ++ [i]) r h (by rw [List.length_set]; exact hm) (by rw [← e]; exact hn) (fun j hj => by rw [List.length_set]; exact hl j (by rw [e]; exact hj)) (fun j hj => hp j (List.mem_cons_of_mem _ hj)) (fun j hj => ?_) (fun a ha0 b hb0 hab heq => ?_)
      · rcases List.mem_append.1 hj with hj | hj
        · rw [hch j hj]
          obtain ⟨g1, g2⟩ := h1 j hj
          refine ⟨g1, ?_⟩
          by_cases hc : v = ch[j]!
          · rw [← hc, get_set_eq _ _ _ hv]
            rw [← hc] at g2
            omega
          · rw [get_set_ne _ _ _ _ hc]
            exact g2
        · obtain rfl := List.mem_singleton.1 hj
          rw [hci, get_set_eq _ _ _ hv]
          exact ⟨by omega, Nat.le_refl _⟩
      · rcases List.mem_append.1 ha0 with ha | ha <;> rcases List.mem_append.1 hb0 with hb | hb
        · rw [hch a ha, hch b hb] at heq
          exact h2 a ha b hb hab heq
        · obtain rfl := List.mem_singleton.1 hb
          rw [hch a ha, hci] at heq
          have := (h1 a ha).2
          rw [heq] at this
          left; omega
        · obtain rfl := List.mem_singleton.1 ha
          rw [hch b hb, hci] at heq
          have := (h1 b hb).2
          rw [← heq] at this
          right; omega
        · obtain rfl := List.mem_singleton.1 ha
          obtain rfl := List.mem_singleton.1 hb
          exact absurd rfl hab
/-- the same choice, where all stays are later by as much -/
theorem ff_later (by' : Nat) (vis vis' : List (Nat × Nat)) : ∀ (os fr fr' ch : List Nat), fr.length = fr'.length → (∀ v, v < fr.length → fr'[v]! = fr[v]! + by' ∨ (fr[v]! = 0 ∧ fr'[v]! = 0)) → (∀ i ∈ os, (vis'[i]!).1 = (vis[i]!).1 + by' ∧ (vis'[i]!).2 = (vis[i]!).2 + by') → ffN vis' os fr' ch = ffN vis os fr ch
  | [], fr, fr', ch, _, _, _ => by unfold ffN; rfl
  | i :: os, fr, fr', ch, hl, hf, hv => by
    obtain ⟨e1, e2⟩ := hv i List.mem_cons_self
    have hx : fr'.findIdx? (fun x => decide (x ≤ (vis'[i]!).1)) = fr.findIdx? (fun x => decide (x ≤ (vis[i]!).1)) := by
      cases hx : fr.findIdx? (fun x => decide (x ≤ (vis[i]!).1)) with
      | none =>
        rw [List.findIdx?_eq_none_iff] at hx ⊢
        intro x hx'
        obtain ⟨v, hvl, rfl⟩ := List.mem_iff_getElem.1 hx'
        have h1 := hx fr[v] (List.getElem_mem (by omega))
        have h2 := hf v (by omega)
        rw [getElem!_pos fr v (by omega), getElem!_pos fr' v hvl] at h2
        rw [decide_eq_false_iff_not] at h1 ⊢
        omega
      | some w =>
        rw [List.findIdx?_eq_some_iff_getElem] at hx ⊢
        obtain ⟨g1, g2, g3⟩ := hx
        refine ⟨by omega, ?_, fun j hj => ?_⟩
        · have h2 := hf w g1
          rw [getElem!_pos fr w g1, getElem!_pos fr' w (by omega)] at h2
          rw [decide_eq_true_eq] at g2 ⊢
          omega
        · have h1 := g3 j hj
          have h2 := hf j (by omega)
          rw [getElem!_pos fr j (by omega), getElem!_pos fr' j (by omega)] at h2
          rw [decide_eq_true_eq] at h1 ⊢
          omega
    unfold ffN
    rw [hx]
    cases hx2 : fr.findIdx? (fun x => decide (x ≤ (vis[i]!).1)) with
    | none => rfl
    | some w =>
      have hw := (List.findIdx?_eq_some_iff_getElem.1 hx2).1
      refine ff_later by' vis vis' os _ _ _ (by simp [hl]) (fun v hvl => ?_) (fun j hj => hv j (List.mem_cons_of_mem _ hj))
      rw [List.length_set] at hvl
      by_cases c : w = v
      · subst c
        rw [get_set_eq _ _ _ hvl, get_set_eq _ _ _ (by omega)]
        exact .inl e2
      · rw [get_set_ne _ _ _ _ c, get_set_ne _ _ _ _ c]
        exact hf v hvl
end Go.Proofs.YtbidadkcdchomaaDoor

/- What Best's answer is: feasible starts, the least end, the least starts; vessels that never clash. No function of the program is walked here. -/
set_option linter.unusedVariables false
set_option linter.unusedSimpArgs false
namespace Go.Proofs.YtbidadkcdchomaaDoor
open Go.RowKit

theorem visN_at (bn : List BN) (ss : List Nat) (n k i : Nat) (hi : i < n) : (visN bn ss n k)[i]! = visA bn ss k i := by
  unfold visN
  rw [getElem!_pos _ i (by simpa using hi), List.getElem_map, List.getElem_range]
theorem beg_next (b : BN) (k : Nat) : begN b (k + 1) = begN b k + b.tm[k]! := take_sum b.tm k
theorem FeasF.congr {vn : List Nat} {bn : List BN} {en n : Nat} {f g : Nat → Nat} (h : FeasF vn bn en n f) (e : ∀ i, i < n → f i = g i) : FeasF vn bn en n g := by
  refine ⟨fun i hi => by rw [← e i hi]; exact h.inr i hi, fun k hk t => ?_⟩
  have := h.cnt k hk t
  have e2 : cntF bn g (List.range n) k t = cntF bn f (List.range n) k t := List.countP_congr fun i hi => by
    rw [e i (List.mem_range.1 hi)]
  omega
section
variable {vn : List Nat} {bn : List BN} {n : Nat}
theorem there_cnt (hT : TaskN vn bn) (hl : bn.length = n) (ss : List Nat) {os : List Nat} (hp : os.Perm (List.range n)) {k : Nat} (hk : k < vn.length) (t : Nat) : thereP (visN bn ss n k) os t = cntF bn (fun i => ss[i]!) (List.range n) k t := by
  unfold thereP
  rw [hp.countP_eq]
  refine List.countP_congr fun i hi => ?_
  have hi := List.mem_range.1 hi
  rw [visN_at bn ss n k i hi]
  unfold visA inN
  rw [hT.len i (by omega), decide_eq_true hk, Bool.true_and]
theorem stage_ok (hT : TaskN vn bn) (hl : bn.length = n) {ss : List Nat} {en : Nat} (hf : FeasF vn bn en n (fun i => ss[i]!)) {k : Nat} (hk : k < vn.length) : ∃ r, stageN vn bn ss n k = some r := by
  unfold stageN
  have hp := sortR_perm (begK (visN bn ss n k)) n
  refine ff_some _ vn[k]! _ _ _ [] (by simp) (fun b => ?_) ?_ (fun i hi => ?_) (fun t => ?_)
  · rw [List.countP_eq_zero.2]
    · exact Nat.zero_le _
    · intro x hx
      have := List.eq_of_mem_replicate hx
      subst this
      simp
  · rw [List.nil_append]
    exact (sortR_sorted (begK (visN bn ss n k)) n).imp fun {a b} h => by unfold begK at h; omega
  · have hi : i < n := (sortR_mem _ n i).1 hi
    rw [visN_at bn ss n k i hi]
    have := (hT.tm i (by omega) k hk).1
    show ss[i]! + begN bn[i]! k < ss[i]! + begN bn[i]! (k + 1)
    rw [beg_next]
    omega
  · rw [List.nil_append, there_cnt hT hl ss hp hk]
    exact hf.cnt k hk t
theorem stage_good (hT : TaskN vn bn) (hl : bn.length = n) {ss r : List Nat} {k : Nat} (hk : k < vn.length) (h : stageN vn bn ss n k = some r) :
    (∀ j, j < n → r[j]! < vn[k]!) ∧ ∀ i, i < n → ∀ j, j < n → i ≠ j → r[i]! = r[j]! → ss[i]! + begN bn[i]! (k + 1) ≤ ss[j]! + begN bn[j]! k ∨ ss[j]! + begN bn[j]! (k + 1) ≤ ss[i]! + begN bn[i]! k := by
  unfold stageN at h
  have hm : ∀ i, i < n → i ∈ [] ++ sortR (begK (visN bn ss n k)) n := fun i hi => by
    rw [List.nil_append]; exact (sortR_mem _ n i).2 hi
  obtain ⟨h1, h2⟩ := ff_good _ vn[k]! _ _ _ [] r h (by simp) (by rw [List.nil_append]; exact sortR_nodup _ _) (fun i hi => by rw [List.nil_append] at hi; rw [List.length_replicate]; exact (sortR_mem _ n i).1 hi)
    (fun i hi => by
      rw [visN_at bn ss n k i ((sortR_mem _ n i).1 hi)]
      exact Nat.add_le_add_left (beg_le _ _) _)
    (fun j hj => by cases hj) (fun j hj => by cases hj)
  refine ⟨fun j hj => h1 j (hm j hj), fun i hi j hj hij he => ?_⟩
  have := h2 i (hm i hi) j (hm j hj) hij he
  rw [visN_at bn ss n k i hi, visN_at bn ss n k j hj] at this
  exact this
/-- where there is an end, there is a best schedule -/
theorem has_best (hT : TaskN vn bn) (hl : bn.length = n) : HasBest vn bn n := by
  intro en hen hno hyes
  obtain ⟨ss0, h0⟩ := Option.ne_none_iff_exists'.1 hyes
  obtain ⟨f, _, hf, _⟩ := starts_some hT hl hen (osN_perm bn n) h0
  cases h1 : startsN vn bn en (List.range n) with
  | none => exact absurd hf (starts_none hT hl hen (List.Perm.refl _) h1 f)
  | some ss =>
    obtain ⟨g, hg, hfg, _⟩ := starts_some hT hl hen (List.Perm.refl _) h1
    have hget : ∀ i, i < n → g i = ss[i]! := fun i hi => by
      rw [hg, getElem!_pos _ i (by simpa using hi), List.getElem_map, List.getElem_range]
    have hF := hfg.congr hget
    refine ⟨ss, fun k => (stageN vn bn ss n k).getD [], hen, hno, hyes, h1, fun i hi => ?_, fun k hk => ?_⟩
    · have := (hF.inr i hi).2
      omega
    · obtain ⟨r, hr⟩ := stage_ok hT hl hF hk
      show _ = some ((stageN vn bn ss n k).getD [])
      rw [hr]
      rfl

/-- the starts are the least ones of the least end -/
structure TrueN (vn : List Nat) (bn : List BN) (n en : Nat) (ss : List Nat) : Prop where
  len : ss.length = n
  feas : FeasF vn bn en n (fun i => ss[i]!)
  least : ∀ e f, e < en → ¬ FeasF vn bn e n f
  lex : ∀ f, FeasF vn bn en n f → leLex ss ((List.range n).map f)
theorem BestN.truth (hT : TaskN vn bn) (hl : bn.length = n) {en : Nat} {ss : List Nat} {col : Nat → List Nat} (h : BestN vn bn n en ss col) : TrueN vn bn n en ss := by
  obtain ⟨g, hg, hfg, hlex⟩ := starts_some hT hl h.le (List.Perm.refl _) h.st
  have hget : ∀ i, i < n → g i = ss[i]! := fun i hi => by
    rw [hg, getElem!_pos _ i (by simpa using hi), List.getElem_map, List.getElem_range]
  have := h.le
  exact ⟨by rw [hg]; simp, hfg.congr hget, fun e f he => starts_none hT hl (by omega) (osN_perm bn n) (h.no e he) f, hlex⟩
theorem none_truth (hT : TaskN vn bn) (hl : bn.length = n) (h : NoneN vn bn n) (e : Nat) (f : Nat → Nat) (he : e ≤ 30) : ¬ FeasF vn bn e n f :=
  starts_none hT hl he (osN_perm bn n) (h e he) f
theorem FeasF.mono {e e' : Nat} {f : Nat → Nat} (h : FeasF vn bn e n f) (he : e ≤ e') : FeasF vn bn e' n f :=
  ⟨fun i hi => ⟨(h.inr i hi).1, Nat.le_trans (h.inr i hi).2 he⟩, h.cnt⟩

/-! ### when all have ended -/
def endF (bn : List BN) (f : Nat → Nat) : Nat → Nat
  | 0 => 0
  | k + 1 => max (endF bn f k) (f k + durN bn[k]!)
theorem endF_ge (bn : List BN) (f : Nat → Nat) : ∀ k i, i < k → f i + durN bn[i]! ≤ endF bn f k
  | 0, i, h => absurd h (Nat.not_lt_zero _)
  | k + 1, i, h => by
    unfold endF
    rcases Nat.lt_succ_iff_lt_or_eq.1 h with h | rfl
    · have := endF_ge bn f k i h; omega
    · omega
theorem endF_le (bn : List BN) (f : Nat → Nat) (e : Nat) : ∀ k, (∀ i, i < k → f i + durN bn[i]! ≤ e) → endF bn f k ≤ e
  | 0, _ => Nat.zero_le _
  | k + 1, h => by
    have := endF_le bn f e k (fun i hi => h i (by omega))
    have := h k (Nat.lt_succ_self _)
    unfold endF
    omega
theorem endZ_F (bn : List BN) (f : Nat → Nat) (zs : List Int) : ∀ k, (∀ i, i < k → zs[i]?.getD 0 = (f i : Int)) → endZ bn zs k = (endF bn f k : Int)
  | 0, _ => rfl
  | k + 1, h => by
    have h1 := endZ_F bn f zs k (fun i hi => h i (by omega))
    have h2 := h k (Nat.lt_succ_self _)
    unfold endZ endF
    rw [h1, h2]
    omega
theorem FeasF.fit {e : Nat} {f : Nat → Nat} (h : FeasF vn bn e n f) : FeasF vn bn (endF bn f n) n f ∧ endF bn f n ≤ e :=
  ⟨⟨fun i hi => ⟨(h.inr i hi).1, endF_ge bn f n i hi⟩, h.cnt⟩, endF_le bn f e n fun i hi => (h.inr i hi).2⟩
theorem TrueN.ends {en : Nat} {ss : List Nat} (h : TrueN vn bn n en ss) : endF bn (fun i => ss[i]!) n = en := by
  have h1 := h.feas.fit
  have := h.least (endF bn (fun i => ss[i]!) n) (fun i => ss[i]!)
  rcases Nat.lt_or_ge (endF bn (fun i => ss[i]!) n) en with g | g
  · exact absurd h1.1 (this g)
  · omega
theorem rowsB_at (col : Nat → List Nat) (n vl i : Nat) (hi : i < n) : (rowsB col n vl)[i]! = vI (rowG col vl vl 0 i) := by
  rw [getElem!_pos _ i (by simpa [rowsB] using hi)]
  simp [rowsB]
theorem rowG_all (col : Nat → List Nat) (vl i k : Nat) (hk : k < vl) : (rowG col vl vl 0 i)[k]! = (col k)[i]! := by
  unfold rowG
  rw [getElem!_pos _ k (by simpa using hk), List.getElem_map, List.getElem_range, if_pos (Or.inl hk)]
/-- the best schedule is feasible -/
theorem BestN.feasP (hT : TaskN vn bn) (hl : bn.length = n) {en : Nat} {ss : List Nat} {col : Nat → List Nat} (h : BestN vn bn n en ss col) : FeasP vn bn (en : Int) (vI ss) (rowsB col n vn.length) := by
  have t := h.truth hT hl
  have hrow : ∀ i, i < n → (rowsB col n vn.length)[i]! = vI (rowG col vn.length vn.length 0 i) := fun i hi => rowsB_at _ _ _ _ hi
  have hen := h.le
  refine ⟨by rw [vI_len, t.len, hl], by simp [rowsB, hl], fun i hi => ?_, fun i hi => ?_, fun i hi j hj => ?_, ?_⟩
  · have h1 := t.feas.inr i (by omega)
    have h2 : bn[i]!.rdy ≤ ss[i]! := h1.1
    have h3 : ss[i]! + durN bn[i]! ≤ en := h1.2
    rw [vI_get]
    unfold okStart
    rw [decide_eq_true (show (bn[i]!.rdy : Int) ≤ (ss[i]! : Int) by omega), decide_eq_true (show (ss[i]! : Int) ≤ 9223372036854775807 - (durN bn[i]! : Int) by omega)]
    rfl
  · rw [hrow i (by omega)]
    refine ⟨by rw [vI_len, vI_len, rowG_len], fun k hk => ?_⟩
    rw [vI_len, rowG_len] at hk
    rw [vI_get, vI_get, rowG_all _ _ _ _ hk]
    have := (stage_good hT hl hk (h.col k hk)).1 i (by omega)
    omega
  · rw [hrow i (by omega), hrow j (by omega), clash_iff (by rw [vI_len, rowG_len]; exact hT.len i hi) (by rw [vI_len, rowG_len]; exact hT.len j (by omega))]
    intro k hk ⟨he, hm⟩
    rw [vI_len, rowG_len] at hk
    rw [vI_get, vI_get, rowG_all _ _ _ _ hk, rowG_all _ _ _ _ hk] at he
    have := (stage_good hT hl hk (h.col k hk)).2 i (by omega) j (by omega) (by omega) (by omega)
    unfold meetK meetZ at hm
    rw [vI_get, vI_get] at hm
    simp only [Bool.and_eq_true, decide_eq_true_eq] at hm
    omega
  · rw [endZ_F bn (fun i => ss[i]!) (vI ss) bn.length (fun i hi => vI_get ss i), hl, t.ends]

/-! ### a feasible schedule has feasible starts -/
theorem nodup_lt : ∀ (m : Nat) (l : List Nat), l.Nodup → (∀ x ∈ l, x < m) → l.length ≤ m
  | 0, l, _, h => by
    cases l with
    | nil => exact Nat.le_refl _
    | cons x l => exact absurd (h x List.mem_cons_self) (Nat.not_lt_zero _)
  | m + 1, l, hn, h => by
    have h1 := nodup_lt m (l.erase m) (hn.erase m) (fun x hx => by
      have hx' := (hn.mem_erase_iff).1 hx
      have := h x hx'.2
      omega)
    have h2 := List.length_erase (a := m) (l := l)
    split at h2 <;> omega
theorem pigeon (p : Nat → Bool) (g : Nat → Nat) (m : Nat) (l : List Nat) (hn : l.Nodup) (h1 : ∀ i ∈ l, p i = true → g i < m) (h2 : ∀ i ∈ l, ∀ j ∈ l, p i = true → p j = true → i ≠ j → g i ≠ g j) : l.countP p ≤ m := by
  have e : l.countP p = ((l.filter p).map g).length := by rw [List.length_map, List.countP_eq_length_filter]
  rw [e]
  refine nodup_lt m _ ?_ ?_
  · refine List.pairwise_map.2 ?_
    have := hn.filter p
    refine this.imp_of_mem fun {a b} ha hb hab => ?_
    have ha := List.mem_filter.1 ha
    have hb := List.mem_filter.1 hb
    exact h2 a ha.1 b hb.1 ha.2 hb.2 hab
  · intro x hx
    obtain ⟨i, hi, rfl⟩ := List.mem_map.1 hx
    have hi := List.mem_filter.1 hi
    exact h1 i hi.1 hi.2
theorem feas_of_P (hT : TaskN vn bn) (hl : bn.length = n) {e : Int} {zs : List Int} {rs : List (List Int)} (h : FeasP vn bn e zs rs) : ∃ f : Nat → Nat, zs = vI ((List.range n).map f) ∧ e = (endF bn f n : Int) ∧ FeasF vn bn (endF bn f n) n f := by
  have hz : ∀ i, i < n → zs[i]?.getD 0 = (((zs[i]?.getD 0).toNat : Nat) : Int) := fun i hi => by
    have := (okStart_le (h.st i (by omega))).1
    omega
  refine ⟨fun i => (zs[i]?.getD 0).toNat, ?_, ?_, ⟨fun i hi => ⟨?_, endF_ge bn (fun i => (zs[i]?.getD 0).toNat) n i hi⟩, fun k hk t => ?_⟩⟩
  · refine List.ext_getElem (by rw [vI_len, List.length_map, List.length_range, h.ls, hl]) fun i h1 h2 => ?_
    have := hz i (by rw [← hl, ← h.ls]; exact h1)
    have key : ∀ (l : List Nat) (h : i < (vI l).length), (vI l)[i] = ((l[i]'(by rw [vI_len] at h; exact h) : Nat) : Int) := fun l h => by simp [vI]
    rw [key _ h2, List.getElem_map, List.getElem_range, ← this, List.getElem?_eq_getElem h1, Option.getD_some]
  · rw [h.en, hl]
    exact endZ_F bn (fun i => (zs[i]?.getD 0).toNat) zs n hz
  · have := (okStart_le (h.st i (by omega))).1
    show bn[i]!.rdy ≤ (zs[i]?.getD 0).toNat
    omega
  · have hve : ∀ i, i < n → (rs[i]!).length = vn.length ∧ 0 ≤ (rs[i]!)[k]?.getD 0 ∧ (rs[i]!)[k]?.getD 0 < (vn[k]! : Int) := fun i hi => by
      have h1 := h.ve i (by omega)
      have hlen := h1.1
      rw [vI_len] at hlen
      have := h1.2 k (by omega)
      rw [vI_get] at this
      exact ⟨hlen, this⟩
    refine pigeon _ (fun i => ((rs[i]!)[k]?.getD 0).toNat) vn[k]! (List.range n) List.nodup_range (fun i hi _ => ?_) (fun i hi j hj hpi hpj hij => ?_)
    · have := hve i (List.mem_range.1 hi)
      omega
    · have hi := List.mem_range.1 hi
      have hj := List.mem_range.1 hj
      have key : ∀ a b, a < n → b < n → b < a → inN bn[a]! (zs[a]?.getD 0).toNat k t = true → inN bn[b]! (zs[b]?.getD 0).toNat k t = true → ((rs[a]!)[k]?.getD 0).toNat ≠ ((rs[b]!)[k]?.getD 0).toNat := by
        intro a b ha hb hab hpa hpb heq
        have va := hve a ha
        have vb := hve b hb
        have hc := h.cl a (by omega) b hab
        rw [clash_iff (by rw [va.1]; exact hT.len a (by omega)) (by rw [va.1]; exact hT.len b (by omega))] at hc
        refine hc k (by omega) ⟨by omega, ?_⟩
        unfold inN at hpa hpb
        simp only [Bool.and_eq_true, decide_eq_true_eq] at hpa hpb
        have za := hz a ha
        have zb := hz b hb
        unfold meetK meetZ
        rw [Bool.and_eq_true, decide_eq_true_eq, decide_eq_true_eq]
        omega
      rcases Nat.lt_or_gt_of_ne hij with g | g
      · exact fun e => key j i hj hi g hpj hpi e.symm
      · exact key i j hi hj g hpi hpj
end

/-! ### lesser starts -/
def lessZ : List Int → List Int → Bool
  | a :: l, b :: m => if a ≠ b then decide (a < b) else lessZ l m
  | _, _ => false
theorem less_of_lex : ∀ (ss ts : List Nat), leLex ss ts → lessZ (vI ts) (vI ss) = false
  | a :: l, b :: m, h => by
    show (if (b : Int) ≠ (a : Int) then decide ((b : Int) < (a : Int)) else lessZ (vI m) (vI l)) = false
    rcases h with h | ⟨rfl, h⟩
    · rw [if_pos (by omega), decide_eq_false (by omega)]
    · rw [if_neg (by simp)]
      exact less_of_lex l m h
  | [], [], _ => rfl
  | [], _ :: _, _ => rfl
  | _ :: _, [], _ => rfl
/-- what PlanLeast asks -/
theorem TrueN.isLeast {vn : List Nat} {bn : List BN} {n en : Nat} {ss : List Nat} (hT : TaskN vn bn) (hl : bn.length = n) (h : TrueN vn bn n en ss) {e : Int} {zs : List Int} {rs : List (List Int)} (hf : FeasP vn bn e zs rs) : ¬ (e < (en : Int)) ∧ (e = (en : Int) → lessZ zs (vI ss) = false) := by
  obtain ⟨f, rfl, rfl, hF⟩ := feas_of_P hT hl hf
  constructor
  · intro hlt
    exact h.least _ f (by omega) hF
  · intro he
    have he : endF bn f n = en := by omega
    rw [he] at hF
    exact less_of_lex _ _ (h.lex f hF)
end Go.Proofs.YtbidadkcdchomaaDoor
