/- Part 10 of the contracts: DRef9, DMade, DPair, DCommE, DPlays0. -/
import Derived.StillTailTactics
import Derived.Deep.RegionHeldLaw
import Derived.Test.YthjmiimkplhffaaPart9

/- The law's add. (By gen_lawadd.py.) -/
set_option linter.unusedVariables false
set_option linter.unusedSimpArgs false
namespace Go.Proofs.Ythjmiimkplhffaa
open Go.RowKit Go.Maps

theorem results_cell2_tmp {P : Program} {fn : Func} {p1 p2 q : Tmp} {ty1 ty2 : TypeId} (h : fn.results = #[.cell p1 ty1, .cell p2 ty2, .tmp q]) (tmps : Array Value) (w : World) (g1 g2 : Nat) (t1 t2 : TypeId) (cs1 cs2 : Array Value) (fr1 fr2 : Nat × Nat) (d1 d2 : TypeDesc)
    (hp1 : tmps.getD p1 undef = .pointer (some ⟨g1, 0, none⟩)) (hg1 : w.heap[g1]? = some (.cells cs1 t1 fr1)) (hp2 : tmps.getD p2 undef = .pointer (some ⟨g2, 0, none⟩)) (hg2 : w.heap[g2]? = some (.cells cs2 t2 fr2))
    (hu1 : P.underlying ty1 = some d1) (hd1 : (match d1 with | .struct _ | .array _ _ => true | _ => false) = true) (hi1 : (P.info? ty1).map (·.size) = some cs1.size)
    (hu2 : P.underlying ty2 = some d2) (hd2 : (match d2 with | .struct _ | .array _ _ => true | _ => false) = true) (hi2 : (P.info? ty2).map (·.size) = some cs2.size) :
    (results fn tmps).run P w = .ok (.tuple #[.agg cs1, .agg cs2, tmps.getD q undef]) w := by
  have hp1' : tmps[p1]?.getD undef = .pointer (some ⟨g1, 0, none⟩) := by simpa using hp1
  have hp2' : tmps[p2]?.getD undef = .pointer (some ⟨g2, 0, none⟩) := by simpa using hp2
  simp [results, h, hp1', hp2', asAddr, run_loadVar_row w g1 t1 ty1 cs1 fr1 d1 hg1 hu1 hd1 hi1, run_loadVar_row w g2 t2 ty2 cs2 fr2 d2 hg2 hu2 hd2 hi2, Result.andThen]

theorem five_blocks (W : World) (a b c d e : Obj) : Below W.heap.size W (((((W.alloc a).alloc b).alloc c).alloc d).alloc e) ∧ (((((W.alloc a).alloc b).alloc c).alloc d).alloc e).heap[W.heap.size]? = some a ∧ (((((W.alloc a).alloc b).alloc c).alloc d).alloc e).heap[W.heap.size + 1]? = some b ∧
    (((((W.alloc a).alloc b).alloc c).alloc d).alloc e).heap[W.heap.size + 1 + 1]? = some c ∧ (((((W.alloc a).alloc b).alloc c).alloc d).alloc e).heap[W.heap.size + 1 + 1 + 1]? = some d ∧ (((((W.alloc a).alloc b).alloc c).alloc d).alloc e).heap[W.heap.size + 1 + 1 + 1 + 1]? = some e := by
  obtain ⟨h1, h2, h3, h4⟩ := two_blocks W a b
  generalize (W.alloc a).alloc b = V at h1 h2 h3 h4 ⊢
  have e1 : V.heap.size = W.heap.size + 1 + 1 := by omega
  obtain ⟨k1, k2, k3, k4⟩ := two_blocks V c d
  generalize (V.alloc c).alloc d = U at k1 k2 k3 k4 ⊢
  have e2 : U.heap.size = W.heap.size + 1 + 1 + 1 + 1 := by omega
  rw [e1] at k2 k3
  have hU := below_then h1 k1
  have hb := box_below U e
  have j5 := heap_alloc_new U e
  rw [e2] at j5
  exact ⟨below_then hU hb, row_keep hb (row_keep k1 h2), row_keep hb (row_keep k1 h3), row_keep hb k2, row_keep hb k3, j5⟩

/-- the number of the error -/
def errOf (L : Nat) (v m : Int) : Int := if 0 ≤ v ∧ v < 2 ^ L ∧ 1 ≤ m then 5 else 2
theorem err_of {L : Nat} {v m er : Int} (h : er = 2 ∧ ¬ AddOk L v m ∨ er = 5 ∧ AddOk L v m) : er = errOf L v m := by
  unfold errOf
  rcases h with ⟨h1, h2⟩ | ⟨h1, h2⟩
  · rw [if_neg (show ¬ (0 ≤ v ∧ v < 2 ^ L ∧ 1 ≤ m) from h2), h1]
  · rw [if_pos (show 0 ≤ v ∧ v < 2 ^ L ∧ 1 ≤ m from h2), h1]
theorem err_ne (L : Nat) (v m : Int) : errOf L v m ≠ 0 ∧ 0 ≤ errOf L v m ∧ errOf L v m ≤ 10 := by unfold errOf; split <;> omega
theorem addNo (tb L : Nat) (F : Int) (c : Int → Int) (v m : Int) (W : World) (h : DigM W tb L F c) (hf : ¬ Fits L c v m) :
    Calls Try.prog 25 #[.agg #[.int .i64 (L : Int), .int .i64 F, .pointer (some ⟨tb, 0, none⟩)], .int .i64 v, .int .i64 m] W (fun e w' => e = .returned (.tuple #[.agg #[.int .i64 0, .int .i64 0, .pointer none], .int .i64 (errOf L v m)]) ∧ Below W.heap.size W w') := by
  refine (add_gen tb L F c v m W h).mono ?_
  rintro e w' ⟨a, b, p, er, he, hb, k | k⟩
  · obtain ⟨_, _, rfl, rfl, rfl, k2⟩ := k
    rw [err_of k2] at he
    exact ⟨he, hb⟩
  · exact absurd k.2.1 hf
theorem refNo (ao : Option Addr) (n cap L : Nat) (F : Int) (c : Int → Int) (v m : Int) (W : World) (h : DocM W ao n L c) (ht : tot L c ≤ 1099511627776) (hF : 1 ≤ F) (hf : ¬ Fits L c v m) :
    Calls Try.prog 34 #[.agg #[.int .i64 (L : Int), .int .i64 F, .slice ao n cap], .int .i64 v, .int .i64 m] W (fun e w' => e = .returned (.tuple #[.agg #[.int .i64 0, .int .i64 0, .slice none 0 0], .int .i64 (errOf L v m)]) ∧ Below W.heap.size W w') := by
  refine (refAdd ao n cap L F c v m W h ht hF).mono ?_
  rintro e w' ⟨a, b, ao1, n1, cap1, er, he, hb, k | k⟩
  · obtain ⟨_, _, rfl, rfl, rfl, rfl, rfl, k2⟩ := k
    rw [err_of k2] at he
    exact ⟨he, hb⟩
  · exact absurd k.2.1 hf
/-- one step of both -/
def StepTo (L : Nat) (F : Int) (c : Int → Int) (v m : Int) (d : Int → Int) : Prop := Comp ((tot L c + m) / F) L (fun q => c q + leafF (2 ^ L + v) m q) d ∧ tot L d = tot L c + m
theorem addYes2 (tb L : Nat) (F : Int) (c : Int → Int) (v m : Int) (W : World) (h : DigM W tb L F c) (hf : Fits L c v m) :
    Calls Try.prog 25 #[.agg #[.int .i64 (L : Int), .int .i64 F, .pointer (some ⟨tb, 0, none⟩)], .int .i64 v, .int .i64 m] W (fun e w' => ∃ T d, e = .returned (.tuple #[.agg #[.int .i64 (L : Int), .int .i64 F, .pointer (some ⟨T, 0, none⟩)], .int .i64 0]) ∧ StepTo L F c v m d ∧ DigM w' T L F d ∧ Below W.heap.size W w' ∧ W.heap.size ≤ T) := by
  refine (add_gen tb L F c v m W h).mono ?_
  rintro e w' ⟨a, b, p, er, he, hb, k | k⟩
  · exact absurd hf k.2.1
  · obtain ⟨rfl, _, T, d, rfl, rfl, rfl, k0, k1, k2, k3⟩ := k
    exact ⟨T, d, he, ⟨k1, k3⟩, k2, hb, k0⟩
theorem refYes2 (ao : Option Addr) (n cap L : Nat) (F : Int) (c : Int → Int) (v m : Int) (W : World) (h : DocM W ao n L c) (ht : tot L c ≤ 1099511627776) (hF : 1 ≤ F) (hf : Fits L c v m) :
    Calls Try.prog 34 #[.agg #[.int .i64 (L : Int), .int .i64 F, .slice ao n cap], .int .i64 v, .int .i64 m] W (fun e w' => ∃ ao1 n1 cap1 d, e = .returned (.tuple #[.agg #[.int .i64 (L : Int), .int .i64 F, .slice ao1 n1 cap1], .int .i64 0]) ∧ StepTo L F c v m d ∧ DocM w' ao1 n1 L d ∧ Below W.heap.size W w' ∧ ∀ b, ao1 = some ⟨b, 0, none⟩ → W.heap.size ≤ b) := by
  refine (refAdd ao n cap L F c v m W h ht hF).mono ?_
  rintro e w' ⟨a, b, ao1, n1, cap1, er, he, hb, k | k⟩
  · exact absurd hf k.2.1
  · obtain ⟨rfl, _, rfl, rfl, d, k1, k2, k3, k4⟩ := k
    exact ⟨ao1, n1, cap1, d, he, ⟨k1, k2⟩, k3, hb, k4⟩

/-- both digests are returned -/
def BothPost (L : Nat) (F : Int) (tb0 : Nat) (ao0 : Option Addr) (W : World) (e : Ending) (w' : World) : Prop :=
  ∃ tb d ao n cap, e = .returned (.tuple #[.agg #[.int .i64 (L : Int), .int .i64 F, .pointer (some ⟨tb, 0, none⟩)], .agg #[.int .i64 (L : Int), .int .i64 F, .slice ao n cap], .bool true]) ∧ DigM w' tb L F d ∧ DocM w' ao n L d ∧ Below W.heap.size W w' ∧ (tb = tb0 ∨ W.heap.size ≤ tb) ∧ Src W ao0 ao
theorem both_done {W w : World} {B6 B7 tb L n cap : Nat} {F : Int} {ao : Option Addr} {d : Int → Int} (hb : Below W.heap.size W w) (h6 : W.heap.size ≤ B6) (h7 : W.heap.size ≤ B7) (hne : B6 ≠ B7) (z6 : w.heap[B6]? = some (.cells #[.int .i64 0, .int .i64 0, .pointer none] 28 (0, 0))) (z7 : w.heap[B7]? = some (.cells #[.int .i64 0, .int .i64 0, .slice none 0 0] 34 (0, 0)))
    (hd : DigM w tb L F d) (ht : tb ≠ B6 ∧ tb ≠ B7) (hr : DocM w ao n L d) (ha : ∀ b, ao = some ⟨b, 0, none⟩ → b ≠ B6 ∧ b ≠ B7) {w' : World}
    (hw : w' = ((((((w.setCell ⟨B6, 0, none⟩ (.int .i64 (L : Int))).setCell ⟨B6, 1, none⟩ (.int .i64 F)).setCell ⟨B6, 2, none⟩ (.pointer (some ⟨tb, 0, none⟩))).setCell ⟨B7, 0, none⟩ (.int .i64 (L : Int))).setCell ⟨B7, 1, none⟩ (.int .i64 F)).setCell ⟨B7, 2, none⟩ (.slice ao n cap))) :
    w'.heap[B6]? = some (.cells #[.int .i64 (L : Int), .int .i64 F, .pointer (some ⟨tb, 0, none⟩)] 28 (0, 0)) ∧ w'.heap[B7]? = some (.cells #[.int .i64 (L : Int), .int .i64 F, .slice ao n cap] 34 (0, 0)) ∧ DigM w' tb L F d ∧ DocM w' ao n L d ∧ Below W.heap.size W w' := by
  have o6 := set3_only w B6 (.int .i64 (L : Int)) (.int .i64 F) (.pointer (some ⟨tb, 0, none⟩))
  have s6 := set_three (x := .int .i64 (L : Int)) (y := .int .i64 F) (z := .pointer (some ⟨tb, 0, none⟩)) z6
  have l6 := (Array.getElem?_eq_some_iff.1 z6).1
  have l7 := (Array.getElem?_eq_some_iff.1 z7).1
  have k7 := (o6.block B7 l7 (fun e => hne e.symm)).trans z7
  subst hw
  generalize ((w.setCell ⟨B6, 0, none⟩ (.int .i64 (L : Int))).setCell ⟨B6, 1, none⟩ (.int .i64 F)).setCell ⟨B6, 2, none⟩ (.pointer (some ⟨tb, 0, none⟩)) = w1 at o6 s6 k7 ⊢
  have o7 := set3_only w1 B7 (.int .i64 (L : Int)) (.int .i64 F) (.slice ao n cap)
  have hs6 := o6.size
  refine ⟨(o7.block B6 (by omega) hne).trans s6, set_three k7, ?_, ?_, only_below (only_below hb o6 h6) o7 h7⟩
  · refine (hd.only o6 ht.1 (fun i hi _ => by subst hi; exact ⟨_, _, _, z6⟩)).only o7 ht.2 (fun i hi _ => by subst hi; exact ⟨_, _, _, k7⟩)
  · exact (hr.only o6 (fun b e => (ha b e).1)).only o7 (fun b e => (ha b e).2)

set_option maxRecDepth 100000 in
set_option maxHeartbeats 8000000 in
theorem lawAdd_no (tb L : Nat) (F : Int) (c : Int → Int) (ao : Option Addr) (n cap : Nat) (v m : Int) (W : World) (hd : DigM W tb L F c) (hr : DocM W ao n L c) (hf : ¬ Fits L c v m) :
    Calls Try.prog 16 #[.agg #[.int .i64 (L : Int), .int .i64 F, .pointer (some ⟨tb, 0, none⟩)], .agg #[.int .i64 (L : Int), .int .i64 F, .slice ao n cap], .agg #[.int .i64 v, .int .i64 m]] W (BothPost L F tb ao W) := by
  obtain ⟨t1, t2, t3, t4, t5, t6⟩ := five_blocks W (.cells #[.int .i64 (L : Int), .int .i64 F, .pointer (some ⟨tb, 0, none⟩)] 28) (.cells #[.int .i64 (L : Int), .int .i64 F, .slice ao n cap] 34) (.cells #[.int .i64 v, .int .i64 m] 43) (.cells #[.int .i64 0, .int .i64 0, .pointer none] 28) (.cells #[.int .i64 0, .int .i64 0, .slice none 0 0] 34)
  have HB := Lib.hid t1
  have R3 := Lib.hid t2
  have R4 := Lib.hid t3
  have R5 := Lib.hid t4
  have R6 := Lib.hid t5
  have R7 := Lib.hid t6
  have DA := Lib.hid (hd.keep t1)
  have DR := Lib.hid (hr.keep t1)
  have HT : Hid (tot L c ≤ 1099511627776 ∧ 1 ≤ F) := Lib.hid (by obtain ⟨mb, _, _, _, hR, _, ht, _⟩ := hd; exact ⟨ht, hR.2.2.1⟩)
  have HTB : Hid (tb < W.heap.size) := Lib.hid (by obtain ⟨mb, _, _, h3, _⟩ := hd; exact h3)
  have HAO : Hid (∀ b, ao = some ⟨b, 0, none⟩ → b < W.heap.size) := Lib.hid hr.2.1.2
  have HF := Lib.hid hf
  clear t1 t2 t3 t4 t5 t6 hd hr hf
  go_enter Try.func16, Try.ntmps16
  go_upto_region 1 with fail
  generalize hV : ((((W.alloc (.cells #[.int .i64 (L : Int), .int .i64 F, .pointer (some ⟨tb, 0, none⟩)] 28)).alloc (.cells #[.int .i64 (L : Int), .int .i64 F, .slice ao n cap] 34)).alloc (.cells #[.int .i64 v, .int .i64 m] 43)).alloc (.cells #[.int .i64 0, .int .i64 0, .pointer none] 28)).alloc (.cells #[.int .i64 0, .int .i64 0, .slice none 0 0] 34) = V at HB R3 R4 R5 R6 R7 DA DR ⊢
  clear hV
  generalize hBW : W.heap.size = B at R3 R4 R5 R6 R7 ⊢
  have HBW := Lib.hid hBW
  clear hBW
  obtain ⟨a0, a1, a2, _, _, _⟩ := three_cells R3.out
  obtain ⟨b0, b1, _, _⟩ := two_cells R5.out
  go_wp2_with fail
  refine (addNo tb L F c v m V DA.out HF.out).mono ?_
  rintro e w1 ⟨rfl, hb1⟩
  replace HB := Lib.hid (HB.out.trans (hb1.mono HB.out.size))
  replace R3 := Lib.hid (row_keep hb1 R3.out)
  replace R4 := Lib.hid (row_keep hb1 R4.out)
  replace R5 := Lib.hid (row_keep hb1 R5.out)
  replace R6 := Lib.hid (row_keep hb1 R6.out)
  replace R7 := Lib.hid (row_keep hb1 R7.out)
  replace DA := Lib.hid (DA.out.keep hb1)
  replace DR := Lib.hid (DR.out.keep hb1)
  have HR7 := R7
  clear hb1 a0 a1 a2 b0 b1
  go_upto_region 2 with fail
  have K := box_below w1 (.cells #[.int .i64 0, .int .i64 0, .pointer none] 28)
  have R9 := Lib.hid (cells_new w1 #[.int .i64 0, .int .i64 0, .pointer none] 28)
  replace HB := Lib.hid (HB.out.trans (K.mono HB.out.size))
  replace R3 := Lib.hid (row_keep K R3.out)
  replace R4 := Lib.hid (row_keep K R4.out)
  replace R5 := Lib.hid (row_keep K R5.out)
  replace R6 := Lib.hid (row_keep K R6.out)
  replace R7 := Lib.hid (row_keep K R7.out)
  replace DA := Lib.hid (DA.out.keep K)
  replace DR := Lib.hid (DR.out.keep K)
  clear K
  generalize w1.alloc (.cells #[.int .i64 0, .int .i64 0, .pointer none] 28) = V1 at HB R3 R4 R5 R6 R7 DA DR R9 ⊢
  have hl7 := (Array.getElem?_eq_some_iff.1 HR7.out).1
  generalize w1.heap.size = B9 at R9 hl7 ⊢
  have HB9 := Lib.hid hl7
  clear hl7
  obtain ⟨a0, a1, a2, _, _, _⟩ := three_cells R4.out
  obtain ⟨b0, b1, _, _⟩ := two_cells R5.out
  go_wp2_with fail
  refine (refNo ao n cap L F c v m V1 DR.out HT.out.1 HT.out.2 HF.out).mono ?_
  rintro e w2 ⟨rfl, hb2⟩
  replace HB := Lib.hid (HB.out.trans (hb2.mono HB.out.size))
  replace R3 := Lib.hid (row_keep hb2 R3.out)
  replace R4 := Lib.hid (row_keep hb2 R4.out)
  replace R5 := Lib.hid (row_keep hb2 R5.out)
  replace R6 := Lib.hid (row_keep hb2 R6.out)
  replace R7 := Lib.hid (row_keep hb2 R7.out)
  replace R9 := Lib.hid (row_keep hb2 R9.out)
  replace DA := Lib.hid (DA.out.keep hb2)
  replace DR := Lib.hid (DR.out.keep hb2)
  clear hb2 a0 a1 a2 b0 b1
  go_upto_region 3 with fail
  have K := box_below w2 (.cells #[.int .i64 0, .int .i64 0, .slice none 0 0] 34)
  have R11 := Lib.hid (cells_new w2 #[.int .i64 0, .int .i64 0, .slice none 0 0] 34)
  replace HB := Lib.hid (HB.out.trans (K.mono HB.out.size))
  replace R3 := Lib.hid (row_keep K R3.out)
  replace R4 := Lib.hid (row_keep K R4.out)
  replace R5 := Lib.hid (row_keep K R5.out)
  replace R6 := Lib.hid (row_keep K R6.out)
  replace R7 := Lib.hid (row_keep K R7.out)
  replace R9 := Lib.hid (row_keep K R9.out)
  replace DA := Lib.hid (DA.out.keep K)
  replace DR := Lib.hid (DR.out.keep K)
  clear K
  generalize w2.alloc (.cells #[.int .i64 0, .int .i64 0, .slice none 0 0] 34) = V2 at HB R3 R4 R5 R6 R7 R9 DA DR R11 ⊢
  generalize w2.heap.size = B11 at R11 ⊢
  obtain ⟨x0, x1, x2⟩ := err_ne L v m
  generalize errOf L v m = er at x0 x1 x2 ⊢
  have x3 : ((er : Int) == 0) = false := by simpa using x0
  have x4 : ((er : Int) != 0) = true := by simpa using x0
  have x5 : ((er : Int) == er) = true := by simp
  obtain ⟨a0, a1, a2, _, _, _⟩ := three_cells R3.out
  obtain ⟨a3, a4, a5, _, _, _⟩ := three_cells R4.out
  obtain ⟨a6, a7, a8, _, _, _⟩ := three_cells R9.out
  go_wp2_with fail
  have n0 : B ≠ B + 1 + 1 + 1 := by omega
  have p0 : B ≠ B + 1 + 1 + 1 + 1 := by omega
  have n1 : B ≠ B + 1 + 1 + 1 := by omega
  have p1 : B ≠ B + 1 + 1 + 1 + 1 := by omega
  have n2 : B ≠ B + 1 + 1 + 1 := by omega
  have p2 : B ≠ B + 1 + 1 + 1 + 1 := by omega
  have n3 : B + 1 ≠ B + 1 + 1 + 1 := by omega
  have p3 : B + 1 ≠ B + 1 + 1 + 1 + 1 := by omega
  have n4 : B + 1 ≠ B + 1 + 1 + 1 := by omega
  have p4 : B + 1 ≠ B + 1 + 1 + 1 + 1 := by omega
  have n5 : B + 1 ≠ B + 1 + 1 + 1 := by omega
  have p5 : B + 1 ≠ B + 1 + 1 + 1 + 1 := by omega
  have n6 : B9 ≠ B + 1 + 1 + 1 := by have := HB9.out; omega
  have p6 : B9 ≠ B + 1 + 1 + 1 + 1 := by have := HB9.out; omega
  have n7 := n6
  have n8 := n6
  have p7 := p6
  have p8 := p6
  go_region_held3 (fun w' => w'.cell? ⟨B, 0, none⟩ = some (.int .i64 (L : Int)) ∧ w'.cell? ⟨B, 1, none⟩ = some (.int .i64 F) ∧ w'.cell? ⟨B, 2, none⟩ = some (.pointer (some ⟨tb, 0, none⟩)) ∧ w'.cell? ⟨B + 1, 0, none⟩ = some (.int .i64 (L : Int)) ∧ w'.cell? ⟨B + 1, 1, none⟩ = some (.int .i64 F) ∧ w'.cell? ⟨B + 1, 2, none⟩ = some (.slice ao n cap) ∧ w'.cell? ⟨B9, 0, none⟩ = some (.int .i64 0) ∧ w'.cell? ⟨B9, 1, none⟩ = some (.int .i64 0) ∧ w'.cell? ⟨B9, 2, none⟩ = some (.pointer none)) (first | with_reducible exact ⟨keep_set3 v0 n0, keep_set3 v1 n1, keep_set3 v2 n2, keep_set3 v3 n3, keep_set3 v4 n4, keep_set3 v5 n5, keep_set3 v6 n6, keep_set3 v7 n7, keep_set3 v8 n8⟩ | with_reducible exact ⟨keep_set3 (keep_set3 v0 n0) p0, keep_set3 (keep_set3 v1 n1) p1, keep_set3 (keep_set3 v2 n2) p2, keep_set3 (keep_set3 v3 n3) p3, keep_set3 (keep_set3 v4 n4) p4, keep_set3 (keep_set3 v5 n5) p5, keep_set3 (keep_set3 v6 n6) p6, keep_set3 (keep_set3 v7 n7) p7, keep_set3 (keep_set3 v8 n8) p8⟩ | with_reducible exact ⟨keep_set3 v0 p0, keep_set3 v1 p1, keep_set3 v2 p2, keep_set3 v3 p3, keep_set3 v4 p4, keep_set3 v5 p5, keep_set3 v6 p6, keep_set3 v7 p7, keep_set3 v8 p8⟩ | with_reducible exact ⟨keep_set3 (keep_set3 v0 p0) n0, keep_set3 (keep_set3 v1 p1) n1, keep_set3 (keep_set3 v2 p2) n2, keep_set3 (keep_set3 v3 p3) n3, keep_set3 (keep_set3 v4 p4) n4, keep_set3 (keep_set3 v5 p5) n5, keep_set3 (keep_set3 v6 p6) n6, keep_set3 (keep_set3 v7 p7) n7, keep_set3 (keep_set3 v8 p8) n8⟩ | go_keep)
    (first | (go_at_call 15; refine (same_zero _).mono ?_; rintro e w4 ⟨rfl, hb4⟩; have B4 := Lib.hid (below_then (below_drewN (Below.refl V2.heap.size V2) 1) hb4); have v0 := cell_later B4.out a0; have v1 := cell_later B4.out a1; have v2 := cell_later B4.out a2; have v3 := cell_later B4.out a3; have v4 := cell_later B4.out a4; have v5 := cell_later B4.out a5; have v6 := cell_later B4.out a6; have v7 := cell_later B4.out a7; have v8 := cell_later B4.out a8; have Z6 := Lib.hid (row_keep B4.out R6.out); have Z7 := Lib.hid (row_keep B4.out R7.out); have y0 := (three_cells Z6.out).1; have y1 := (three_cells Z6.out).2.1; have y2 := (three_cells Z6.out).2.2.1; have y3 := (three_cells Z6.out).2.2.2.1; have y4 := (three_cells Z6.out).2.2.2.2.1; have y5 := (three_cells Z6.out).2.2.2.2.2; have z0 := (three_cells Z7.out).1; have z1 := (three_cells Z7.out).2.1; have z2 := (three_cells Z7.out).2.2.1; have z3 := (three_cells Z7.out).2.2.2.1; have z4 := (three_cells Z7.out).2.2.2.2.1; have z5 := (three_cells Z7.out).2.2.2.2.2; clear hb4))
  have HW4 := HB.out.trans (B4.out.mono HB.out.size)
  have HD := Lib.hid (both_done (B6 := B + 1 + 1 + 1) (B7 := B + 1 + 1 + 1 + 1) (cap := cap) HW4 (by have := HBW.out; omega) (by have := HBW.out; omega) (by omega) Z6.out Z7.out (DA.out.keep B4.out) (⟨by have := HTB.out; have := HBW.out; omega, by have := HTB.out; have := HBW.out; omega⟩) (DR.out.keep B4.out) (fun b hb => by have := HAO.out b hb; have := HBW.out; omega) rfl)
  clear HW4 y0 y1 y2 y3 y4 y5 z0 z1 z2 z3 z4 z5
  go_wp2
  refine bodyPost_ret (v := .tuple #[.agg #[.int .i64 (L : Int), .int .i64 F, .pointer (some ⟨tb, 0, none⟩)], .agg #[.int .i64 (L : Int), .int .i64 F, .slice ao n cap], .bool true]) (results_cell2_tmp Try.results16 _ _ (B + 1 + 1 + 1) (B + 1 + 1 + 1 + 1) 28 34 _ _ (0, 0) (0, 0) _ _ rfl HD.out.1 rfl HD.out.2.1 Try.underlying28 (by kernel_rfl) (by kernel_rfl) Try.underlying34 (by kernel_rfl) (by kernel_rfl)) rfl ?_
  exact ⟨tb, c, ao, n, cap, rfl, HD.out.2.2.1, HD.out.2.2.2.1, HD.out.2.2.2.2, .inl rfl, .inl rfl⟩

set_option maxRecDepth 100000 in
set_option maxHeartbeats 8000000 in
theorem lawAdd_yes (tb L : Nat) (F : Int) (c : Int → Int) (ao : Option Addr) (n cap : Nat) (v m : Int) (W : World) (hd : DigM W tb L F c) (hr : DocM W ao n L c) (hf : Fits L c v m) :
    Calls Try.prog 16 #[.agg #[.int .i64 (L : Int), .int .i64 F, .pointer (some ⟨tb, 0, none⟩)], .agg #[.int .i64 (L : Int), .int .i64 F, .slice ao n cap], .agg #[.int .i64 v, .int .i64 m]] W (BothPost L F tb ao W) := by
  obtain ⟨t1, t2, t3, t4, t5, t6⟩ := five_blocks W (.cells #[.int .i64 (L : Int), .int .i64 F, .pointer (some ⟨tb, 0, none⟩)] 28) (.cells #[.int .i64 (L : Int), .int .i64 F, .slice ao n cap] 34) (.cells #[.int .i64 v, .int .i64 m] 43) (.cells #[.int .i64 0, .int .i64 0, .pointer none] 28) (.cells #[.int .i64 0, .int .i64 0, .slice none 0 0] 34)
  have HB := Lib.hid t1
  have R3 := Lib.hid t2
  have R4 := Lib.hid t3
  have R5 := Lib.hid t4
  have R6 := Lib.hid t5
  have R7 := Lib.hid t6
  have DA := Lib.hid (hd.keep t1)
  have DR := Lib.hid (hr.keep t1)
  have HT : Hid (tot L c ≤ 1099511627776 ∧ 1 ≤ F) := Lib.hid (by obtain ⟨mb, _, _, _, hR, _, ht, _⟩ := hd; exact ⟨ht, hR.2.2.1⟩)
  have HTB : Hid (tb < W.heap.size) := Lib.hid (by obtain ⟨mb, _, _, h3, _⟩ := hd; exact h3)
  have HAO : Hid (∀ b, ao = some ⟨b, 0, none⟩ → b < W.heap.size) := Lib.hid hr.2.1.2
  have HF := Lib.hid hf
  clear t1 t2 t3 t4 t5 t6 hd hr hf
  go_enter Try.func16, Try.ntmps16
  go_upto_region 1 with fail
  generalize hV : ((((W.alloc (.cells #[.int .i64 (L : Int), .int .i64 F, .pointer (some ⟨tb, 0, none⟩)] 28)).alloc (.cells #[.int .i64 (L : Int), .int .i64 F, .slice ao n cap] 34)).alloc (.cells #[.int .i64 v, .int .i64 m] 43)).alloc (.cells #[.int .i64 0, .int .i64 0, .pointer none] 28)).alloc (.cells #[.int .i64 0, .int .i64 0, .slice none 0 0] 34) = V at HB R3 R4 R5 R6 R7 DA DR ⊢
  clear hV
  generalize hBW : W.heap.size = B at R3 R4 R5 R6 R7 ⊢
  have HBW := Lib.hid hBW
  clear hBW
  obtain ⟨a0, a1, a2, _, _, _⟩ := three_cells R3.out
  obtain ⟨b0, b1, _, _⟩ := two_cells R5.out
  go_wp2_with fail
  refine (addYes2 tb L F c v m V DA.out HF.out).mono ?_
  rintro e w1 ⟨T1, d, rfl, hst, hdm, hb1, hT1⟩
  have ST := Lib.hid hst
  have D1 := Lib.hid hdm
  have HR7 := R7
  replace HB := Lib.hid (HB.out.trans (hb1.mono HB.out.size))
  replace R3 := Lib.hid (row_keep hb1 R3.out)
  replace R4 := Lib.hid (row_keep hb1 R4.out)
  replace R5 := Lib.hid (row_keep hb1 R5.out)
  replace R6 := Lib.hid (row_keep hb1 R6.out)
  replace R7 := Lib.hid (row_keep hb1 R7.out)
  replace DR := Lib.hid (DR.out.keep hb1)
  have HT1 : Hid (B + 1 + 1 + 1 + 1 < T1) := Lib.hid (by have := (Array.getElem?_eq_some_iff.1 HR7.out).1; omega)
  clear hb1 a0 a1 a2 b0 b1 hst hdm hT1 DA
  go_upto_region 2 with fail
  have W7 := R7.out
  have K := box_below w1 (.cells #[.int .i64 (L : Int), .int .i64 F, .pointer (some ⟨T1, 0, none⟩)] 28)
  have R9 := Lib.hid (cells_new w1 #[.int .i64 (L : Int), .int .i64 F, .pointer (some ⟨T1, 0, none⟩)] 28)
  replace HB := Lib.hid (HB.out.trans (K.mono HB.out.size))
  replace R3 := Lib.hid (row_keep K R3.out)
  replace R4 := Lib.hid (row_keep K R4.out)
  replace R5 := Lib.hid (row_keep K R5.out)
  replace R6 := Lib.hid (row_keep K R6.out)
  replace R7 := Lib.hid (row_keep K R7.out)
  replace D1 := Lib.hid (D1.out.keep K)
  replace DR := Lib.hid (DR.out.keep K)
  clear K
  generalize w1.alloc (.cells #[.int .i64 (L : Int), .int .i64 F, .pointer (some ⟨T1, 0, none⟩)] 28) = V1 at HB R3 R4 R5 R6 R7 D1 DR R9 ⊢
  have hl7 : B + 1 + 1 + 1 + 1 < w1.heap.size := (Array.getElem?_eq_some_iff.1 W7).1
  generalize w1.heap.size = B9 at R9 hl7 ⊢
  have HB9 := Lib.hid hl7
  clear hl7
  obtain ⟨a0, a1, a2, _, _, _⟩ := three_cells R4.out
  obtain ⟨b0, b1, _, _⟩ := two_cells R5.out
  have HR7 := R7
  go_wp2_with fail
  refine (refYes2 ao n cap L F c v m V1 DR.out HT.out.1 HT.out.2 HF.out).mono ?_
  rintro e w2 ⟨ao1, n1, cap1, d1, rfl, hst, hdc, hb2, hfr⟩
  have hdd : d1 = d := hst.1.same ST.out.1
  have HA1 : Hid (∀ b, ao1 = some ⟨b, 0, none⟩ → B + 1 + 1 + 1 + 1 < b) := Lib.hid (fun b hb => by have := (Array.getElem?_eq_some_iff.1 HR7.out).1; have := hfr b hb; omega)
  rw [hdd] at hdc
  replace DR := Lib.hid hdc
  replace HB := Lib.hid (HB.out.trans (hb2.mono HB.out.size))
  replace R3 := Lib.hid (row_keep hb2 R3.out)
  replace R4 := Lib.hid (row_keep hb2 R4.out)
  replace R5 := Lib.hid (row_keep hb2 R5.out)
  replace R6 := Lib.hid (row_keep hb2 R6.out)
  replace R7 := Lib.hid (row_keep hb2 R7.out)
  replace R9 := Lib.hid (row_keep hb2 R9.out)
  replace D1 := Lib.hid (D1.out.keep hb2)
  clear hb2 a0 a1 a2 b0 b1 hst hdc hfr hdd ST
  go_upto_region 3 with fail
  clear W7
  have W7 := R7.out
  have K := box_below w2 (.cells #[.int .i64 (L : Int), .int .i64 F, .slice ao1 n1 cap1] 34)
  have R11 := Lib.hid (cells_new w2 #[.int .i64 (L : Int), .int .i64 F, .slice ao1 n1 cap1] 34)
  replace HB := Lib.hid (HB.out.trans (K.mono HB.out.size))
  replace R3 := Lib.hid (row_keep K R3.out)
  replace R4 := Lib.hid (row_keep K R4.out)
  replace R5 := Lib.hid (row_keep K R5.out)
  replace R6 := Lib.hid (row_keep K R6.out)
  replace R7 := Lib.hid (row_keep K R7.out)
  replace R9 := Lib.hid (row_keep K R9.out)
  replace D1 := Lib.hid (D1.out.keep K)
  replace DR := Lib.hid (DR.out.keep K)
  clear K
  generalize w2.alloc (.cells #[.int .i64 (L : Int), .int .i64 F, .slice ao1 n1 cap1] 34) = V2 at HB R3 R4 R5 R6 R7 R9 D1 DR R11 ⊢
  have hl7 : B + 1 + 1 + 1 + 1 < w2.heap.size := (Array.getElem?_eq_some_iff.1 W7).1
  generalize w2.heap.size = B11 at R11 hl7 ⊢
  have HB11 := Lib.hid hl7
  clear hl7
  have SAME : Hid (∀ w', Below V2.heap.size V2 w' → Calls Try.prog 15 #[.agg #[.int .i64 (L : Int), .int .i64 F, .pointer (some ⟨T1, 0, none⟩)], .agg #[.int .i64 (L : Int), .int .i64 F, .slice ao1 n1 cap1]] w' (fun e w'' => e = .returned (.bool true) ∧ Below w'.heap.size w' w'')) := Lib.hid (fun w' hb => same_eq T1 L F d ao1 n1 cap1 w' (D1.out.keep hb) (DR.out.keep hb))
  obtain ⟨a0, a1, a2, _, _, _⟩ := three_cells R9.out
  obtain ⟨a3, a4, a5, _, _, _⟩ := three_cells R11.out
  go_wp2_with fail
  have ne0 : B9 ≠ B + 1 + 1 + 1 := by have := HB9.out; omega
  have pe0 : B9 ≠ B + 1 + 1 + 1 + 1 := by have := HB9.out; omega
  have ne1 : B9 ≠ B + 1 + 1 + 1 := by have := HB9.out; omega
  have pe1 : B9 ≠ B + 1 + 1 + 1 + 1 := by have := HB9.out; omega
  have ne2 : B9 ≠ B + 1 + 1 + 1 := by have := HB9.out; omega
  have pe2 : B9 ≠ B + 1 + 1 + 1 + 1 := by have := HB9.out; omega
  have ne3 : B11 ≠ B + 1 + 1 + 1 := by have := HB11.out; omega
  have pe3 : B11 ≠ B + 1 + 1 + 1 + 1 := by have := HB11.out; omega
  have ne4 : B11 ≠ B + 1 + 1 + 1 := by have := HB11.out; omega
  have pe4 : B11 ≠ B + 1 + 1 + 1 + 1 := by have := HB11.out; omega
  have ne5 : B11 ≠ B + 1 + 1 + 1 := by have := HB11.out; omega
  have pe5 : B11 ≠ B + 1 + 1 + 1 + 1 := by have := HB11.out; omega
  go_region_held3 (fun w' => w'.cell? ⟨B9, 0, none⟩ = some (.int .i64 (L : Int)) ∧ w'.cell? ⟨B9, 1, none⟩ = some (.int .i64 F) ∧ w'.cell? ⟨B9, 2, none⟩ = some (.pointer (some ⟨T1, 0, none⟩)) ∧ w'.cell? ⟨B11, 0, none⟩ = some (.int .i64 (L : Int)) ∧ w'.cell? ⟨B11, 1, none⟩ = some (.int .i64 F) ∧ w'.cell? ⟨B11, 2, none⟩ = some (.slice ao1 n1 cap1)) (first | with_reducible exact ⟨keep_set3 v0 ne0, keep_set3 v1 ne1, keep_set3 v2 ne2, keep_set3 v3 ne3, keep_set3 v4 ne4, keep_set3 v5 ne5⟩ | with_reducible exact ⟨keep_set3 (keep_set3 v0 ne0) pe0, keep_set3 (keep_set3 v1 ne1) pe1, keep_set3 (keep_set3 v2 ne2) pe2, keep_set3 (keep_set3 v3 ne3) pe3, keep_set3 (keep_set3 v4 ne4) pe4, keep_set3 (keep_set3 v5 ne5) pe5⟩ | with_reducible exact ⟨keep_set3 v0 pe0, keep_set3 v1 pe1, keep_set3 v2 pe2, keep_set3 v3 pe3, keep_set3 v4 pe4, keep_set3 v5 pe5⟩ | with_reducible exact ⟨keep_set3 (keep_set3 v0 pe0) ne0, keep_set3 (keep_set3 v1 pe1) ne1, keep_set3 (keep_set3 v2 pe2) ne2, keep_set3 (keep_set3 v3 pe3) ne3, keep_set3 (keep_set3 v4 pe4) ne4, keep_set3 (keep_set3 v5 pe5) ne5⟩ | go_keep)
    (first | (go_at_call 15; refine (SAME.out _ (below_drewN (Below.refl _ _) 1)).mono ?_; rintro e w4 ⟨rfl, hb4⟩; have B4 := Lib.hid (below_then (below_drewN (Below.refl V2.heap.size V2) 1) hb4); have v0 := cell_later B4.out a0; have v1 := cell_later B4.out a1; have v2 := cell_later B4.out a2; have v3 := cell_later B4.out a3; have v4 := cell_later B4.out a4; have v5 := cell_later B4.out a5; have Z6 := Lib.hid (row_keep B4.out R6.out); have Z7 := Lib.hid (row_keep B4.out R7.out); have y0 := (three_cells Z6.out).1; have y1 := (three_cells Z6.out).2.1; have y2 := (three_cells Z6.out).2.2.1; have y3 := (three_cells Z6.out).2.2.2.1; have y4 := (three_cells Z6.out).2.2.2.2.1; have y5 := (three_cells Z6.out).2.2.2.2.2; have z0 := (three_cells Z7.out).1; have z1 := (three_cells Z7.out).2.1; have z2 := (three_cells Z7.out).2.2.1; have z3 := (three_cells Z7.out).2.2.2.1; have z4 := (three_cells Z7.out).2.2.2.2.1; have z5 := (three_cells Z7.out).2.2.2.2.2; clear hb4))
  have HW4 := HB.out.trans (B4.out.mono HB.out.size)
  have HD := Lib.hid (both_done (B6 := B + 1 + 1 + 1) (B7 := B + 1 + 1 + 1 + 1) (cap := cap1) HW4 (by have := HBW.out; omega) (by have := HBW.out; omega) (by omega) Z6.out Z7.out (D1.out.keep B4.out) (⟨by have := HT1.out; omega, by have := HT1.out; omega⟩) (DR.out.keep B4.out) (fun b hb => by have := HA1.out b hb; omega) rfl)
  clear HW4 y0 y1 y2 y3 y4 y5 z0 z1 z2 z3 z4 z5
  go_wp2
  refine bodyPost_ret (v := .tuple #[.agg #[.int .i64 (L : Int), .int .i64 F, .pointer (some ⟨T1, 0, none⟩)], .agg #[.int .i64 (L : Int), .int .i64 F, .slice ao1 n1 cap1], .bool true]) (results_cell2_tmp Try.results16 _ _ (B + 1 + 1 + 1) (B + 1 + 1 + 1 + 1) 28 34 _ _ (0, 0) (0, 0) _ _ rfl HD.out.1 rfl HD.out.2.1 Try.underlying28 (by kernel_rfl) (by kernel_rfl) Try.underlying34 (by kernel_rfl) (by kernel_rfl)) rfl ?_
  exact ⟨T1, d, ao1, n1, cap1, rfl, HD.out.2.2.1, HD.out.2.2.2.1, HD.out.2.2.2.2, .inr (by have := HT1.out; have := HBW.out; omega), .inr (fun b hb => by have := HA1.out b hb; have := HBW.out; omega)⟩

theorem lawAdd (tb L : Nat) (F : Int) (c : Int → Int) (ao : Option Addr) (n cap : Nat) (v m : Int) (W : World) (hd : DigM W tb L F c) (hr : DocM W ao n L c) :
    Calls Try.prog 16 #[.agg #[.int .i64 (L : Int), .int .i64 F, .pointer (some ⟨tb, 0, none⟩)], .agg #[.int .i64 (L : Int), .int .i64 F, .slice ao n cap], .agg #[.int .i64 v, .int .i64 m]] W (BothPost L F tb ao W) := by
  by_cases hf : Fits L c v m
  · exact lawAdd_yes tb L F c ao n cap v m W hd hr hf
  · exact lawAdd_no tb L F c ao n cap v m W hd hr hf
end Go.Proofs.Ythjmiimkplhffaa

/- The law's made. (By gen_made.py.) -/
set_option linter.unusedVariables false
set_option linter.unusedSimpArgs false
namespace Go.Proofs.Ythjmiimkplhffaa
open Go.RowKit Go.Maps

/-- two cells that hold both digests -/
structure MI (wr : World) (X : Nat → Prop) (B9 B11 tb L n cap : Nat) (F : Int) (ao : Option Addr) (c : Int → Int) : Prop where
  d : wr.heap[B9]? = some (.cells #[.int .i64 (L : Int), .int .i64 F, .pointer (some ⟨tb, 0, none⟩)] 28 (0, 0))
  r : wr.heap[B11]? = some (.cells #[.int .i64 (L : Int), .int .i64 F, .slice ao n cap] 34 (0, 0))
  dig : DigM wr tb L F c
  doc : DocM wr ao n L c
  x9 : X B9
  x11 : X B11
  ne : B9 ≠ B11
  tb : ¬ X tb
  ao : ∀ b, ao = some ⟨b, 0, none⟩ → ¬ X b
  lim : ∀ i, X i → i < wr.heap.size ∧ ∃ cs t f, wr.heap[i]? = some (.cells cs t f)
theorem MI.keep {w w' : World} {X : Nat → Prop} {B9 B11 tb L n cap : Nat} {F : Int} {ao : Option Addr} {c : Int → Int} (h : MI w X B9 B11 tb L n cap F ao c) (hb : Below w.heap.size w w') : MI w' X B9 B11 tb L n cap F ao c :=
  ⟨row_keep hb h.d, row_keep hb h.r, h.dig.keep hb, h.doc.keep hb, h.x9, h.x11, h.ne, h.tb, h.ao, fun i hi => ⟨Nat.lt_of_lt_of_le (h.lim i hi).1 hb.size, by obtain ⟨cs, t, f, k⟩ := (h.lim i hi).2; exact ⟨cs, t, f, row_keep hb k⟩⟩⟩
/-- both cells are written -/
theorem MI.put {w w4 w' : World} {X : Nat → Prop} {B9 B11 tb L n cap tb' n' cap' : Nat} {F : Int} {ao ao' : Option Addr} {c c' : Int → Int} (h : MI w X B9 B11 tb L n cap F ao c) (hb : Below w.heap.size w w4) (hd : DigM w4 tb' L F c') (hr : DocM w4 ao' n' L c') (h1 : tb' = tb ∨ w.heap.size ≤ tb') (h2 : Src w ao ao')
    (hw : w' = (((((w4.setCell ⟨B9, 0, none⟩ (.int .i64 (L : Int))).setCell ⟨B9, 1, none⟩ (.int .i64 F)).setCell ⟨B9, 2, none⟩ (.pointer (some ⟨tb', 0, none⟩))).setCell ⟨B11, 0, none⟩ (.int .i64 (L : Int))).setCell ⟨B11, 1, none⟩ (.int .i64 F)).setCell ⟨B11, 2, none⟩ (.slice ao' n' cap')) :
    MI w' X B9 B11 tb' L n' cap' F ao' c' ∧ Only (fun i => i = B9 ∨ i = B11) w w' := by
  have k := h.keep hb
  have t1 : ¬ X tb' := fun g => by
    rcases h1 with e | e
    · rw [e] at g; exact h.tb g
    · have := (h.lim _ g).1; omega
  have t2 : ∀ b, ao' = some ⟨b, 0, none⟩ → ¬ X b := fun b e g => by
    rcases h2 with q | q
    · exact h.ao b (q ▸ e) g
    · have := (h.lim _ g).1; have := q b e; omega
  have o6 := (set3_only w4 B9 (.int .i64 (L : Int)) (.int .i64 F) (.pointer (some ⟨tb', 0, none⟩))).mono (R := X) (fun i hi => by rw [hi]; exact h.x9)
  have b6 := set3_only w4 B9 (.int .i64 (L : Int)) (.int .i64 F) (.pointer (some ⟨tb', 0, none⟩))
  have s6 := set_three (x := .int .i64 (L : Int)) (y := .int .i64 F) (z := .pointer (some ⟨tb', 0, none⟩)) k.d
  have l11 := (Array.getElem?_eq_some_iff.1 k.r).1
  have l9 := (Array.getElem?_eq_some_iff.1 k.d).1
  have k11 := (b6.block B11 l11 (fun e => h.ne e.symm)).trans k.r
  have lim6 : ∀ i, X i → ∃ cs t f, (((w4.setCell ⟨B9, 0, none⟩ (.int .i64 (L : Int))).setCell ⟨B9, 1, none⟩ (.int .i64 F)).setCell ⟨B9, 2, none⟩ (.pointer (some ⟨tb', 0, none⟩))).heap[i]? = some (.cells cs t f) := fun i hi => by
    by_cases e : i = B9
    · rw [e]; exact ⟨_, _, _, s6⟩
    · obtain ⟨cs, t, f, q⟩ := (k.lim i hi).2
      exact ⟨cs, t, f, (b6.block i (k.lim i hi).1 e).trans q⟩
  have D6 := hd.only o6 t1 (fun i hi _ => (k.lim i hi).2)
  have R6 := hr.only o6 t2
  subst hw
  have z6 := o6.size
  generalize ((w4.setCell ⟨B9, 0, none⟩ (.int .i64 (L : Int))).setCell ⟨B9, 1, none⟩ (.int .i64 F)).setCell ⟨B9, 2, none⟩ (.pointer (some ⟨tb', 0, none⟩)) = w1 at *
  have b7 := set3_only w1 B11 (.int .i64 (L : Int)) (.int .i64 F) (.slice ao' n' cap')
  have o7 := b7.mono (R := X) (fun i hi => by rw [hi]; exact h.x11)
  refine ⟨⟨(b7.block B9 (by omega) h.ne).trans s6, set_three k11, D6.only o7 t1 (fun i hi _ => lim6 i hi), R6.only o7 t2, h.x9, h.x11, h.ne, t1, t2, fun i hi => ⟨by have := o7.size; have := (k.lim i hi).1; omega, ?_⟩⟩, ((Only.of_below hb).trans (b6.mono (fun i hi => .inl hi))).trans (b7.mono (fun i hi => .inr hi))⟩
  by_cases e : i = B11
  · rw [e]; exact ⟨_, _, _, set_three k11⟩
  · obtain ⟨cs, t, f, q⟩ := lim6 i hi
    exact ⟨cs, t, f, (b7.block i (by have := (k.lim i hi).1; omega) e).trans q⟩
theorem both_drew {W w' : World} {B6 B7 tb L n : Nat} {F : Int} {ao : Option Addr} {d : Int → Int} {cs1 cs2 : Array Value} {t1 t2 : TypeId}
    (h : w'.heap[B6]? = some (.cells cs1 t1 (0, 0)) ∧ w'.heap[B7]? = some (.cells cs2 t2 (0, 0)) ∧ DigM w' tb L F d ∧ DocM w' ao n L d ∧ Below W.heap.size W w') :
    w'.drew.heap[B6]? = some (.cells cs1 t1 (0, 0)) ∧ w'.drew.heap[B7]? = some (.cells cs2 t2 (0, 0)) ∧ DigM w'.drew tb L F d ∧ DocM w'.drew ao n L d ∧ Below W.heap.size W w'.drew :=
  ⟨h.1, h.2.1, h.2.2.1.keep (Below.refl _ _).drew, h.2.2.2.1.keep (Below.refl _ _).drew, h.2.2.2.2.drew⟩
def MadePost (L : Nat) (F : Int) (W : World) (e : Ending) (w' : World) : Prop := ∃ tb d ao1 n cap, e = .returned (.tuple #[.agg #[.int .i64 (L : Int), .int .i64 F, .pointer (some ⟨tb, 0, none⟩)], .agg #[.int .i64 (L : Int), .int .i64 F, .slice ao1 n cap], .bool true]) ∧ DigM w' tb L F d ∧ DocM w' ao1 n L d ∧ Below W.heap.size W w'

set_option maxRecDepth 100000 in
set_option maxHeartbeats 8000000 in
theorem made_any (L : Nat) (F : Int) (ao : Option Addr) (la ca : Nat) (xs : List (Int × Int)) (W : World) (hR : Right L F) (hs : Al W ao la xs) (hla : la ≤ 1000) :
    Calls Try.prog 18 #[.int .i64 (L : Int), .int .i64 F, .slice ao la ca] W (MadePost L F W) := by
  obtain ⟨t1, t2, t3, t4⟩ := two_blocks W (.cells #[.int .i64 0, .int .i64 0, .pointer none] 28) (.cells #[.int .i64 0, .int .i64 0, .slice none 0 0] 34)
  have HB := Lib.hid t1
  have R6 := Lib.hid t2
  have R7 := Lib.hid t3
  have HS := Lib.hid hs
  have hL0 : (1 : Int) ≤ (L : Int) := hR.1
  have HRR := Lib.hid hR
  clear t1 t2 t3 t4 hs hR
  go_enter Try.func18, Try.ntmps18
  go_upto_region 1 with fail
  generalize (W.alloc (.cells #[.int .i64 0, .int .i64 0, .pointer none] 28)).alloc (.cells #[.int .i64 0, .int .i64 0, .slice none 0 0] 34) = V at HB R6 R7 ⊢
  generalize hBW : W.heap.size = B at R6 R7 ⊢
  have HBW := Lib.hid hBW
  clear hBW
  go_wp2_with fail
  refine (newYes L F V HRR.out).mono ?_
  rintro e w1 ⟨tb, rfl, hdm, hb1⟩
  have HB1 := Lib.hid hb1
  have D1 := Lib.hid hdm
  clear hb1 hdm
  go_upto_region 2 with fail
  have HB2 := Lib.hid (below_then HB1.out (box_below w1 (.cells #[.int .i64 (L : Int), .int .i64 F, .pointer (some ⟨tb, 0, none⟩)] 28)))
  have R9 := Lib.hid (cells_new w1 #[.int .i64 (L : Int), .int .i64 F, .pointer (some ⟨tb, 0, none⟩)] 28)
  have D2 := Lib.hid (D1.out.keep (box_below w1 (.cells #[.int .i64 (L : Int), .int .i64 F, .pointer (some ⟨tb, 0, none⟩)] 28)))
  have HL9 : Hid (V.heap.size ≤ w1.heap.size ∧ tb < w1.heap.size) := Lib.hid ⟨HB1.out.size, by obtain ⟨mb, _, _, h3, _⟩ := D1.out; exact h3⟩
  generalize w1.alloc (.cells #[.int .i64 (L : Int), .int .i64 F, .pointer (some ⟨tb, 0, none⟩)] 28) = V1 at HB2 R9 D2 ⊢
  generalize w1.heap.size = B9 at R9 HL9 ⊢
  clear HB1 D1
  go_wp2_with fail
  refine (refNew L F V1).mono ?_
  rintro e w2 (⟨_, rfl, hb2⟩ | ⟨hno, _⟩)
  case inr => exact absurd HRR.out hno
  have HB3 := Lib.hid (below_then HB2.out hb2)
  have R9b := Lib.hid (row_keep hb2 R9.out)
  have D3 := Lib.hid (D2.out.keep hb2)
  clear hb2 HB2 R9 D2
  go_upto_region 3 with fail
  have HB4 := Lib.hid (below_then HB3.out (box_below w2 (.cells #[.int .i64 (L : Int), .int .i64 F, .slice none 0 0] 34)))
  have R11 := Lib.hid (cells_new w2 #[.int .i64 (L : Int), .int .i64 F, .slice none 0 0] 34)
  have R9c := Lib.hid (row_keep (box_below w2 (.cells #[.int .i64 (L : Int), .int .i64 F, .slice none 0 0] 34)) R9b.out)
  have D4 := Lib.hid (D3.out.keep (box_below w2 (.cells #[.int .i64 (L : Int), .int .i64 F, .slice none 0 0] 34)))
  have HL11 : Hid (B9 < w2.heap.size) := Lib.hid (Array.getElem?_eq_some_iff.1 R9b.out).1
  have DC := Lib.hid (doc_zero (w2.alloc (.cells #[.int .i64 (L : Int), .int .i64 F, .slice none 0 0] 34)) L (by omega) (by have := HRR.out.2.1; omega))
  generalize w2.alloc (.cells #[.int .i64 (L : Int), .int .i64 F, .slice none 0 0] 34) = V2 at HB4 R9c D4 R11 DC ⊢
  generalize w2.heap.size = B11 at R11 HL11 ⊢
  have HM0 : Hid (MI V2 (fun i => (i = B9 ∨ i = B11) ∨ (i = B ∨ i = B + 1)) B9 B11 tb L 0 0 F none (fun _ => 0)) := Lib.hid ⟨R9c.out, R11.out, D4.out, DC.out, .inl (.inl rfl), .inl (.inr rfl), by have := HL11.out; omega, (fun g => by
    have h9 := HL9.out
    have h11 := HL11.out
    have k6 := row_keep HB4.out R6.out
    have k7 := row_keep HB4.out R7.out
    obtain ⟨mb, hT, _⟩ := D4.out
    have hc := hT.c0
    rcases g with (g | g) | (g | g)
    · omega
    · omega
    · rw [g, (three_cells k6).1] at hc; cases hc
    · rw [g, (three_cells k7).1] at hc; cases hc), fun b e => by simp at e, fun i hi => by
    rcases hi with (e | e) | (e | e)
    · subst e; exact ⟨(Array.getElem?_eq_some_iff.1 R9c.out).1, _, _, _, R9c.out⟩
    · subst e; exact ⟨(Array.getElem?_eq_some_iff.1 R11.out).1, _, _, _, R11.out⟩
    · subst e; exact ⟨(Array.getElem?_eq_some_iff.1 (row_keep HB4.out R6.out)).1, _, _, _, row_keep HB4.out R6.out⟩
    · subst e; exact ⟨(Array.getElem?_eq_some_iff.1 (row_keep HB4.out R7.out)).1, _, _, _, row_keep HB4.out R7.out⟩⟩
  have HLB : Hid (V.heap.size ≤ B9 ∧ V.heap.size ≤ B11) := Lib.hid (by have := HL9.out; have := HL11.out; omega)
  clear HB3 R9b D3 R9c D4 R11 DC HL9 HL11
  go_wp2_with fail
  go_loopg [13, 14] (la + 1) (fun g t13 t14 wr => t13 = .bool true ∧ ∃ (i tb : Nat) (c : Int → Int) (ao1 : Option Addr) (n cap : Nat), t14 = .int .i64 (i : Int) ∧ i ≤ la ∧ i + g = la + 1 ∧ Hid (MI wr (fun i => (i = B9 ∨ i = B11) ∨ (i = B ∨ i = B + 1)) B9 B11 tb L n cap F ao1 c) ∧ Hid (Only (fun i => i = B9 ∨ i = B11) V2 wr))
  case atStart => exact ⟨rfl, 0, tb, fun _ => 0, none, 0, 0, rfl, by omega, by omega, HM0, Lib.hid (Only.refl _ _)⟩
  case round =>
    clear HM0
    obtain ⟨rfl, i, tb, c, ao1, n, cap, rfl, hi, hg, HM, HO⟩ := hrel
    obtain ⟨a0, a1, a2, f0, f1, f2⟩ := three_cells HM.out.d
    obtain ⟨b0, b1, b2, g0, g1, g2⟩ := three_cells HM.out.r
    by_cases hlt : i < la
    · have hlt2 : (i : Int) < (la : Int) := by omega
      obtain ⟨bb, off, rfl, q0, q1⟩ := HS.out.at hlt
      have hbb : bb < W.heap.size := block_lt_of_cell q0
      have hbz := HB.out.size
      have p0 := HO.out.cell (cell_later HB4.out (cell_later HB.out q0)) (by have := HLB.out; show ¬ (bb = B9 ∨ bb = B11); omega)
      have p1 := HO.out.cell (cell_later HB4.out (cell_later HB.out q1)) (by have := HLB.out; show ¬ (bb = B9 ∨ bb = B11); omega)
      have p1 : wr.cell? ⟨bb, off + i * 2 + 1, none⟩ = _ := p1
      generalize (xs[i]?.getD (0, 0)).1 = z1 at p0
      generalize (xs[i]?.getD (0, 0)).2 = z2 at p1
      clear q0 q1 hbb hbz
      go_upto_region 7 with fail
      have LADD : Hid (∀ w', Below wr.heap.size wr w' → Calls Try.prog 16 #[.agg #[.int .i64 (L : Int), .int .i64 F, .pointer (some ⟨tb, 0, none⟩)], .agg #[.int .i64 (L : Int), .int .i64 F, .slice ao1 n cap], .agg #[.int .i64 z1, .int .i64 z2]] w' (BothPost L F tb ao1 w')) := Lib.hid (fun w' hb => lawAdd tb L F c ao1 n cap z1 z2 w' (HM.out.dig.keep hb) (HM.out.doc.keep hb))
      have hne1 : ¬ B9 = B11 := HM.out.ne
      have hne2 : ¬ B11 = B9 := fun e => hne1 e.symm
      go_region_law ((first | ((try go_simp); go_at_call 16; refine (LADD.out _ (below_drewN (Below.refl wr.heap.size wr) 1)).mono ?_; rintro e w4 ⟨tb4, d4, ao4, n4, cap4, he, hd4, hr4, hb4, ho4, hs4⟩; subst he; have B4 := Lib.hid (below_then (below_drewN (Below.refl wr.heap.size wr) 1) hb4); have D4 := Lib.hid hd4; have R4 := Lib.hid hr4; have O4 := Lib.hid ho4; have S4 := Lib.hid hs4; have y9 := three_cells (row_keep B4.out HM.out.d); have y0 := y9.1; have y1 := y9.2.1; have y2 := y9.2.2.1; have y3 := y9.2.2.2.1; have y4 := y9.2.2.2.2.1; have y5 := y9.2.2.2.2.2; have z9 := three_cells (row_keep B4.out HM.out.r); have x0 := z9.1; have x1 := z9.2.1; have x2 := z9.2.2.1; have x3 := z9.2.2.2.1; have x4 := z9.2.2.2.2.1; have x5 := z9.2.2.2.2.2; clear y9 z9 hd4 hr4 hb4 ho4 hs4)))
      all_goals
        have HPUT := Lib.hid (HM.out.put (cap' := cap4) B4.out D4.out R4.out O4.out S4.out rfl)
        clear y0 y1 y2 y3 y4 y5 x0 x1 x2 x3 x4 x5 a0 a1 a2 f0 f1 f2 b0 b1 b2 g0 g1 g2 p0 p1 LADD
        go_wp2_with fail
        go_roundg (gk - 1)
        case measure => omega
        case rel => exact ⟨rfl, i + 1, tb4, d4, ao4, n4, cap4, by go_num, by omega, by omega, Lib.hid HPUT.out.1, Lib.hid (HO.out.trans HPUT.out.2)⟩
    · obtain rfl : i = la := by omega
      have K6 := Lib.hid ((HO.out.block B (by have := HB4.out.size; have := (Array.getElem?_eq_some_iff.1 R6.out).1; omega) (by have := HLB.out; have := (Array.getElem?_eq_some_iff.1 R6.out).1; show ¬ (B = B9 ∨ B = B11); omega)).trans (row_keep HB4.out R6.out))
      have K7 := Lib.hid ((HO.out.block (B + 1) (by have := HB4.out.size; have := (Array.getElem?_eq_some_iff.1 R7.out).1; omega) (by have := HLB.out; have := (Array.getElem?_eq_some_iff.1 R7.out).1; show ¬ (B + 1 = B9 ∨ B + 1 = B11); omega)).trans (row_keep HB4.out R7.out))
      obtain ⟨x0, x1, x2, x3, x4, x5⟩ := three_cells K6.out
      obtain ⟨y0, y1, y2, y3, y4, y5⟩ := three_cells K7.out
      have hlt6 : B + 1 < V.heap.size := (Array.getElem?_eq_some_iff.1 R7.out).1
      have hlb := HLB.out
      have n1 : ¬ B = B9 := by omega
      have n2 : ¬ B = B11 := by omega
      have n3 : ¬ B + 1 = B9 := by omega
      have n4 : ¬ B + 1 = B11 := by omega
      have HWR : Hid (Below W.heap.size W wr) := Lib.hid (by
        have e1 := HB.out.trans (HB4.out.mono HB.out.size)
        have e2 : Only (fun i => W.heap.size ≤ i) W V2 := ⟨e1.os, e1.tape, e1.output, e1.size, fun i hi _ => e1.block i hi⟩
        have e3 := e2.trans (HO.out.mono (R := fun i => W.heap.size ≤ i) (fun i hi => by show W.heap.size ≤ i; have := HBW.out; omega))
        exact e3.below (fun i hi => hi))
      clear hlb hlt6
      go_wp2_with fail
      go_region
      all_goals
        have HD := Lib.hid (both_drew (both_done (B6 := B) (B7 := B + 1) (cap := cap) HWR.out (by have := HBW.out; omega) (by have := HBW.out; omega) (by omega) K6.out K7.out HM.out.dig ⟨fun e => HM.out.tb (.inr (.inl e)), fun e => HM.out.tb (.inr (.inr e))⟩ HM.out.doc (fun b hb => ⟨fun e => HM.out.ao b hb (.inr (.inl e)), fun e => HM.out.ao b hb (.inr (.inr e))⟩) rfl))
        clear x0 x1 x2 x3 x4 x5 y0 y1 y2 y3 y4 y5 a0 a1 a2 f0 f1 f2 b0 b1 b2 g0 g1 g2
        go_wp2
        refine bodyPost_ret (v := .tuple #[.agg #[.int .i64 (L : Int), .int .i64 F, .pointer (some ⟨tb, 0, none⟩)], .agg #[.int .i64 (L : Int), .int .i64 F, .slice ao1 n cap], .bool true]) (results_cell2_tmp Try.results18 _ _ B (B + 1) 28 34 _ _ (0, 0) (0, 0) _ _ rfl HD.out.1 rfl HD.out.2.1 Try.underlying28 (by kernel_rfl) (by kernel_rfl) Try.underlying34 (by kernel_rfl) (by kernel_rfl)) rfl ?_
        exact ⟨tb, c, ao1, n, cap, rfl, HD.out.2.2.1, HD.out.2.2.2.1, HD.out.2.2.2.2⟩
end Go.Proofs.Ythjmiimkplhffaa

/- Two own slices of digests, the program's and the document's, that are appended to in one region that draws its order. No function is walked here. -/
set_option linter.unusedVariables false
set_option linter.unusedSimpArgs false
namespace Go.Proofs.Ythjmiimkplhffaa
open Go.RowKit Go.Maps

theorem infoD3 : (Try.prog.info? 28).map (fun i => (i.zero, i.size, i.bytes)) = some (some (.agg #[.int .i64 0, .int .i64 0, .pointer none]), 3, 24) := by kernel_rfl
theorem infoR3 : (Try.prog.info? 34).map (fun i => (i.zero, i.size, i.bytes)) = some (some (.agg #[.int .i64 0, .int .i64 0, .slice none 0 0]), 3, 40) := by kernel_rfl

/-- two own slices of triples of cells that do not share a block, and what has been written since W0 -/
structure PairD (W0 : World) (u0 v0 : Value) (base : Nat) (w : World) (tu tv : TypeId) (u : Value) (n : Nat) (us : List Value) (v : Value) (m : Nat) (vs : List Value) : Prop where
  one : w.ownsRow base tu 3 u n us
  two : w.ownsRow base tv 3 v m vs
  ne : ∀ b, u.ownBlock = some b → v.ownBlock ≠ some b
  fr : Only (fun k => u0.ownBlock = some k ∨ v0.ownBlock = some k) W0 w
  nu : u.ownBlock = u0.ownBlock ∨ ∀ k, u.ownBlock = some k → W0.heap.size ≤ k
  nv : v.ownBlock = v0.ownBlock ∨ ∀ k, v.ownBlock = some k → W0.heap.size ≤ k
  bs : base ≤ w.heap.size

section
variable {W0 w w' : World} {u0 v0 u v : Value} {base tu tv n m : Nat} {us vs : List Value}
theorem PairD.drew (h : PairD W0 u0 v0 base w tu tv u n us v m vs) : PairD W0 u0 v0 base w.drew tu tv u n us v m vs := ⟨h.one, h.two, h.ne, h.fr.trans (Only.of_below (Below.refl _ _).drew), h.nu, h.nv, h.bs⟩
theorem PairD.alloc (h : PairD W0 u0 v0 base w tu tv u n us v m vs) (o : Obj) : PairD W0 u0 v0 base (w.alloc o) tu tv u n us v m vs := ⟨h.one.alloc o, h.two.alloc o, h.ne, h.fr.trans (Only.of_below (box_below w o)), h.nu, h.nv, by have := h.bs; simp; omega⟩
theorem PairD.turn (h : PairD W0 u0 v0 base w tu tv u n us v m vs) : PairD W0 v0 u0 base w tv tu v m vs u n us := ⟨h.two, h.one, fun b hb hu => h.ne b hu hb, h.fr.mono (fun i hi => hi.elim .inr .inl), h.nv, h.nu, h.bs⟩
end

/-- a new block lies as it lay behind an append to the slice u -/
def Kept1 (u : Value) (w w' : World) : Prop := ∀ k o, w.heap[k]? = some o → u.ownBlock ≠ some k → w'.heap[k]? = some o

/-- 'append(s, x)' of one struct of three cells to the one slice, wherever the new block lies -/
theorem step_appD {P : Program} {w : World} {ops : Array Oper} {o : Oper} {a : Act} {K : Act → World → Prop} {Q : Exit → Act → World → Prop} {E : Prop} (hgd : o.guard = none) (s x : Operand) (t : TypeId)
    (ho : o.op = .call { callee := .builtin .append, args := #[s, x], argTypes := #[t, t] }) {tu : TypeId} {z : Value} {by8 : Nat}
    (h1 : P.underlying t = some (.slice tu)) (h2 : (P.info? tu).map (fun i => (i.zero, i.size, i.bytes)) = some (some z, 3, by8)) (hz : z.cells.size = 3) (h8 : by8 ≤ 100)
    {W0 : World} {u0 v0 u v : Value} {base tv n m : Nat} {us vs : List Value} (hs : a.eval s = u) (hp : PairD W0 u0 v0 base w tu tv u n us v m vs) {g : Nat} (hx : a.eval x = .slice (some ⟨g, 0, none⟩) 1 1) {x0 x1 x2 : Value} {tg : TypeId} (hc : w.heap[g]? = some (.cells #[x0, x1, x2] tg (0, 0))) (hone : x0.oneCell' = true ∧ x1.oneCell' = true ∧ x2.oneCell' = true) (hn : n ≤ 100000)
    (h : ∀ u' w', PairD W0 u0 v0 base w' tu tv u' (n + 1) (us ++ [x0, x1, x2]) v m vs → Kept1 u w w' → K (a.put o.dst u') w') :
    if Region.wanted o (yielded ops a.tmps) = true then Oper.wp P o a w K Q else E := by
  obtain ⟨i0, hi, hz0, hz1, hz2⟩ := info_parts h2
  have hcc := three_cells hc
  refine step_append_lies _ hgd s x t ho base tu i0 z 3 by8 h1 hi hz0 hz1 hz2 hz (by decide) u n _ hs hp.one ⟨g, 0, none⟩ 1 1 [x0, x1, x2] hx rfl ?_ ?_ (by omega) (by unfold maxLen; omega) (by
    have : (n + 1) * by8 ≤ 100001 * 100 := Nat.mul_le_mul (by omega) h8
    omega) hp.bs w.heap.size rfl ?_
  · intro j y hj
    match j, hj with
    | 0, hj => simp at hj; subst hj; simpa [Addr.add] using hcc.1
    | 1, hj => simp at hj; subst hj; simpa [Addr.add] using hcc.2.1
    | 2, hj => simp at hj; subst hj; simpa [Addr.add] using hcc.2.2.1
  · intro y hy
    simp at hy
    rcases hy with rfl | rfl | rfl
    · exact hone.1
    · exact hone.2.1
    · exact hone.2.2
  · intro g' cap w' hr hg hat hlt
    have hgo : Only (fun k => u.ownBlock = some k) w w' := Only.of_grown hg
    have hfs := hp.fr.size
    refine h _ w' ⟨hr, ?_, ?_, ?_, ?_, hp.nv, Nat.le_trans hp.bs hg.size⟩ ?_
    · refine World.ownsRow.kept hp.two hg ?_
      cases hv : v.ownBlock with
      | none => exact .inl rfl
      | some b => exact .inr (fun e => hp.ne b e.symm hv)
    · intro b hb hv
      simp [Value.ownBlock] at hb
      subst hb
      rcases hat with hu | rfl
      · exact hp.ne _ hu hv
      · have := (World.ownsRow.lt hp.two _ hv).2
        omega
    · refine hp.fr.andThen hgo (fun i hi => ?_)
      rcases hp.nu with e | e
      · exact .inl (.inl (by rw [← e]; exact hi))
      · exact .inr (e i hi)
    · rcases hat with hu | rfl
      · rcases hp.nu with e | e
        · exact .inl (by rw [← e, hu]; rfl)
        · exact .inr (fun k hk => by
            have hk2 : g' = k := by simpa [Value.ownBlock] using hk
            subst hk2; exact e _ hu)
      · exact .inr (fun k hk => by
          have hk2 : w.heap.size = k := by simpa [Value.ownBlock] using hk
          omega)
    · intro k o hk hne
      exact (hgo.block k (Array.getElem?_eq_some_iff.1 hk).1 hne).trans hk
theorem step_appD2 {P : Program} {w : World} {ops : Array Oper} {o : Oper} {a : Act} {K : Act → World → Prop} {Q : Exit → Act → World → Prop} {E : Prop} (hgd : o.guard = none) (s x : Operand) (t : TypeId)
    (ho : o.op = .call { callee := .builtin .append, args := #[s, x], argTypes := #[t, t] }) {tv : TypeId} {z : Value} {by8 : Nat}
    (h1 : P.underlying t = some (.slice tv)) (h2 : (P.info? tv).map (fun i => (i.zero, i.size, i.bytes)) = some (some z, 3, by8)) (hz : z.cells.size = 3) (h8 : by8 ≤ 100)
    {W0 : World} {u0 v0 u v : Value} {base tu n m : Nat} {us vs : List Value} (hs : a.eval s = v) (hp : PairD W0 u0 v0 base w tu tv u n us v m vs) {g : Nat} (hx : a.eval x = .slice (some ⟨g, 0, none⟩) 1 1) {x0 x1 x2 : Value} {tg : TypeId} (hc : w.heap[g]? = some (.cells #[x0, x1, x2] tg (0, 0))) (hone : x0.oneCell' = true ∧ x1.oneCell' = true ∧ x2.oneCell' = true) (hn : m ≤ 100000)
    (h : ∀ v' w', PairD W0 u0 v0 base w' tu tv u n us v' (m + 1) (vs ++ [x0, x1, x2]) → Kept1 v w w' → K (a.put o.dst v') w') :
    if Region.wanted o (yielded ops a.tmps) = true then Oper.wp P o a w K Q else E :=
  step_appD hgd s x t ho h1 h2 hz h8 hs hp.turn hx hc hone hn (fun v' w' hp' hk => h v' w' hp'.turn hk)

theorem blkA (w : World) (cs : Array Value) (t : TypeId) : (w.alloc (.cells cs t)).drew.heap[w.heap.size]? = some (.cells cs t (0, 0)) := cells_new w cs t
theorem blkB (w : World) (cs : Array Value) (t : TypeId) (o : Obj) : ((w.alloc (.cells cs t)).alloc o).drew.heap[w.heap.size]? = some (.cells cs t (0, 0)) := row_keep (box_below (w.alloc (.cells cs t)) o).drew (cells_new w cs t)
theorem blkC (w : World) (o : Obj) (cs : Array Value) (t : TypeId) : ((w.alloc o).alloc (.cells cs t)).drew.heap[w.heap.size + 1]? = some (.cells cs t (0, 0)) := by
  have := cells_new (w.alloc o) cs t
  rwa [World.size_alloc] at this
theorem blkD (w : World) (cs : Array Value) (t : TypeId) : (w.alloc (.cells cs t)).heap[w.heap.size]? = some (.cells cs t (0, 0)) := cells_new w cs t
theorem PairD.far1 {W0 w : World} {u0 v0 u v : Value} {base tu tv n m : Nat} {us vs : List Value} (h : PairD W0 u0 v0 base w tu tv u n us v m vs) (k : Nat) (hk : w.heap.size ≤ k) : u.ownBlock ≠ some k := fun e => by
  have := (World.ownsRow.lt h.one _ e).2
  omega
theorem PairD.far2 {W0 w : World} {u0 v0 u v : Value} {base tu tv n m : Nat} {us vs : List Value} (h : PairD W0 u0 v0 base w tu tv u n us v m vs) (k : Nat) (hk : w.heap.size ≤ k) : v.ownBlock ≠ some k := h.turn.far1 k hk

/-- the cells of the versions -/
def dcells (L : Nat) (F : Int) (ds : List Nat) : List Value := ds.flatMap (fun t => [.int .i64 (L : Int), .int .i64 F, .pointer (some ⟨t, 0, none⟩)])
def rcells (L : Nat) (F : Int) (rs : List (Option Addr × Nat × Nat)) : List Value := rs.flatMap (fun r => [.int .i64 (L : Int), .int .i64 F, .slice r.1 r.2.1 r.2.2])
theorem dcells_snoc (L : Nat) (F : Int) (ds : List Nat) (t : Nat) : dcells L F (ds ++ [t]) = dcells L F ds ++ [.int .i64 (L : Int), .int .i64 F, .pointer (some ⟨t, 0, none⟩)] := by simp [dcells]
theorem rcells_snoc (L : Nat) (F : Int) (rs : List (Option Addr × Nat × Nat)) (r : Option Addr × Nat × Nat) : rcells L F (rs ++ [r]) = rcells L F rs ++ [.int .i64 (L : Int), .int .i64 F, .slice r.1 r.2.1 r.2.2] := by simp [rcells]
theorem flat3_get {α : Type} (f : α → List Value) (d : α) (hf : ∀ x, (f x).length = 3) : ∀ (xs : List α) (i : Nat) (j : Nat), i < xs.length → j < 3 → (xs.flatMap f)[i * 3 + j]? = (f (xs[i]?.getD d))[j]?
  | [], i, j, h, _ => absurd h (by simp)
  | x :: xs, 0, j, _, hj => by
    rw [List.flatMap_cons, List.getElem?_append_left (by rw [hf]; omega)]
    simp
  | x :: xs, i + 1, j, h, hj => by
    have ih := flat3_get f d hf xs i j (by simpa using h) hj
    rw [List.flatMap_cons, List.getElem?_append_right (by rw [hf]; omega), hf, show (i + 1) * 3 + j - 3 = i * 3 + j by omega, ih]
    simp
end Go.Proofs.Ythjmiimkplhffaa

/- DigestCommutes, where the law asks for no more than awake. -/
set_option linter.unusedVariables false
set_option linter.unusedSimpArgs false
namespace Go.Proofs.Ythjmiimkplhffaa
open Go.RowKit Go.Maps

set_option maxRecDepth 100000 in
set_option maxHeartbeats 4000000 in
theorem comm_early (l f : Int) (ao bo : Option Addr) (la ca lb cb : Nat) (W : World) (h : 60 < la ∨ 60 < lb ∨ ¬ Right l f) (hla : la ≤ 9223372036854775807) (hlb : lb ≤ 9223372036854775807) :
    Calls Try.prog 10 #[.int .i64 l, .int .i64 f, .slice ao la ca, .slice bo lb cb] W (fun e w' => e = .returned (.bool true) ∧ Below W.heap.size W w') := by
  by_cases h1 : 60 < la
  · have h1 : (60 : Int) < (la : Int) := by omega
    clear h
    go_enter Try.func10, Try.ntmps10
    go_wp2_with (go_at_call 12; refine (awake_any _).mono ?_; rintro e w1 ⟨rfl, hb1⟩)
    go_ret
    exact ⟨rfl, hb1⟩
  · by_cases h2 : 60 < lb
    · have h1 : ¬ (60 : Int) < (la : Int) := by omega
      have h2 : (60 : Int) < (lb : Int) := by omega
      clear h
      go_enter Try.func10, Try.ntmps10
      go_wp2_with (go_at_call 12; refine (awake_any _).mono ?_; rintro e w1 ⟨rfl, hb1⟩)
      go_ret
      exact ⟨rfl, hb1⟩
    · have h3 : ¬ Right l f := by rcases h with h | h | h <;> first | exact h | omega
      have h1 : ¬ (60 : Int) < (la : Int) := by omega
      have h2 : ¬ (60 : Int) < (lb : Int) := by omega
      clear h
      go_enter Try.func10, Try.ntmps10
      go_wp2_with (first | (go_at_call 12; refine (awake_any _).mono ?_; rintro e w1 ⟨rfl, hb1⟩) | (go_at_call 17; refine (right_no l f _ h3).mono ?_; rintro e w0 ⟨rfl, hw0⟩; subst hw0))
      go_ret
      exact ⟨rfl, hb1⟩
end Go.Proofs.Ythjmiimkplhffaa

/- DigestPlays. (By gen_plays.py.) -/
set_option linter.unusedVariables false
set_option linter.unusedSimpArgs false
namespace Go.Proofs.Ythjmiimkplhffaa
open Go.RowKit Go.Maps

theorem blk_three {w : World} {g i : Nat} {xs : List Value} {base e n : Nat} {v : Value} {a b c : Value} (h : w.ownsRow base e 3 v n xs) (hg : v.ownBlock = some g) (h0 : xs[i * 3 + 0]? = some a) (h1 : xs[i * 3 + 1]? = some b) (h2 : xs[i * 3 + 2]? = some c) :
    w.cell? ⟨g, i * 3, none⟩ = some a ∧ w.cell? ⟨g, i * 3 + 1, none⟩ = some b ∧ w.cell? ⟨g, i * 3 + 2, none⟩ = some c := by
  rcases h.2 with ⟨rfl, _⟩ | ⟨gb, cap, cur, rfl, _⟩
  · simp [Value.ownBlock] at hg
  · obtain rfl : gb = g := by simpa [Value.ownBlock] using hg
    have hc := h.cells (g := gb) rfl
    have c0 := hc _ _ h0
    have c1 := hc _ _ h1
    have c2 := hc _ _ h2
    have a0 : ((⟨gb, 0, none⟩ : Addr).add (i * 3 + 0)) = ⟨gb, i * 3, none⟩ := by unfold Addr.add; split <;> simp_all
    have a1 : ((⟨gb, 0, none⟩ : Addr).add (i * 3 + 1)) = ⟨gb, i * 3 + 1, none⟩ := by unfold Addr.add; split <;> simp_all
    have a2 : ((⟨gb, 0, none⟩ : Addr).add (i * 3 + 2)) = ⟨gb, i * 3 + 2, none⟩ := by unfold Addr.add; split <;> simp_all
    rw [a0] at c0
    rw [a1] at c1
    rw [a2] at c2
    exact ⟨c0, c1, c2⟩

/-- all versions so far; X: the blocks that the law writes itself -/
structure VI (W wr : World) (X : Nat → Prop) (B7 B9 tb L n cap : Nat) (F : Int) (ao : Option Addr) (c : Int → Int) (u v : Value) (ds : List Nat) (rs : List (Option Addr × Nat × Nat)) (k : Nat) : Prop where
  mi : MI wr X B7 B9 tb L n cap F ao c
  ru : wr.ownsRow W.heap.size 28 3 u k (dcells L F ds)
  rv : wr.ownsRow W.heap.size 34 3 v k (rcells L F rs)
  ne : ∀ b, u.ownBlock = some b → v.ownBlock ≠ some b
  lu : ds.length = k
  lv : rs.length = k
  xu : ∀ b, u.ownBlock = some b → X b ∧ b ≠ B7 ∧ b ≠ B9
  xv : ∀ b, v.ownBlock = some b → X b ∧ b ≠ B7 ∧ b ≠ B9
  low : ∀ b, X b → W.heap.size ≤ b
  all : ∀ i, i < k → ∃ d, DigM wr (ds[i]?.getD 0) L F d ∧ DocM wr (rs[i]?.getD (none, 0, 0)).1 (rs[i]?.getD (none, 0, 0)).2.1 L d ∧ ¬ X (ds[i]?.getD 0) ∧ ∀ b, (rs[i]?.getD (none, 0, 0)).1 = some ⟨b, 0, none⟩ → ¬ X b
  b : Below W.heap.size W wr
theorem VI.keep {W w w' : World} {X : Nat → Prop} {B7 B9 tb L n cap k : Nat} {F : Int} {ao : Option Addr} {c : Int → Int} {u v : Value} {ds : List Nat} {rs : List (Option Addr × Nat × Nat)} (h : VI W w X B7 B9 tb L n cap F ao c u v ds rs k) (hb : Below w.heap.size w w') : VI W w' X B7 B9 tb L n cap F ao c u v ds rs k :=
  ⟨h.mi.keep hb, row_block h.ru (fun g hg => hb.block g (World.ownsRow.lt h.ru g hg).2), row_block h.rv (fun g hg => hb.block g (World.ownsRow.lt h.rv g hg).2), h.ne, h.lu, h.lv, h.xu, h.xv, h.low, fun i hi => by
    obtain ⟨d, k1, k2, k3⟩ := h.all i hi
    exact ⟨d, k1.keep hb, k2.keep hb, k3⟩, below_then h.b hb⟩
/-- behind a step of both digests -/
theorem VI.put {W w w4 w' : World} {X : Nat → Prop} {B7 B9 tb L n cap k tb' n' cap' : Nat} {F : Int} {ao ao' : Option Addr} {c c' : Int → Int} {u v : Value} {ds : List Nat} {rs : List (Option Addr × Nat × Nat)} (h : VI W w X B7 B9 tb L n cap F ao c u v ds rs k) (hb : Below w.heap.size w w4) (hd : DigM w4 tb' L F c') (hr : DocM w4 ao' n' L c') (h1 : tb' = tb ∨ w.heap.size ≤ tb') (h2 : Src w ao ao')
    (hw : w' = (((((w4.setCell ⟨B7, 0, none⟩ (.int .i64 (L : Int))).setCell ⟨B7, 1, none⟩ (.int .i64 F)).setCell ⟨B7, 2, none⟩ (.pointer (some ⟨tb', 0, none⟩))).setCell ⟨B9, 0, none⟩ (.int .i64 (L : Int))).setCell ⟨B9, 1, none⟩ (.int .i64 F)).setCell ⟨B9, 2, none⟩ (.slice ao' n' cap')) :
    VI W w' X B7 B9 tb' L n' cap' F ao' c' u v ds rs k := by
  obtain ⟨m1, m2⟩ := h.mi.put hb hd hr h1 h2 hw
  refine ⟨m1, row_block h.ru (fun g hg => m2.block g (World.ownsRow.lt h.ru g hg).2 (fun e => by have := (h.xu g hg).2; omega)), row_block h.rv (fun g hg => m2.block g (World.ownsRow.lt h.rv g hg).2 (fun e => by have := (h.xv g hg).2; omega)), h.ne, h.lu, h.lv, h.xu, h.xv, h.low, fun i hi => ?_, ?_⟩
  · obtain ⟨d, k1, k2, k3, k4⟩ := h.all i hi
    have m3 := m2.mono (R := X) (fun i (hi : i = B7 ∨ i = B9) => hi.elim (fun e => e ▸ h.mi.x9) (fun e => e ▸ h.mi.x11))
    exact ⟨d, k1.only m3 k3 (fun i hi _ => (h.mi.lim i hi).2), k2.only m3 k4, k3, k4⟩
  · have e2 : Only (fun i => W.heap.size ≤ i) W w := ⟨h.b.os, h.b.tape, h.b.output, h.b.size, fun i hi _ => h.b.block i hi⟩
    exact (e2.trans (m2.mono (R := fun i => W.heap.size ≤ i) (fun i (hi : i = B7 ∨ i = B9) => hi.elim (fun e => e ▸ h.low _ h.mi.x9) (fun e => e ▸ h.low _ h.mi.x11)))).below (fun i hi => hi)
theorem getD_last {α : Type} (l : List α) (x d : α) {i : Nat} (hi : i < l.length + 1) : (l ++ [x])[i]?.getD d = if i < l.length then l[i]?.getD d else x := by
  by_cases h : i < l.length
  · rw [if_pos h, List.getElem?_append_left h]
  · have e : i = l.length := by omega
    rw [if_neg h, e]; simp
theorem VI.more {W w w' : World} {X : Nat → Prop} {B7 B9 tb L n cap k : Nat} {F : Int} {ao : Option Addr} {c : Int → Int} {u v u' v' : Value} {ds : List Nat} {rs : List (Option Addr × Nat × Nat)} (h : VI W w X B7 B9 tb L n cap F ao c u v ds rs k)
    (hp : PairD w u v W.heap.size w' 28 34 u' (k + 1) (dcells L F ds ++ [.int .i64 (L : Int), .int .i64 F, .pointer (some ⟨tb, 0, none⟩)]) v' (k + 1) (rcells L F rs ++ [.int .i64 (L : Int), .int .i64 F, .slice ao n cap])) :
    VI W w' (fun b => (b = B7 ∨ b = B9) ∨ u'.ownBlock = some b ∨ v'.ownBlock = some b) B7 B9 tb L n cap F ao c u' v' (ds ++ [tb]) (rs ++ [(ao, n, cap)]) (k + 1) := by
  have oX : Only X w w' := hp.fr.mono (fun i (hi : u.ownBlock = some i ∨ v.ownBlock = some i) => hi.elim (fun e => (h.xu i e).1) (fun e => (h.xv i e).1))
  have nX : ∀ b, (u'.ownBlock = some b ∨ v'.ownBlock = some b) → X b ∨ w.heap.size ≤ b := fun b hb => by
    rcases hb with hb | hb
    · rcases hp.nu with e | e
      · exact .inl (h.xu b (e ▸ hb)).1
      · exact .inr (e b hb)
    · rcases hp.nv with e | e
      · exact .inl (h.xv b (e ▸ hb)).1
      · exact .inr (e b hb)
  have l7 := (Array.getElem?_eq_some_iff.1 h.mi.d).1
  have l9 := (Array.getElem?_eq_some_iff.1 h.mi.r).1
  have fr7 : ∀ b, (u'.ownBlock = some b ∨ v'.ownBlock = some b) → b ≠ B7 ∧ b ≠ B9 := fun b hb => by
    rcases hb with hb | hb
    · rcases hp.nu with e | e
      · exact (h.xu b (e ▸ hb)).2
      · have := e b hb; omega
    · rcases hp.nv with e | e
      · exact (h.xv b (e ▸ hb)).2
      · have := e b hb; omega
  have nP : ∀ b, ¬ (u.ownBlock = some b ∨ v.ownBlock = some b) → b < w.heap.size → w'.heap[b]? = w.heap[b]? := fun b hb hl => hp.fr.block b hl hb
  have not7 : ¬ (u.ownBlock = some B7 ∨ v.ownBlock = some B7) := fun e => by
    rcases e with e | e
    · exact (h.xu _ e).2.1 rfl
    · exact (h.xv _ e).2.1 rfl
  have not9 : ¬ (u.ownBlock = some B9 ∨ v.ownBlock = some B9) := fun e => by
    rcases e with e | e
    · exact (h.xu _ e).2.2 rfl
    · exact (h.xv _ e).2.2 rfl
  have tbl : ∀ t e, DigM w t L F e → t < w.heap.size := fun t e hd => by obtain ⟨mb, _, _, h3, _⟩ := hd; exact h3
  have nt : ∀ t e, DigM w t L F e → ¬ X t → ¬ ((t = B7 ∨ t = B9) ∨ u'.ownBlock = some t ∨ v'.ownBlock = some t) := fun t e hd hx g => by
    rcases g with (g | g) | g
    · exact hx (g ▸ h.mi.x9)
    · exact hx (g ▸ h.mi.x11)
    · rcases nX t g with q | q
      · exact hx q
      · have := tbl t e hd; omega
  have na : ∀ (a : Option Addr) m e, DocM w a m L e → (∀ b, a = some ⟨b, 0, none⟩ → ¬ X b) → ∀ b, a = some ⟨b, 0, none⟩ → ¬ ((b = B7 ∨ b = B9) ∨ u'.ownBlock = some b ∨ v'.ownBlock = some b) := fun a m e hd hx b hb g => by
    rcases g with (g | g) | g
    · exact hx b hb (g ▸ h.mi.x9)
    · exact hx b hb (g ▸ h.mi.x11)
    · rcases nX b g with q | q
      · exact hx b hb q
      · have := hd.2.1.2 b hb; omega
  have lim : ∀ i, X i → i < w.heap.size → ∃ cs t f, w.heap[i]? = some (.cells cs t f) := fun i hi _ => (h.mi.lim i hi).2
  refine ⟨⟨(nP B7 not7 l7).trans h.mi.d, (nP B9 not9 l9).trans h.mi.r, h.mi.dig.only oX h.mi.tb lim, h.mi.doc.only oX h.mi.ao, .inl (.inl rfl), .inl (.inr rfl), h.mi.ne, nt _ _ h.mi.dig h.mi.tb, na _ _ _ h.mi.doc h.mi.ao, fun i hi => ?_⟩,
    by rw [dcells_snoc]; exact hp.one, by rw [rcells_snoc]; exact hp.two, hp.ne, by simp [h.lu], by simp [h.lv], fun b hb => ⟨.inr (.inl hb), fr7 b (.inl hb)⟩, fun b hb => ⟨.inr (.inr hb), fr7 b (.inr hb)⟩, fun b hb => ?_, fun i hi => ?_, ?_⟩
  · rcases hi with (hi | hi) | hi | hi
    · rw [hi]; exact ⟨Nat.lt_of_lt_of_le l7 oX.size, _, _, _, (nP B7 not7 l7).trans h.mi.d⟩
    · rw [hi]; exact ⟨Nat.lt_of_lt_of_le l9 oX.size, _, _, _, (nP B9 not9 l9).trans h.mi.r⟩
    · obtain ⟨_, cs, hc⟩ := own_cells hp.one hi; exact ⟨(World.ownsRow.lt hp.one _ hi).2, _, _, _, hc⟩
    · obtain ⟨_, cs, hc⟩ := own_cells hp.two hi; exact ⟨(World.ownsRow.lt hp.two _ hi).2, _, _, _, hc⟩
  · rcases hb with (hb | hb) | hb | hb
    · rw [hb]; exact h.low _ h.mi.x9
    · rw [hb]; exact h.low _ h.mi.x11
    · exact (own_cells hp.one hb).1
    · exact (own_cells hp.two hb).1
  · rw [getD_last ds tb 0 (by rw [h.lu]; exact hi), getD_last rs (ao, n, cap) (none, 0, 0) (by rw [h.lv]; exact hi), h.lu, h.lv]
    by_cases g : i < k
    · rw [if_pos g, if_pos g]
      obtain ⟨d, k1, k2, k3, k4⟩ := h.all i g
      exact ⟨d, k1.only oX k3 lim, k2.only oX k4, nt _ _ k1 k3, na _ _ _ k2 k4⟩
    · rw [if_neg g, if_neg g]
      exact ⟨c, h.mi.dig.only oX h.mi.tb lim, h.mi.doc.only oX h.mi.ao, nt _ _ h.mi.dig h.mi.tb, na _ _ _ h.mi.doc h.mi.ao⟩
  · have e2 : Only (fun i => W.heap.size ≤ i) W w := ⟨h.b.os, h.b.tape, h.b.output, h.b.size, fun i hi _ => h.b.block i hi⟩
    exact (e2.trans (oX.mono (R := fun i => W.heap.size ≤ i) (fun i hi => h.low i hi))).below (fun i hi => hi)
end Go.Proofs.Ythjmiimkplhffaa
