/- Part 6 of the contracts: DPutOk, DOne, DAtOne, DAwake, DZero, DUnusW, DLaw. -/
import Derived.Sort.QuietIn
import Derived.Sort.CutIn
import Derived.RegionIn
import Derived.OwnWalk
import Derived.Carry
import Derived.Lib.SmallJoins
import Derived.ProofKit
import Derived.OpenShut
import Derived.Test.YthjmiimkplhffaaPart5

/- The program's Add, where it adds. (Written by gen_put.py from put2.head.) -/
set_option linter.unusedVariables false
set_option linter.unusedSimpArgs false
namespace Go.Proofs.Ythjmiimkplhffaa
open Go.RowKit Go.Maps

/-- the sum lies in a cell of its own -/
structure SF (W w : World) (B tb mb L : Nat) (F n m : Int) (c k : Int → Int) (T M : Nat) : Prop where
  af : AF W w tb mb L F n c
  row : w.heap[B]? = some (.cells #[.int .i64 (L : Int), .int .i64 F, .pointer (some ⟨T, 0, none⟩)] 28 (0, 0))
  tree : Tree w T M (n + m) (fun q => c q + k q)
  ne : T ≠ M
  lt : T < w.heap.size
  hB : W.heap.size + 1 < B ∧ B ≠ M
  hM : W.heap.size + 1 < M ∧ W.heap.size ≤ T ∧ tb < W.heap.size
theorem SF.keep {W w w' : World} {B tb mb L : Nat} {F n m : Int} {c k : Int → Int} {T M : Nat} (h : SF W w B tb mb L F n m c k T M) (hb : Below w.heap.size w w') : SF W w' B tb mb L F n m c k T M :=
  ⟨h.af.keep hb, (hb.block _ (Array.getElem?_eq_some_iff.1 h.row).1).trans h.row, h.tree.keep hb, h.ne, Nat.lt_of_lt_of_le h.lt hb.size, h.hB, h.hM⟩
/-- what is left after compress -/
structure CF (W w : World) (B L : Nat) (F n m : Int) (c k : Int → Int) (T : Nat) : Prop where
  s : w.heap[B]? = some (.cells #[.int .i64 (L : Int), .int .i64 F, .pointer (some ⟨T, 0, none⟩)] 28 (0, 0))
  row : w.heap[W.heap.size + 1]? = some (.cells #[.int .i64 0, .int .i64 0, .pointer none] 28 (0, 0))
  out : ∃ d, Comp ((n + m) / F) L (fun q => c q + k q) d ∧ DigM w T L F d ∧ tot L d = n + m
  b : Below W.heap.size W w
  ne : T ≠ W.heap.size + 1
  hT : W.heap.size ≤ T
theorem CF.of {W w w' : World} {B tb mb L : Nat} {F n m : Int} {c k : Int → Int} {T M : Nat} (h : SF W w B tb mb L F n m c k T M) (hc : Compressed w T M L (n + m) ((n + m) / F) (fun q => c q + k q) w')
    (hr : 1 ≤ L ∧ L ≤ 20 ∧ 1 ≤ F ∧ F ≤ 1000) (hto : tot L (fun q => c q + k q) = n + m) (hn : n + m ≤ 1099511627776) (hT : T ≠ W.heap.size + 1) : CF W w' B L F n m c k T := by
  obtain ⟨d, h1, h2, h3, h4, h5⟩ := hc
  refine ⟨(h5.block _ (Array.getElem?_eq_some_iff.1 h.row).1 (by have := h.hB; omega)).trans h.row, (h5.block _ (Array.getElem?_eq_some_iff.1 h.af.row).1 (by have := h.hM; omega)).trans h.af.row, ⟨d, h1, ⟨M, ?_, h.ne, Nat.lt_of_lt_of_le h.lt h5.size, hr, h3, ?_, ?_⟩, ?_⟩, ?_, hT, h.hM.2.1⟩
  · rw [h4, hto]; exact h2
  · rw [h4, hto]; exact hn
  · rw [h4, hto]; exact h1.still
  · rw [h4, hto]
  · exact ((Only.of_below h.af.b).trans (h5.mono (fun i hi => by subst hi; have := h.hM; show W.heap.size ≤ _; omega))).below (fun i hi => hi)
theorem CF.fin {W w : World} {B L : Nat} {F n m : Int} {c k : Int → Int} {T : Nat} {x y z : Value} (h : CF W w B L F n m c k T) :
    ∃ d, Comp ((n + m) / F) L (fun q => c q + k q) d ∧ DigM (((w.setCell ⟨W.heap.size + 1, 0, none⟩ x).setCell ⟨W.heap.size + 1, 1, none⟩ y).setCell ⟨W.heap.size + 1, 2, none⟩ z) T L F d ∧ tot L d = n + m ∧ Below W.heap.size W (((w.setCell ⟨W.heap.size + 1, 0, none⟩ x).setCell ⟨W.heap.size + 1, 1, none⟩ y).setCell ⟨W.heap.size + 1, 2, none⟩ z) := by
  obtain ⟨d, h1, ⟨M, h2, h3, h4, h5⟩, h6⟩ := h.out
  have ho : Only (fun i => i = W.heap.size + 1) w (((w.setCell ⟨W.heap.size + 1, 0, none⟩ x).setCell ⟨W.heap.size + 1, 1, none⟩ y).setCell ⟨W.heap.size + 1, 2, none⟩ z) := ((Only.setCell w ⟨W.heap.size + 1, 0, none⟩ x).trans (Only.setCell _ ⟨W.heap.size + 1, 1, none⟩ y)).trans (Only.setCell _ ⟨W.heap.size + 1, 2, none⟩ z)
  have hM : M ≠ W.heap.size + 1 := by
    intro e
    obtain ⟨D, ⟨es, clock, hb, _⟩, _⟩ := h2.m
    rw [e, h.row] at hb
    cases hb
  exact ⟨d, h1, ⟨M, ⟨ho.cell h2.c0 (by exact h.ne), ho.cell h2.c1 (by exact h.ne), ho.cm h2.m hM⟩, h3, Nat.lt_of_lt_of_le h4 ho.size, h5⟩, h6, set_below h.b⟩

set_option maxRecDepth 100000 in
set_option maxHeartbeats 8000000 in
theorem add_ok (tb L : Nat) (F : Int) (c : Int → Int) (v m : Int) (W : World) (h : DigM W tb L F c) (hno : AddOk L v m) (hm : m ≤ 1099511627776 - tot L c) :
    Calls Try.prog 25 #[.agg #[.int .i64 (L : Int), .int .i64 F, .pointer (some ⟨tb, 0, none⟩)], .int .i64 v, .int .i64 m] W (fun e w' => ∃ T d, e = .returned (.tuple #[dv L F T, .int .i64 0]) ∧ Comp ((tot L c + m) / F) L (fun q => c q + leafF (2 ^ L + v) m q) d ∧ DigM w' T L F d ∧ tot L d = tot L c + m ∧ Below W.heap.size W w' ∧ W.heap.size ≤ T) := by
  obtain ⟨mb, ht, h2, h3, ⟨hl1, hl2, hf1, hf2⟩, h5, h6, h7⟩ := h
  have h8 : 0 ≤ tot L c := S_nonneg _ (fun i _ => h5.1 i)
  have hgl := good_le h5
  obtain ⟨n, hn⟩ : ∃ n : Int, n = tot L c := ⟨_, rfl⟩
  rw [← hn] at hm h6 h8 ht h7 ⊢
  simp only [← hn] at hgl
  obtain ⟨V, hV⟩ : ∃ V, V = (W.alloc (.cells #[.int .i64 (L : Int), .int .i64 F, .pointer (some ⟨tb, 0, none⟩)] 28)).alloc (.cells #[.int .i64 0, .int .i64 0, .pointer none] 28) := ⟨_, rfl⟩
  have HAF : Hid (AF W V tb mb L F n c) := Lib.hid (by rw [hV]; exact AF.start ht)
  obtain ⟨P, hP⟩ : ∃ P : Int, P = 2 ^ L := ⟨_, rfl⟩
  have HP := Lib.hid hP
  have hl1 : (1 : Int) ≤ (L : Int) := by omega
  have HV := Lib.hid hV
  unfold AddOk at hno
  rw [← hP] at hno ⊢
  have g1 : ¬ v < 0 := by omega
  have g2 : v < P := by omega
  have g3 : ¬ m < 1 := by omega
  have hpp : P ≤ 1048576 := by rw [hP]; exact pow_le_int (b := 20) hl2
  have hp2 : (2 : Int) ^ (L + 1) = 2 * P := by rw [Int.pow_succ, ← hP]; omega
  have HW1 : Hid (IntKind.i64.wrap (1099511627776 - n) = 1099511627776 - n) := IntWalk.i64_in _ (by omega)
  have HW2 : Hid (IntKind.i64.wrap (P + v) = P + v) := IntWalk.i64_in _ (by omega)
  have HGC := Lib.hid h5
  have HGK := Lib.hid (good_leaf (L := L) (l := P + v) (m := m) (by omega) (by omega) (by omega))
  have HTK := Lib.hid (tot_leaf (L := L) (l := P + v) (m := m) (by omega) (by omega))
  have HGL := Lib.hid hgl
  have HST := Lib.hid h7
  have HN := Lib.hid hn
  have HTB := Lib.hid h3
  have HLP : Hid (2 ^ L ≤ P + v) := Lib.hid (by rw [← hP]; omega)
  have HLN : Hid (1 ≤ L) := Lib.hid (by omega)
  clear ht h2 h3 h5 h7 hV hP hno hn hgl hp2
  have e0 := HAF.out.d0; have e1 := HAF.out.d1; have e2 := HAF.out.d2; have t1 := HAF.out.tree.c1; have hr9 := three_cells HAF.out.row; have r0 := hr9.1; have r1 := hr9.2.1; have r2 := hr9.2.2.1; have r3 := hr9.2.2.2.1; have r4 := hr9.2.2.2.2.1; have r5 := hr9.2.2.2.2.2; clear hr9
  have hmm := @run_makeMap Try.prog
  go_enter Try.func25, Try.ntmps25
  go_upto_region 1 with fail
  rw [← HV.out]
  go_upto_region 9 with (first
    | (go_at_call 35; refine (usable_yes _ _ _ _ hl1).mono ?_; rintro e w1 ⟨rfl, hb1⟩; clear e0 e1 e2 t1 r0 r1 r2 r3 r4 r5; replace HAF := Lib.hid (HAF.out.keep hb1); have e0 := HAF.out.d0; have e1 := HAF.out.d1; have e2 := HAF.out.d2; have t1 := HAF.out.tree.c1; have hr9 := three_cells HAF.out.row; have r0 := hr9.1; have r1 := hr9.2.1; have r2 := hr9.2.2.1; have r3 := hr9.2.2.2.1; have r4 := hr9.2.2.2.2.1; have r5 := hr9.2.2.2.2.2; clear hr9; clear hb1)
    | (go_at_call 41; refine (values_any (L : Int) F _ (by omega) (by omega)).mono ?_; rintro e w2 ⟨rfl, hb2⟩; clear e0 e1 e2 t1 r0 r1 r2 r3 r4 r5; rw [Int.toNat_natCast, ← HP.out]; replace HAF := Lib.hid (HAF.out.keep hb2); have e0 := HAF.out.d0; have e1 := HAF.out.d1; have e2 := HAF.out.d2; have t1 := HAF.out.tree.c1; have hr9 := three_cells HAF.out.row; have r0 := hr9.1; have r1 := hr9.2.1; have r2 := hr9.2.2.1; have r3 := hr9.2.2.2.1; have r4 := hr9.2.2.2.2.1; have r5 := hr9.2.2.2.2.2; clear hr9; clear hb2)
    | (refine wpList_ins rfl (.tmp 43) (.tmp 44) (.tmp 45) rfl w2.heap.size (cm_new w2) rfl (P + v) m (by unfold InW; omega) (by unfold InW; omega) (by omega) rfl rfl ?_; intro w3 hm3 hg3; clear e0 e1 e2 t1 r0 r1 r2 r3 r4 r5; replace HAF := Lib.hid (HAF.out.keep (grown_new hg3)); have e0 := HAF.out.d0; have e1 := HAF.out.d1; have e2 := HAF.out.d2; have t1 := HAF.out.tree.c1; have hr9 := three_cells HAF.out.row; have r0 := hr9.1; have r1 := hr9.2.1; have r2 := hr9.2.2.1; have r3 := hr9.2.2.2.1; have r4 := hr9.2.2.2.2.1; have r5 := hr9.2.2.2.2.2; clear hr9; have HM3 := Lib.hid hm3; clear hm3 hg3)
    | (go_at_call 43; refine (plus_any (L : Int) F n m tb mb w2.heap.size L c (leafF (P + v) m) w3 HAF.out.tree HM3.out HGC.out HGK.out hl2 (by omega) (by omega) (by omega) (by omega) (fun q => by have := HGL.out q; omega) (fun q => le_leaf (by omega) (by omega) q)).mono ?_; rintro e w4 ⟨T, M, rfl, htr, hTM, hT, hM, hTl, hbl⟩; have HS3 := Lib.hid (Array.getElem?_eq_some_iff.1 HAF.out.row).1; clear e0 e1 e2 t1 r0 r1 r2 r3 r4 r5; replace HAF := Lib.hid (HAF.out.keep hbl); have e0 := HAF.out.d0; have e1 := HAF.out.d1; have e2 := HAF.out.d2; have t1 := HAF.out.tree.c1; have hr9 := three_cells HAF.out.row; have r0 := hr9.1; have r1 := hr9.2.1; have r2 := hr9.2.2.1; have r3 := hr9.2.2.2.1; have r4 := hr9.2.2.2.2.1; have r5 := hr9.2.2.2.2.2; clear hr9; have HTR := Lib.hid htr; have HTM := Lib.hid hTM; have HT := Lib.hid hT; have HM := Lib.hid hM; have HTL := Lib.hid hTl; have HS4 := Lib.hid hbl.size; clear htr hTM hT hM hTl hbl))
  clear e0 e1 e2 t1 r0 r1 r2 r3 r4 r5
  clear hmm
  have HSF : Hid (SF W (w4.alloc (.cells #[.int .i64 (L : Int), .int .i64 F, .pointer (some ⟨T, 0, none⟩)] 28)) w4.heap.size tb mb L F n m c (leafF (P + v) m) T M) := by
    have hb : Below w4.heap.size w4 (w4.alloc (.cells #[.int .i64 (L : Int), .int .i64 F, .pointer (some ⟨T, 0, none⟩)] 28)) := (Below.refl _ _).alloc (Nat.le_refl _) _
    have h1 := HTR.out.m.lt
    have h2 := HS3.out
    have h3 := HS4.out
    have h4 := HM.out
    have h5 := HT.out
    have h9 := HTB.out
    exact ⟨HAF.out.keep hb, cells_new w4 _ _, HTR.out.keep hb, HTM.out, Nat.lt_of_lt_of_le HTL.out hb.size, by omega, by omega⟩
  have HTW : Hid (T ≠ W.heap.size + 1) := Lib.hid (by have := HT.out; have := HS3.out; omega)
  generalize (w4.alloc (.cells #[.int .i64 (L : Int), .int .i64 F, .pointer (some ⟨T, 0, none⟩)] 28)) = w5 at HSF ⊢
  generalize w4.heap.size = B at HSF ⊢
  clear HAF HTR HTM HT HM HTL HS4 HS3 HM3
  have hnm : 0 ≤ n + m := by omega
  have hnm2 : n + m ≤ 1099511627776 := by omega
  have hs := three_cells HSF.out.row
  have s0 := hs.1
  have s1 := hs.2.1
  have s2 := hs.2.2.1
  have e0 := HSF.out.af.d0
  have e1 := HSF.out.af.d1
  have e2 := HSF.out.af.d2
  clear hs
  have hTt : T ≠ tb := by have := HSF.out.hM; omega
  obtain ⟨tf, htf1, htf2⟩ : ∃ tf : Nat → Int, tf tb = n / F ∧ tf T = (n + m) / F := ⟨fun p => if p = T then (n + m) / F else n / F, if_neg (fun e => hTt e.symm), if_pos rfl⟩
  have lim : ∀ p w', (p = tb ∨ p = T) → Below w5.heap.size w5 w' → Calls Try.prog 49 #[.agg #[.int .i64 (L : Int), .int .i64 F, .pointer (some ⟨p, 0, none⟩)]] w' (fun e w'' => e = .returned (.int .i64 (tf p)) ∧ Below w'.heap.size w' w'') := fun p w' hp hb => by
    rcases hp with rfl | rfl
    · rw [htf1]; exact limit_any (L : Int) F p mb n c w' (HSF.out.af.tree.keep hb) hf1 hf2 h8 h6
    · rw [htf2]; exact limit_any (L : Int) F p M (n + m) _ w' (HSF.out.tree.keep hb) hf1 hf2 hnm hnm2
  have LIM := Lib.hid lim
  have HT1 := Lib.hid htf1
  have HT2 := Lib.hid htf2
  clear lim htf1 htf2
  by_cases heq : tf T = tf tb
  · go_region_held3 (fun w' => w'.cell? ⟨W.heap.size, 0, none⟩ = some (.int .i64 (L : Int)) ∧ w'.cell? ⟨W.heap.size, 1, none⟩ = some (.int .i64 F) ∧ w'.cell? ⟨W.heap.size, 2, none⟩ = some (.pointer (some ⟨tb, 0, none⟩)) ∧ w'.cell? ⟨B, 0, none⟩ = some (.int .i64 (L : Int)) ∧ w'.cell? ⟨B, 1, none⟩ = some (.int .i64 F) ∧ w'.cell? ⟨B, 2, none⟩ = some (.pointer (some ⟨T, 0, none⟩))) (go_keep)
      (first | (go_at_call 49; have _t := x0; refine (LIM.out _ _ (by first | exact Or.inl rfl | exact Or.inr rfl) B6.out).mono ?_; rintro e w7 ⟨rfl, hb7⟩; have B7 := Lib.hid (below_then B6.out hb7); have y0 := cell_later hb7 x0; have y1 := cell_later hb7 x1; have y2 := cell_later hb7 x2; have y3 := cell_later hb7 x3; have y4 := cell_later hb7 x4; have y5 := cell_later hb7 x5; clear hb7) | (go_at_call 49; refine (LIM.out _ _ (by first | exact Or.inl rfl | exact Or.inr rfl) (below_drewN (Below.refl _ _) 1)).mono ?_; rintro e w6 ⟨rfl, hb6⟩; have B6 := Lib.hid (below_then (below_drewN (Below.refl _ _) 1) hb6); clear hb6; have x0 := cell_later B6.out e0; have x1 := cell_later B6.out e1; have x2 := cell_later B6.out e2; have x3 := cell_later B6.out s0; have x4 := cell_later B6.out s1; have x5 := cell_later B6.out s2))
    go_wp2_with fail
    have HS7 := Lib.hid (HSF.out.keep B7.out)
    have HST2 : Hid (Still ((n + m) / F) L c) := Lib.hid (by rw [← HT2.out, heq, HT1.out]; exact HST.out)
    have hp2 : 2 ≤ P := by rw [HP.out]; exact pow_le_int (a := 1) HLN.out
    clear e0 e1 e2 s0 s1 s2 x0 x1 x2 x3 x4 x5 y0 y1 y2 B6 _t
    have HCMP : Hid (∀ w, SF W w B tb mb L F n m c (leafF (P + v) m) T M → ∀ ao la ca, Il w ao la [(P + v) / 2] → (∀ a, ao = some a → a.block < w.heap.size) → la = 1 → Calls Try.prog 44 #[.agg #[.int .i64 (L : Int), .int .i64 F, .pointer (some ⟨T, 0, none⟩)], .slice ao la ca] w (fun e w' => e = .returned (.tuple #[]) ∧ CF W w' B L F n m c (leafF (P + v) m) T)) := Lib.hid (by
      intro w hs ao la ca hil hao hla
      have hto : tot L (fun q => c q + leafF (P + v) m q) = n + m := by rw [tot_sum, HTK.out, ← HN.out]
      refine (compress_any T M L F (n + m) _ ao la ca _ w hs.tree hs.ne hs.lt hil (by omega) HLN.out hl2 hf1 hf2 hnm hnm2 (good_sum HGC.out HGK.out) hto (fun x hx => ?_) (can_new HST2.out HLP.out) (wt_le hl2 _) hao).mono ?_
      · simp at hx
        subst hx
        exact at_ex L _ (by omega) (by rw [← HP.out]; omega)
      · rintro e w' ⟨rfl, hc⟩
        exact ⟨rfl, CF.of hs hc ⟨HLN.out, hl2, hf1, hf2⟩ hto hnm2 HTW.out⟩)
    go_region_held3 (fun w' => w'.cell? ⟨B, 0, none⟩ = some (.int .i64 (L : Int)) ∧ w'.cell? ⟨B, 1, none⟩ = some (.int .i64 F) ∧ w'.cell? ⟨B, 2, none⟩ = some (.pointer (some ⟨T, 0, none⟩))) (go_keep)
      (first | (go_at_call 50; refine (parent_any (P + v) _ (by omega) (by omega)).mono ?_; rintro e _ ⟨rfl, rfl⟩) | (go_at_call 44; refine (HCMP.out _ (HS7.out.keep ((Below.refl w7.heap.size w7).drew.alloc (Nat.le_refl _) _)) _ _ _ (Il.new w7.drew 3 [(P + v) / 2] 1 rfl) (fun a ha => by obtain rfl := Option.some.inj ha; simp) rfl).mono ?_; rintro e w8 ⟨rfl, hcf⟩; have HCF := Lib.hid hcf; clear hcf; have hs9 := three_cells HCF.out.s; have u0 := hs9.1; have u1 := hs9.2.1; have u2 := hs9.2.2.1; clear hs9))
    have hr9 := three_cells HCF.out.row
    have r0 := hr9.1
    have r1 := hr9.2.1
    have r2 := hr9.2.2.1
    have r3 := hr9.2.2.2.1
    have r4 := hr9.2.2.2.2.1
    have r5 := hr9.2.2.2.2.2
    clear hr9 y3 y4 y5
    go_wp2_with fail
    refine bodyPost_ret (v := .tuple #[dv L F T, .int .i64 0]) (results_cell_tmp Try.results25 _ _ (W.heap.size + 1) 28 #[.int .i64 (L : Int), .int .i64 F, .pointer (some ⟨T, 0, none⟩)] (0, 0) _ rfl (set_three HCF.out.row) Try.underlying28 (by kernel_rfl) (by kernel_rfl)) rfl ?_
    obtain ⟨d, q1, q2, q3, q4⟩ := HCF.out.fin
    exact ⟨T, d, rfl, q1, q2, q3, q4, HCF.out.hT⟩
  · go_region_held3 (fun w' => w'.cell? ⟨W.heap.size, 0, none⟩ = some (.int .i64 (L : Int)) ∧ w'.cell? ⟨W.heap.size, 1, none⟩ = some (.int .i64 F) ∧ w'.cell? ⟨W.heap.size, 2, none⟩ = some (.pointer (some ⟨tb, 0, none⟩)) ∧ w'.cell? ⟨B, 0, none⟩ = some (.int .i64 (L : Int)) ∧ w'.cell? ⟨B, 1, none⟩ = some (.int .i64 F) ∧ w'.cell? ⟨B, 2, none⟩ = some (.pointer (some ⟨T, 0, none⟩))) (go_keep)
      (first | (go_at_call 49; have _t := x0; refine (LIM.out _ _ (by first | exact Or.inl rfl | exact Or.inr rfl) B6.out).mono ?_; rintro e w7 ⟨rfl, hb7⟩; have B7 := Lib.hid (below_then B6.out hb7); have y0 := cell_later hb7 x0; have y1 := cell_later hb7 x1; have y2 := cell_later hb7 x2; have y3 := cell_later hb7 x3; have y4 := cell_later hb7 x4; have y5 := cell_later hb7 x5; clear hb7) | (go_at_call 49; refine (LIM.out _ _ (by first | exact Or.inl rfl | exact Or.inr rfl) (below_drewN (Below.refl _ _) 1)).mono ?_; rintro e w6 ⟨rfl, hb6⟩; have B6 := Lib.hid (below_then (below_drewN (Below.refl _ _) 1) hb6); clear hb6; have x0 := cell_later B6.out e0; have x1 := cell_later B6.out e1; have x2 := cell_later B6.out e2; have x3 := cell_later B6.out s0; have x4 := cell_later B6.out s1; have x5 := cell_later B6.out s2))
    go_wp2_with fail
    have HS7 := Lib.hid (HSF.out.keep B7.out)
    clear e0 e1 e2 s0 s1 s2 x0 x1 x2 x3 x4 x5 y0 y1 y2 B6 _t
    have HCMP : Hid (∀ w, SF W w B tb mb L F n m c (leafF (P + v) m) T M → ∀ ps ao ca, Il w ao (List.length ps) ps → (∀ a, ao = some a → a.block < w.heap.size) → List.length ps ≤ 4194304 → (∀ x, x ∈ ps ↔ ∃ q ∈ idsL L (fun q => c q + leafF (P + v) m q), 1 < q ∧ q / 2 = x) → Calls Try.prog 44 #[.agg #[.int .i64 (L : Int), .int .i64 F, .pointer (some ⟨T, 0, none⟩)], .slice ao (List.length ps) ca] w (fun e w' => e = .returned (.tuple #[]) ∧ CF W w' B L F n m c (leafF (P + v) m) T)) := Lib.hid (by
      intro w hs ps ao ca hil hao hla hmem
      have hto : tot L (fun q => c q + leafF (P + v) m q) = n + m := by rw [tot_sum, HTK.out, ← HN.out]
      have hgs := good_sum HGC.out HGK.out
      refine (compress_any T M L F (n + m) _ ao _ ca ps w hs.tree hs.ne hs.lt hil hla HLN.out hl2 hf1 hf2 hnm hnm2 hgs hto (par_in hgs hmem) (can_par hgs hmem) (wt_le hl2 _) hao).mono ?_
      rintro e w' ⟨rfl, hc⟩
      exact ⟨rfl, CF.of hs hc ⟨HLN.out, hl2, hf1, hf2⟩ hto hnm2 HTW.out⟩)
    go_region_held3 (fun w' => w'.cell? ⟨B, 0, none⟩ = some (.int .i64 (L : Int)) ∧ w'.cell? ⟨B, 1, none⟩ = some (.int .i64 F) ∧ w'.cell? ⟨B, 2, none⟩ = some (.pointer (some ⟨T, 0, none⟩))) (go_keep)
      (first | (go_at_call 45; refine (parents_any T M L (n + m) _ _ (HS7.out.tree.keep (Below.refl w7.heap.size w7).drew) (good_sum HGC.out HGK.out) hl2).mono ?_; rintro e w8 ⟨ps, ao, cap, rfl, hpl, hil, hao, hmem, hb8⟩; have B8 := Lib.hid (below_then (below_drewN (Below.refl w7.heap.size w7) 1) hb8); have z3 := cell_later B8.out y3; have z4 := cell_later B8.out y4; have z5 := cell_later B8.out y5; have HIL := Lib.hid hil; have HAO := Lib.hid hao; have HPL := Lib.hid hpl; have HMEM := Lib.hid hmem; clear hb8 hil hao hpl hmem) | (go_at_call 44; refine (HCMP.out _ (HS7.out.keep B8.out) ps _ _ HIL.out HAO.out HPL.out HMEM.out).mono ?_; rintro e w9 ⟨rfl, hcf⟩; have HCF := Lib.hid hcf; clear hcf; have hs9 := three_cells HCF.out.s; have u0 := hs9.1; have u1 := hs9.2.1; have u2 := hs9.2.2.1; clear hs9))
    have hr9 := three_cells HCF.out.row
    have r0 := hr9.1
    have r1 := hr9.2.1
    have r2 := hr9.2.2.1
    have r3 := hr9.2.2.2.1
    have r4 := hr9.2.2.2.2.1
    have r5 := hr9.2.2.2.2.2
    clear hr9 y3 y4 y5
    go_wp2_with fail
    refine bodyPost_ret (v := .tuple #[dv L F T, .int .i64 0]) (results_cell_tmp Try.results25 _ _ (W.heap.size + 1) 28 #[.int .i64 (L : Int), .int .i64 F, .pointer (some ⟨T, 0, none⟩)] (0, 0) _ rfl (set_three HCF.out.row) Try.underlying28 (by kernel_rfl) (by kernel_rfl)) rfl ?_
    obtain ⟨d, q1, q2, q3, q4⟩ := HCF.out.fin
    exact ⟨T, d, rfl, q1, q2, q3, q4, HCF.out.hT⟩
end Go.Proofs.Ythjmiimkplhffaa

/- slices.SortFunc at one element, by whatever function. -/
set_option linter.unusedVariables false
set_option linter.unusedSimpArgs false
namespace Go.Proofs.Ythjmiimkplhffaa
open Go.RowKit Go.Maps Go.Shelf Go.Sort

theorem ins_one (p : Option Addr) (cap : Nat) (fv : Value) (w : World) :
    Calls Try.prog 77 #[.slice p 1 cap, .int .i64 0, .int .i64 1, fv] w fun e w' => e = .returned (.tuple #[]) ∧ w' = w := by
  go_enter Try.func77, Try.ntmps77
  go_wp2
  refine wp_loop_rounds 1 ?_
  rw [rounds_succ]
  go_wp2
  go_end0
  exact ⟨rfl, rfl⟩

theorem pdq_one (p : Option Addr) (cap : Nat) (lim : Int) (fv : Value) (w : World) :
    Calls Try.prog 74 #[.slice p 1 cap, .int .i64 0, .int .i64 1, .int .i64 lim, fv] w fun e w' => e = .returned (.tuple #[]) ∧ w' = w := by
  go_enter Try.func74, Try.ntmps74
  go_wp2
  refine wp_loop_rounds 1 ?_
  rw [rounds_succ]
  go_wp2_with (go_at_call 77; refine (ins_one p cap fv _).mono ?_; rintro e w' ⟨rfl, rfl⟩)
  (try simp only [Exit.inBlock, Exit.then]); refine bodyPost_ret (results_none rfl _ _ _) rfl ?_
  exact ⟨rfl, rfl⟩

theorem sort_one (p : Option Addr) (cap : Nat) (fv : Value) (w : World) :
    Calls Try.prog 68 #[.slice p 1 cap, fv] w fun e w' => e = .returned (.tuple #[]) ∧ w' = w := by
  go_enter Try.func68, Try.ntmps68
  go_wp2_with (first | (go_at_call 70; refine (Try.bits_Len 1 _ (by omega) (by omega)).mono ?_; rintro e w' ⟨rfl, rfl⟩) | (go_at_call 74; refine (pdq_one p cap _ fv _).mono ?_; rintro e w' ⟨rfl, rfl⟩))
  go_end0
  exact ⟨rfl, rfl⟩

theorem sortsOne (fv : Value) : SortsBy fv (fun ss => ss.length ≤ 1) id :=
  ⟨fun blk cap ss W hP hH hb hs => by
    have hw : W = grow (putRow encZ (Sort.ahead W 0) blk 0 (id ss).toArray) #[] := by rw [grow_empty, ahead_zero]; exact (putRow_self encZ W blk 0 ss.toArray hH).symm
    by_cases h0 : ss.length = 1
    · rw [h0]
      exact (sort_one _ cap fv W).mono (fun e w' ⟨he, h⟩ => ⟨he, 0, #[], h.trans hw⟩)
    · rw [show ss.length = 0 by omega]
      have h := AnyF.slices_SortFunc_none (P := Try.prog) (ρ := Try.laysSlF6_f68_ren) { Try.laysSlF6_f68 with } (some ⟨blk, 0, none⟩) cap fv W
      exact Calls.mono h (fun e w' ⟨he, h⟩ => ⟨he, 0, #[], h.trans hw⟩), fun p cap W => by
    have h := AnyF.slices_SortFunc_none (P := Try.prog) (ρ := Try.laysSlF6_f68_ren) { Try.laysSlF6_f68 with } p cap fv W
    exact h, fun ss => rfl⟩
end Go.Proofs.Ythjmiimkplhffaa

/- The program's At, of a digest with one node; of one that is unusable. -/
set_option linter.unusedVariables false
set_option linter.unusedSimpArgs false
namespace Go.Proofs.Ythjmiimkplhffaa
open Go.RowKit Go.Maps Go.Shelf

attribute [local go_sem] Oper.semAt_some

/-- in the middle of At -/
structure RF (W w : World) (tb mb L : Nat) (F n r : Int) (c : Int → Int) : Prop where
  d0 : w.cell? ⟨W.heap.size, 0, none⟩ = some (.int .i64 (L : Int))
  d1 : w.cell? ⟨W.heap.size, 1, none⟩ = some (.int .i64 F)
  d2 : w.cell? ⟨W.heap.size, 2, none⟩ = some (.pointer (some ⟨tb, 0, none⟩))
  rk : w.cell? ⟨W.heap.size + 1, 0, none⟩ = some (.int .i64 r)
  tree : Tree w tb mb n c
  b : Below W.heap.size W w
theorem RF.keep {W w w' : World} {tb mb L : Nat} {F n r : Int} {c : Int → Int} (h : RF W w tb mb L F n r c) (hb : Below w.heap.size w w') : RF W w' tb mb L F n r c :=
  ⟨cell_later hb h.d0, cell_later hb h.d1, cell_later hb h.d2, cell_later hb h.rk, h.tree.keep hb, h.b.trans (hb.mono h.b.size)⟩
theorem RF.start {W : World} {tb mb L : Nat} {F n r : Int} {c : Int → Int} (h : Tree W tb mb n c) :
    RF W ((W.alloc (.cells #[.int .i64 (L : Int), .int .i64 F, .pointer (some ⟨tb, 0, none⟩)] 28)).alloc (.cells #[.int .i64 r] 3)) tb mb L F n r c := by
  have hb : Below W.heap.size W ((W.alloc (.cells #[.int .i64 (L : Int), .int .i64 F, .pointer (some ⟨tb, 0, none⟩)] 28)).alloc (.cells #[.int .i64 r] 3)) := ((Below.refl _ _).alloc (Nat.le_refl _) _).alloc (by simp) _
  have hd0 : ((W.alloc (.cells #[.int .i64 (L : Int), .int .i64 F, .pointer (some ⟨tb, 0, none⟩)] 28)).alloc (.cells #[.int .i64 r] 3)).heap[W.heap.size]? = some (.cells #[.int .i64 (L : Int), .int .i64 F, .pointer (some ⟨tb, 0, none⟩)] 28 (0, 0)) := by
    rw [Below.heap_alloc _ _ _ (by simp)]
    exact heap_alloc_new _ _
  have hd1 := heap_alloc_new (W.alloc (.cells #[.int .i64 (L : Int), .int .i64 F, .pointer (some ⟨tb, 0, none⟩)] 28)) (.cells #[.int .i64 r] 3)
  rw [World.size_alloc] at hd1
  have h3 := three_cells hd0
  exact ⟨h3.1, h3.2.1, h3.2.2.1, by simp only [World.cell?]; rw [hd1]; simp, h.keep hb, hb⟩

theorem atU_no (r : Int) (W : World) : Calls Try.prog 19 #[zeroD, .int .i64 r] W (fun e w' => e = .returned (.tuple #[.int .i64 0, .int .i64 0, .int .i64 1]) ∧ Below W.heap.size W w') := by
  have hb : Below W.heap.size W ((W.alloc (.cells #[.int .i64 0, .int .i64 0, .pointer none] 28)).alloc (.cells #[.int .i64 r] 3)) := ((Below.refl _ _).alloc (Nat.le_refl _) _).alloc (by simp) _
  have HB := Lib.hid hb
  clear hb
  unfold zeroD
  go_enter Try.func19, Try.ntmps19
  go_wp2_with (go_at_call 35; refine (usable_no _).mono ?_; rintro e w1 ⟨rfl, hb1⟩; have HB1 := Lib.hid (HB.out.trans (hb1.mono HB.out.size)); clear hb1)
  go_ret3
  exact ⟨rfl, HB1.out⟩
theorem belowU_no (r : Int) (W : World) : Calls Try.prog 21 #[zeroD, .int .i64 r] W (fun e w' => e = .returned (.tuple #[.int .i64 0, .int .i64 0, .int .i64 1]) ∧ Below W.heap.size W w') := by
  have hb : Below W.heap.size W (W.alloc (.cells #[.int .i64 0, .int .i64 0, .pointer none] 28)) := ((Below.refl _ _).alloc (Nat.le_refl _) _)
  have HB := Lib.hid hb
  clear hb
  unfold zeroD
  go_enter Try.func21, Try.ntmps21
  go_wp2_with (go_at_call 35; refine (usable_no _).mono ?_; rintro e w1 ⟨rfl, hb1⟩; have HB1 := Lib.hid (HB.out.trans (hb1.mono HB.out.size)); clear hb1)
  go_ret3
  exact ⟨rfl, HB1.out⟩

/-- the one node -/
abbrev OneN (q : Int) := { x : Int × Int // x = (q, 2) }
/-- what the loop keeps -/
theorem RF.only {W w w' : World} {tb mb L : Nat} {F n r : Int} {c : Int → Int} {P : Nat → Prop} (h : RF W w tb mb L F n r c) (ho : Only P w w') (hp : ∀ i, P i → W.heap.size + 1 < i ∧ i ≠ tb ∧ i ≠ mb) : RF W w' tb mb L F n r c :=
  ⟨ho.cell h.d0 (fun g => by have := (hp _ g).1; simp at this; omega), ho.cell h.d1 (fun g => by have := (hp _ g).1; simp at this; omega), ho.cell h.d2 (fun g => by have := (hp _ g).1; simp at this; omega), ho.cell h.rk (fun g => by have := (hp _ g).1; simp at this), ⟨ho.cell h.tree.c0 (fun g => (hp _ g).2.1 rfl), ho.cell h.tree.c1 (fun g => (hp _ g).2.1 rfl), ho.cm h.tree.m (fun g => (hp _ g).2.2 rfl)⟩,
    ((Only.of_below h.b).trans (ho.mono (fun i hi => by have := (hp i hi).1; show W.heap.size ≤ i; omega))).below (fun i hi => hi)⟩

set_option maxRecDepth 100000 in
set_option maxHeartbeats 4000000 in
theorem at_one (tb L d : Nat) (F : Int) (c : Int → Int) (q : Int) (W : World) (h : DigM W tb L F c) (hq : idsL L c = [q]) (hcq : c q = tot L c) (hA : At d q) (hd : d ≤ L) (h2t : tot L c = 2) :
    Calls Try.prog 19 #[.agg #[.int .i64 (L : Int), .int .i64 F, .pointer (some ⟨tb, 0, none⟩)], .int .i64 0] W (fun e w' => e = .returned (.tuple #[.int .i64 (lo L d q), .int .i64 (hi L d q), .int .i64 0]) ∧ Below W.heap.size W w') := by
  refine (callsIn_wide (n := 12)).1 ?_
  obtain ⟨mb, ht, h2, h3, ⟨hl1, hl2, hf1, hf2⟩, hg, h6, h7⟩ := h
  rw [h2t] at hcq h6 ht
  obtain ⟨V, hV⟩ : ∃ V, V = (W.alloc (.cells #[.int .i64 (L : Int), .int .i64 F, .pointer (some ⟨tb, 0, none⟩)] 28)).alloc (.cells #[.int .i64 0] 3) := ⟨_, rfl⟩
  have HRF : Hid (RF W V tb mb L F 2 0 c) := Lib.hid (by rw [hV]; exact RF.start ht)
  have hl : (1 : Int) ≤ (L : Int) := by omega
  have HV := Lib.hid hV
  have HG := Lib.hid hg
  have HQ := Lib.hid hq
  have HCQ := Lib.hid hcq
  clear ht h2 h3 h7 hV hg hq hcq h2t
  have e0 := HRF.out.d0
  have e1 := HRF.out.d1
  have e2 := HRF.out.d2
  have e3 := HRF.out.rk
  have t1 := HRF.out.tree.c1
  refine callsIn_of_wp_marks Try.func19 rfl trivial ?_ rfl
  simp only [Try.ntmps19, List.size_toArray, List.length_cons, List.length_nil, Nat.reduceAdd, Nat.reduceSub, Array.replicate_succ, Array.replicate_zero, List.push_toArray, List.append_toArray, List.nil_append, List.cons_append]
  gi_wp2_with fail
  rw [← HV.out]
  gi_wp2_with (refine ⟨trivial, ?_⟩; gi_at_call 35; refine (callsIn_wide.2 (usable_yes _ _ _ _ hl)).mono ?_; rintro e w1 ⟨rfl, hb1⟩; clear e0 e1 e2 e3 t1; replace HRF := Lib.hid (HRF.out.keep hb1); have e0 := HRF.out.d0; have e1 := HRF.out.d1; have e2 := HRF.out.d2; have e3 := HRF.out.rk; have t1 := HRF.out.tree.c1; clear hb1)
  gi_quiet (fail)
  gi_upto_region 6 with fail
  have HR3 : Hid (RF W ((w1.drewN nq).alloc (.cells #[.int .i64 0, .int .i64 0] 64)) tb mb L F 2 0 c) := HRF.out.keep ((below_drewN (Below.refl w1.heap.size w1) nq).alloc (Nat.le_refl _) _)
  have HLT : Hid (W.heap.size + 1 < w1.heap.size ∧ tb < w1.heap.size ∧ mb < w1.heap.size) := ⟨block_lt_of_cell HRF.out.rk, block_lt_of_cell HRF.out.tree.c0, HRF.out.tree.m.lt⟩
  have hX := heap_alloc_new (w1.drewN nq) (.cells #[.int .i64 0, .int .i64 0] 64)
  generalize (w1.drewN nq).alloc (.cells #[.int .i64 0, .int .i64 0] 64) = w2 at HR3 hX ⊢
  have hBX : (w1.drewN nq).heap.size = w1.heap.size := rfl
  rw [hBX] at hX
  generalize w1.heap.size = X at hX HLT ⊢
  clear e0 e1 e2 e3 t1 HRF hBX
  have e0 := HR3.out.d0
  have e1 := HR3.out.d1
  have e2 := HR3.out.d2
  have HX := Lib.hid hX
  have HXL := Lib.hid (Array.getElem?_eq_some_iff.1 hX).1
  clear hX
  obtain ⟨fv, hfv⟩ : ∃ fv, fv = Value.func (.func 37) #[.agg #[.int .i64 (L : Int), .int .i64 F]] #[] := ⟨_, rfl⟩
  obtain ⟨W1, hW1⟩ : ∃ V, V = (w2.alloc (.cells #[.pointer (some ⟨tb, 0, none⟩)] 26)).alloc (.cells #[fv] 74) := ⟨_, rfl⟩
  have hb1 : Below w2.heap.size w2 W1 := by
    rw [hW1]
    exact ((Below.refl _ _).alloc (Nat.le_refl _) _).alloc (by simp) _
  have hsz : W1.heap.size = w2.heap.size + 2 := by rw [hW1]; simp
  have hbt : Boxed W1 w2.heap.size 26 (.pointer (some ⟨tb, 0, none⟩)) := by rw [hW1]; exact (Boxed.new w2 _ _).alloc _
  have hbc : Boxed W1 (w2.heap.size + 1) 74 fv := by
    rw [hW1]
    have h := Boxed.new (w2.alloc (.cells #[.pointer (some ⟨tb, 0, none⟩)] 26)) 74 fv
    rw [World.size_alloc] at h
    exact h
  have HR4 : Hid (RF W W1 tb mb L F 2 0 c) := HR3.out.keep hb1
  have HX4 : Hid (W1.heap[X]? = some (.cells #[.int .i64 0, .int .i64 0] 64 (0, 0))) := Lib.hid ((hb1.block X HXL.out).trans HX.out)
  have hxl := HXL.out
  have hlt := HLT.out
  have hpre : ItPre (w2.heap.size + 2) (fun k => k = X) (W.heap.size + 1) w2.heap.size (w2.heap.size + 1) tb mb fv 2 c W1 :=
    ⟨by omega, hbt.cell, hbc.cell, HR4.out.tree, ⟨by omega, by omega, by omega, by omega⟩, fun k hk => by subst hk; exact ⟨by omega, by omega, by omega, by omega⟩, fun v k h1 h2 => by rw [HR4.out.rk] at h1; obtain rfl := Option.some.inj h1; simp [Value.ownBlock] at h2⟩
  have hqw : InW q := ids_word HG.out hl2 q (by rw [HQ.out]; exact List.mem_cons_self)
  have hst := nodes_stops (fun x : OneN q => x.1) [⟨(q, 2), rfl⟩] (sortsOne fv) 5 (w2.heap.size + 2) (fun k => k = X) (W.heap.size + 1) w2.heap.size (w2.heap.size + 1) tb mb L 2 c [q] W1 hpre ⟨_, _, _, hfv⟩ HG.out hl2 (by simp) (fun D ss W h1 h2 h3 => by
      have h4 := sort_ids h1 h2 HG.out hl2 h3 (fun x y => decide (x ≤ y)) (fun x y => rfl)
      have h5 := (List.mergeSort_perm ss (fun x y => decide (x ≤ y))).symm
      rw [h4, HQ.out] at h5
      have h6 := List.perm_singleton.1 h5
      exact ⟨by rw [h6]; simp, h6⟩) (fun z hz => by simp at hz; subst hz; exact hqw) (by simp [HCQ.out])
  have HST := Lib.hid hst
  have HB1 := Lib.hid hb1
  have HSZ := Lib.hid hsz
  have HW1 := Lib.hid hW1
  have HFV := Lib.hid hfv
  clear hst hb1 hbt hbc hpre hsz hW1 hfv
  gi_wp2_with (refine ⟨trivial, ?_⟩; gi_at_call 36; refine (nodes_any _ tb _ _ rfl ⟨_, _, _, rfl⟩).mono ?_; rintro e w3 ⟨rfl, rfl⟩)
  rw [← HFV.out, ← HW1.out]
  clear e0 e1 e2 HW1
  refine wpIn_rangeFunc_ownH rfl (by omega) (gf := 53) (lb := #[.pointer (some ⟨w2.heap.size, 0, none⟩), .pointer (some ⟨w2.heap.size + 1, 0, none⟩)]) rfl trivial (enters_of Try.func53 (by kernel_rfl) rfl)
    HST.out (fun h k => KpT.trans h k) (KpT.putObj (by have := HSZ.out; omega) (by have := HSZ.out; omega)) (Below.refl _ _) (fun _ => rfl)
    (fun pre Y => pre = [] ∧ RF W Y tb mb L F 2 0 c ∧ ∃ u v, Y.heap[X]? = some (.cells #[u, v] 64 (0, 0)))
    (fun code _ Y => code = Code.exit 0 ∧ RF W Y tb mb L F 2 0 c ∧ Y.heap[X]? = some (.cells #[.int .i64 q, .int .i64 2] 64 (0, 0)))
    (fun pre Y Y' row hs hg hr => ⟨hs.1, hs.2.1.only (Only.of_grown hg) (fun i hi => by have := (hr i hi).1; have := HSZ.out; omega), by
      obtain ⟨u, v, h⟩ := hs.2.2
      exact ⟨u, v, (hg.block X (Array.getElem?_eq_some_iff.1 h).1 (fun e => by have := (hr X e.symm).1; have := HSZ.out; omega)).trans h⟩⟩)
    (fun code pre Y Y' row hs hg hr => ⟨hs.1, hs.2.1.only (Only.of_grown hg) (fun i hi => by have := (hr i hi).1; have := HSZ.out; omega), (hg.block X (Array.getElem?_eq_some_iff.1 hs.2.2).1 (fun e => by have := (hr X e.symm).1; have := HSZ.out; omega)).trans hs.2.2⟩)
    ⟨rfl, HR4.out, _, _, HX4.out⟩
    (fun x a' Y => Y.heap[X]? = some (.cells #[.int .i64 q, .int .i64 2] 64 (0, 0)) ∧ a' = { tmps := #[.agg #[.int .i64 (L : Int), .int .i64 F, .pointer (some ⟨tb, 0, none⟩)], .int .i64 0, .pointer (some ⟨W.heap.size, 0, none⟩), .pointer (some ⟨W.heap.size + 1, 0, none⟩), .int .i64 0, .int .i64 0, .int .i64 0, .pointer (some ⟨X, 0, none⟩), undef, undef, .agg #[.int .i64 (L : Int), .int .i64 F, .pointer (some ⟨tb, 0, none⟩)], .bool true, .bool false, .int .i64 0, .bool false, .bool false, .int .i64 0, .pointer (some ⟨W.heap.size, 2, none⟩), .pointer (some ⟨tb, 0, none⟩), .pointer (some ⟨tb, 0, none⟩), .pointer (some ⟨tb, 1, none⟩), .int .i64 2, .bool false, .bool false, .pointer (some ⟨W.heap.size, 2, none⟩), .pointer (some ⟨tb, 0, none⟩), .pointer (some ⟨W.heap.size, 0, none⟩), .agg #[.int .i64 (L : Int), .int .i64 F], fv, .func (.func 53) #[] #[.pointer (some ⟨w2.heap.size, 0, none⟩), .pointer (some ⟨w2.heap.size + 1, 0, none⟩)], .agg #[.int .i64 q, .int .i64 2], undef, undef, undef, undef, undef, undef, undef, undef, undef, undef, undef, undef, undef, undef, undef, undef, undef, undef], defers := [] })
    (fun x a' _ Y Y' row hs hg hr => ⟨(hg.block X (Array.getElem?_eq_some_iff.1 hs.1).1 (fun e => by have := (hr X e.symm).1; have := HSZ.out; omega)).trans hs.1, hs.2⟩)
    ?assign ?body ?done ?stop
  case assign =>
    rintro l pre ⟨x, rfl⟩ Y K ⟨rfl, hR, u, v, hu⟩ hK
    have hc := two_cells hu
    have x0 := hc.1
    have x1 := hc.2.1
    have x2 := hc.2.2.1
    have x3 := hc.2.2.2
    have HR := Lib.hid hR
    have HU := Lib.hid hu
    have hxl := HXL.out
    have hlt := HLT.out
    clear hc hR hu
    gi_wp2
    have ho : Only (fun i => i = X) Y ((Y.setCell ⟨X, 0, none⟩ (.int .i64 q)).setCell ⟨X, 1, none⟩ (.int .i64 2)) := (Only.setCell Y ⟨X, 0, none⟩ _).trans (Only.setCell _ ⟨X, 1, none⟩ _)
    have hR2 : RF W ((Y.setCell ⟨X, 0, none⟩ (.int .i64 q)).setCell ⟨X, 1, none⟩ (.int .i64 2)) tb mb L F 2 0 c := HR.out.only ho (fun i hi => by subst hi; omega)
    exact hK _ _ (((KeepsOthers.setCell _ _ _).trans (KeepsOthers.setCell _ _ _)).from _) (KpT.of (ho.mono (fun i hi => .inl hi)) (fun v' k h1 h2 => by rw [hR2.rk] at h1; obtain rfl := Option.some.inj h1; simp [Value.ownBlock] at h2)) ⟨(by first | trivial | rfl), hR2, _, _, set_new HU.out⟩ ⟨set_new HU.out, (by first | rfl | trivial)⟩
  case body =>
    rintro l pre ⟨x, rfl⟩ a' Y hl ⟨r, hr⟩ ⟨rfl, hR, _⟩ ⟨hx, rfl⟩ hlen
    have hc := two_cells hx
    have x1 := hc.2.1
    have x4 := hR.rk
    have HR := Lib.hid hR
    have HXX := Lib.hid hx
    clear hc hR hx
    gi_wp2
    exact ⟨(KeepsOthers.refl _).from _, rfl, HR.out, HXX.out⟩
  case done =>
    rintro D xs Y hD rfl ⟨h, _⟩ hK
    cases h
  case stop =>
    rintro D code pre Y hD hSp ⟨rfl, hR, hx⟩ hK
    have hc := two_cells hx
    have x0 := hc.1
    have x1 := hc.2.1
    have e0 := hR.d0
    have e1 := hR.d1
    have e2 := hR.d2
    have HR := Lib.hid hR
    have HXX := Lib.hid hx
    clear hc hR hx
    have hl40 : L ≤ 40 := by omega
    gi_wp2_with (refine ⟨trivial, ?_⟩; gi_at_call 38; refine (callsIn_wide.2 (span_any L d F q _ hl2 hA hd)).mono ?_; rintro e w4 ⟨rfl, hb4⟩; have HB4 := Lib.hid hb4; clear hb4)
    have hK2 : w4.heap[D]? = some (.deferred (some [])) := (HB4.out.block D (Array.getElem?_eq_some_iff.1 hK).1).trans hK
    refine ⟨by simp, .inl ⟨_, _, rfl, run_takeDeferred hK2, ?_⟩⟩
    refine ⟨_, results_tmp3 rfl _ _ _, rfl, ?_⟩
    exact (HR.out.keep HB4.out).b.trans (belowK_b (w := W1) (n₀ := W.heap.size) (by have := HR4.out.b.size; omega) w4 D _ _ hD hK2 rfl rfl)
end Go.Proofs.Ythjmiimkplhffaa

/- The law's awake: the document's example. -/
set_option linter.unusedVariables false
set_option linter.unusedSimpArgs false
namespace Go.Proofs.Ythjmiimkplhffaa
open Go.RowKit Go.Maps

/-- where the limit is the number of values, all are in the root -/
theorem only_root {L : Nat} {c : Int → Int} (hg : Good L c) (hs : Still (tot L c) L c) (q : Int) (hq : c q ≠ 0) : q = 1 := by
  have h1 := hg.2 q hq
  refine Classical.byContradiction fun hn => ?_
  have e : (2 : Int) ^ (L + 1) = 2 * 2 ^ L := by rw [Int.pow_succ]; omega
  obtain ⟨d, hd, hA⟩ := at_ex L (q / 2) (by omega) (by omega)
  have hlt := at_le (e := L) hA (by omega)
  refine hs d hd (q / 2) hA ?_
  have k0 := hg.1 (2 * (q / 2)); have k1 := hg.1 (2 * (q / 2) + 1); have k2 := hg.1 q
  have hcl := good_le (good_climb hg (by omega) hlt) (q / 2)
  rw [tot_climb (by omega) hlt] at hcl
  refine ⟨?_, ?_⟩
  · rcases (show q = 2 * (q / 2) ∨ q = 2 * (q / 2) + 1 by omega) with g | g
    · have := congrArg c g; omega
    · have := congrArg c g; omega
  · unfold climbF at hcl
    rw [if_pos rfl] at hcl
    exact hcl
theorem root_ids {L : Nat} {c : Int → Int} (hg : Good L c) (hs : Still (tot L c) L c) (h0 : 0 < tot L c) : idsL L c = [1] ∧ c 1 = tot L c := by
  have e : c = leafF 1 (c 1) := by
    funext q
    unfold leafF
    by_cases g : q = 1
    · rw [if_pos g, g]
    · rw [if_neg g]
      exact Classical.byContradiction fun h => g (only_root hg hs q h)
  have hp : (1 : Int) < 2 ^ (L + 1) := by
    have := pow_le_int (a := 1) (b := L + 1) (by omega)
    omega
  have h1 : tot L c = c 1 := by
    have := tot_leaf (L := L) (l := 1) (m := c 1) (by omega) hp
    rwa [← e] at this
  refine ⟨rise_ext (ids_rise L c) (by simp) (fun x => ?_), h1.symm⟩
  rw [mem_ids hg]
  constructor
  · intro h
    rw [only_root hg hs x h]
    exact List.mem_cons_self
  · intro h
    have : x = 1 := by simpa using h
    rw [this]
    omega

theorem newYes (L : Nat) (F : Int) (W : World) (h : Right L F) : Calls Try.prog 13 #[.int .i64 (L : Int), .int .i64 F] W (fun e w' => ∃ tb, e = .returned (.tuple #[.agg #[.int .i64 (L : Int), .int .i64 F, .pointer (some ⟨tb, 0, none⟩)], .int .i64 0]) ∧ DigM w' tb L F (fun _ => 0) ∧ Below W.heap.size W w') := by
  refine (new_any L F W).mono ?_
  rintro e w' (⟨_, tb, he, hd, hb⟩ | ⟨hn, _⟩)
  · rw [Int.toNat_natCast] at he hd
    exact ⟨tb, he, hd, hb⟩
  · exact absurd h hn
theorem addYes (tb L : Nat) (F : Int) (c : Int → Int) (v m : Int) (W : World) (h : DigM W tb L F c) (hno : AddOk L v m) (hm : m ≤ 1099511627776 - tot L c) :
    Calls Try.prog 25 #[.agg #[.int .i64 (L : Int), .int .i64 F, .pointer (some ⟨tb, 0, none⟩)], .int .i64 v, .int .i64 m] W (fun e w' => ∃ T d, e = .returned (.tuple #[.agg #[.int .i64 (L : Int), .int .i64 F, .pointer (some ⟨T, 0, none⟩)], .int .i64 0]) ∧ DigM w' T L F d ∧ tot L d = tot L c + m ∧ Below W.heap.size W w') :=
  (add_ok tb L F c v m W h hno hm).mono fun e w' ⟨T, d, h1, _, h2, h3, h4, _⟩ => ⟨T, d, h1, h2, h3, h4⟩

theorem row_keep {w w' : World} {B : Nat} {o : Obj} (hb : Below w.heap.size w w') (h : w.heap[B]? = some o) : w'.heap[B]? = some o := (hb.block _ (Array.getElem?_eq_some_iff.1 h).1).trans h

set_option maxRecDepth 100000 in
set_option maxHeartbeats 4000000 in
theorem awake_any (W : World) : Calls Try.prog 12 #[] W (fun e w' => e = .returned (.bool true) ∧ Below W.heap.size W w') := by
  obtain ⟨L, hL⟩ : ∃ L : Nat, L = 2 := ⟨_, rfl⟩
  have hL2 : (2 : Int) ^ L = 4 := by rw [hL]; rfl
  have hnew : Calls Try.prog 13 #[.int .i64 2, .int .i64 1] W (fun e w' => ∃ tb, e = .returned (.tuple #[.agg #[.int .i64 (L : Int), .int .i64 1, .pointer (some ⟨tb, 0, none⟩)], .int .i64 0]) ∧ DigM w' tb L 1 (fun _ => 0) ∧ Below W.heap.size W w') := by
    subst hL
    exact newYes 2 1 W (by unfold Right; omega)
  have HL := Lib.hid hL
  clear hL
  go_enter Try.func12, Try.ntmps12
  go_wp2_with fail
  refine hnew.mono ?_
  rintro e w1 ⟨tb, rfl, hd, hb1⟩
  have A1 : Below w1.heap.size w1 (w1.alloc (.cells #[.int .i64 (L : Int), .int .i64 1, .pointer (some ⟨tb, 0, none⟩)] 28)) := (Below.refl _ _).alloc (Nat.le_refl _) _
  have HD1 := Lib.hid (hd.keep A1)
  have HB1 := Lib.hid (hb1.trans (A1.mono hb1.size))
  clear hnew hd hb1 A1
  go_wp2_with fail
  refine (addYes tb L 1 _ 0 1 _ HD1.out (by unfold AddOk; rw [hL2]; omega) (by rw [tot_zero]; omega)).mono ?_
  rintro e w2 ⟨T1, c1, rfl, hd, ht, hb⟩
  rw [tot_zero] at ht
  have A1 : Below w2.heap.size w2 (w2.alloc (.cells #[.int .i64 (L : Int), .int .i64 1, .pointer (some ⟨T1, 0, none⟩)] 28)) := (Below.refl _ _).alloc (Nat.le_refl _) _
  have HD2 := Lib.hid (hd.keep A1)
  have HB2 := Lib.hid ((HB1.out.trans (hb.mono HB1.out.size)).trans (A1.mono (HB1.out.trans (hb.mono HB1.out.size)).size))
  have HT2 := Lib.hid ht
  clear hd hb A1 ht HB1 HD1
  go_wp2_with fail
  refine (addYes T1 L 1 c1 3 1 _ HD2.out (by unfold AddOk; rw [hL2]; omega) (by rw [HT2.out]; omega)).mono ?_
  rintro e w3 ⟨T2, c2, rfl, hd, ht, hb⟩
  rw [HT2.out] at ht
  have ht2 : tot L c2 = 2 := by rw [ht]; rfl
  have A1 : Below w3.heap.size w3 (w3.alloc (.cells #[.int .i64 (L : Int), .int .i64 1, .pointer (some ⟨T2, 0, none⟩)] 28)) := (Below.refl _ _).alloc (Nat.le_refl _) _
  have hd2 := hd.keep A1
  have HB3 := Lib.hid ((HB2.out.trans (hb.mono HB2.out.size)).trans (A1.mono (HB2.out.trans (hb.mono HB2.out.size)).size))
  have HROW := Lib.hid (cells_new w3 #[.int .i64 (L : Int), .int .i64 1, .pointer (some ⟨T2, 0, none⟩)] 28)
  have hroot : idsL L c2 = [1] ∧ c2 1 = tot L c2 := by
    obtain ⟨mb, _, _, _, _, k1, _, k2⟩ := hd
    have k3 : tot L c2 / 1 = tot L c2 := Int.ediv_one _
    rw [k3] at k2
    exact root_ids k1 k2 (by omega)
  have HROOT := Lib.hid hroot
  have HT3 := Lib.hid ht2
  have HD3 := Lib.hid hd2
  clear hd hb A1 ht hroot hd2 HB2 HD2 HT2
  go_wp2_with fail
  refine (at_one T2 L 0 1 c2 1 _ HD3.out HROOT.out.1 HROOT.out.2 (by unfold At; omega) (by omega) ht2).mono ?_
  rintro e w4 ⟨rfl, hb⟩
  have hlo : lo L 0 1 = 0 := by unfold lo; rw [HL.out]; rfl
  have hhi : hi L 0 1 = 3 := by unfold hi; rw [HL.out]; rfl
  rw [hlo, hhi]
  have HD4 := Lib.hid (HD3.out.keep hb)
  have hR := three_cells (row_keep hb HROW.out)
  have e0 := hR.1
  have e1 := hR.2.1
  have e2 := hR.2.2.1
  have HB4 := Lib.hid (HB3.out.trans (hb.mono HB3.out.size))
  clear hb hR HROW HB3 HD3 hlo hhi
  go_wp2_with fail
  refine (nodesD_any T2 L 1 c2 _ HD4.out).mono ?_
  rintro e w5 ⟨ao, cap, rfl, hcm, hnl, hb⟩
  have hn1 : nodesL L c2 = [(1, 2)] := by unfold nodesL; rw [HROOT.out.1]; simp [HROOT.out.2, HT3.out]
  rw [hn1] at hnl ⊢
  obtain ⟨B, rfl, hn⟩ := hnl.at (by simp)
  have n0 := (hn 0 (by simp)).1
  have n1 := (hn 0 (by simp)).2
  simp at n0 n1
  have HB5 := Lib.hid (HB4.out.trans (hb.mono HB4.out.size))
  clear hb hnl hn e0 e1 e2 HB4 HD4
  simp only [List.length_cons, List.length_nil, Nat.zero_add]
  go_wp2
  go_ret
  exact ⟨rfl, HB5.out⟩
end Go.Proofs.Ythjmiimkplhffaa

/- Merge of what is unusable; the law's same at zero values. -/
set_option linter.unusedVariables false
set_option linter.unusedSimpArgs false
namespace Go.Proofs.Ythjmiimkplhffaa
open Go.RowKit Go.Maps

/-- the zero value of the document's digest -/
def zeroR : Value := .agg #[.int .i64 0, .int .i64 0, .slice none 0 0]
theorem box_below (W : World) (o : Obj) : Below W.heap.size W (W.alloc o) := (Below.refl _ _).alloc (Nat.le_refl _) _

theorem refCount_zero (W : World) : Calls Try.prog 33 #[.agg #[.int .i64 0, .int .i64 0, .slice none 0 0]] W (fun e w' => e = .returned (.int .i64 0) ∧ Below W.heap.size W w') := by
  have HB := Lib.hid (box_below W (.cells #[.int .i64 0, .int .i64 0, .slice none 0 0] 34))
  go_enter Try.func33, Try.ntmps33
  go_wp2
  refine wp_loop_rounds 1 ?_
  rw [rounds_succ]
  go_wp2
  go_ret
  exact ⟨rfl, HB.out⟩

set_option maxRecDepth 100000 in
set_option maxHeartbeats 4000000 in
theorem same_zero (W : World) : Calls Try.prog 15 #[.agg #[.int .i64 0, .int .i64 0, .pointer none], .agg #[.int .i64 0, .int .i64 0, .slice none 0 0]] W (fun e w' => e = .returned (.bool true) ∧ Below W.heap.size W w') := by
  obtain ⟨V, hV⟩ : ∃ V, V = (W.alloc (.cells #[.int .i64 0, .int .i64 0, .pointer none] 28)).alloc (.cells #[.int .i64 0, .int .i64 0, .slice none 0 0] 34) := ⟨_, rfl⟩
  have hb : Below W.heap.size W V := by rw [hV]; exact (box_below W _).alloc (by simp) _
  have r0 : V.heap[W.heap.size]? = some (.cells #[.int .i64 0, .int .i64 0, .pointer none] 28 (0, 0)) := by
    rw [hV, Below.heap_alloc _ _ _ (by simp)]
    exact heap_alloc_new _ _
  have r1 : V.heap[W.heap.size + 1]? = some (.cells #[.int .i64 0, .int .i64 0, .slice none 0 0] 34 (0, 0)) := by
    rw [hV]
    have := heap_alloc_new (W.alloc (.cells #[.int .i64 0, .int .i64 0, .pointer none] 28)) (.cells #[.int .i64 0, .int .i64 0, .slice none 0 0] 34)
    simpa using this
  have h0 := three_cells r0
  have h1 := three_cells r1
  have a0 := h0.1
  have a1 := h0.2.1
  have a2 := h0.2.2.1
  have b0 := h1.1
  have b1 := h1.2.1
  have b2 := h1.2.2.1
  have HB := Lib.hid hb
  have HV := Lib.hid hV
  clear hb hV h0 h1 r0 r1
  go_enter Try.func15, Try.ntmps15
  go_upto_region 1 with fail
  rw [← HV.out]
  go_wp2_with (go_at_call 29; refine (nodes_no _).mono ?_; rintro e w1 ⟨rfl, hb1⟩; have c0 := cell_later hb1 a0; have c1 := cell_later hb1 a1; have c2 := cell_later hb1 a2; have d0 := cell_later hb1 b0; have d1 := cell_later hb1 b1; have d2 := cell_later hb1 b2; have HB1 := Lib.hid (HB.out.trans (hb1.mono HB.out.size)); clear hb1)
  clear a0 a1 a2 b0 b1 b2
  go_region_held3 (fun w' => w'.cell? ⟨W.heap.size, 0, none⟩ = some (.int .i64 0) ∧ w'.cell? ⟨W.heap.size, 1, none⟩ = some (.int .i64 0) ∧ w'.cell? ⟨W.heap.size, 2, none⟩ = some (.pointer none) ∧ w'.cell? ⟨W.heap.size + 1, 0, none⟩ = some (.int .i64 0) ∧ w'.cell? ⟨W.heap.size + 1, 1, none⟩ = some (.int .i64 0) ∧ w'.cell? ⟨W.heap.size + 1, 2, none⟩ = some (.slice none 0 0)) (go_keep)
    (first
      | (go_at_call 31; refine (levels_any 0 0 none _).mono ?_; rintro e w2 ⟨rfl, hb2⟩; have B2 := Lib.hid (below_then (below_drewN (Below.refl w1.heap.size w1) 1) hb2); have f0 := cell_later B2.out c0; have f1 := cell_later B2.out c1; have f2 := cell_later B2.out c2; have f3 := cell_later B2.out d0; have f4 := cell_later B2.out d1; have f5 := cell_later B2.out d2; clear hb2)
      | (go_at_call 32; refine (factor_any 0 0 none _).mono ?_; rintro e w3 ⟨rfl, hb3⟩; have B3 := Lib.hid (below_then B2.out hb3); have g0 := cell_later hb3 f0; have g1 := cell_later hb3 f1; have g2 := cell_later hb3 f2; have g3 := cell_later hb3 f3; have g4 := cell_later hb3 f4; have g5 := cell_later hb3 f5; clear hb3)
      | (go_at_call 28; refine (count_no _).mono ?_; rintro e w4 ⟨rfl, hb4⟩; have B4 := Lib.hid (below_then B3.out hb4); have i0 := cell_later hb4 g0; have i1 := cell_later hb4 g1; have i2 := cell_later hb4 g2; have i3 := cell_later hb4 g3; have i4 := cell_later hb4 g4; have i5 := cell_later hb4 g5; clear hb4)
      | (go_at_call 33; refine (refCount_zero _).mono ?_; rintro e w5 ⟨rfl, hb5⟩; have B5 := Lib.hid (below_then B4.out hb5); have j0 := cell_later hb5 i0; have j1 := cell_later hb5 i1; have j2 := cell_later hb5 i2; have j3 := cell_later hb5 i3; have j4 := cell_later hb5 i4; have j5 := cell_later hb5 i5; clear hb5))
  go_wp2
  refine wp_loop_rounds 1 ?_
  rw [rounds_succ]
  go_wp2
  go_ret
  exact ⟨rfl, HB1.out.trans (B5.out.mono HB1.out.size)⟩

/-- the result is set -/
theorem set_below2 {W w : World} {x y z : Value} (hb : Below W.heap.size W w) : Below W.heap.size W (((w.setCell ⟨W.heap.size + 1 + 1, 0, none⟩ x).setCell ⟨W.heap.size + 1 + 1, 1, none⟩ y).setCell ⟨W.heap.size + 1 + 1, 2, none⟩ z) :=
  ((hb.setCell (p := ⟨W.heap.size + 1 + 1, 0, none⟩) (by simp <;> omega) _).setCell (p := ⟨W.heap.size + 1 + 1, 1, none⟩) (by simp <;> omega) _).setCell (p := ⟨W.heap.size + 1 + 1, 2, none⟩) (by simp <;> omega) _
theorem third_block (W : World) (a b c : Obj) : (((W.alloc a).alloc b).alloc c).heap[W.heap.size + 1 + 1]? = some c := by
  have := heap_alloc_new ((W.alloc a).alloc b) c
  rwa [World.size_alloc, World.size_alloc] at this

set_option maxRecDepth 100000 in
set_option maxHeartbeats 4000000 in
theorem mergeU1 (l f : Int) (p : Option Addr) (W : World) : Calls Try.prog 23 #[zeroD, .agg #[.int .i64 l, .int .i64 f, .pointer p]] W (fun e w' => e = .returned (.tuple #[zeroD, .int .i64 1]) ∧ Below W.heap.size W w') := by
  have HB := Lib.hid (new_below W (.cells #[.int .i64 0, .int .i64 0, .pointer none] 28) (.cells #[.int .i64 l, .int .i64 f, .pointer p] 28) (.cells #[.int .i64 0, .int .i64 0, .pointer none] 28))
  have HD := Lib.hid (third_block W (.cells #[.int .i64 0, .int .i64 0, .pointer none] 28) (.cells #[.int .i64 l, .int .i64 f, .pointer p] 28) (.cells #[.int .i64 0, .int .i64 0, .pointer none] 28))
  unfold zeroD
  go_enter Try.func23, Try.ntmps23
  go_wp2_with (go_at_call 35; refine (usable_no _).mono ?_; rintro e w1 ⟨rfl, hb1⟩; have HB1 := Lib.hid (HB.out.trans (hb1.mono HB.out.size)); have hR := row_keep hb1 HD.out; have hr9 := three_cells hR; have r0 := hr9.1; have r1 := hr9.2.1; have r2 := hr9.2.2.1; have r3 := hr9.2.2.2.1; have r4 := hr9.2.2.2.2.1; have r5 := hr9.2.2.2.2.2; have HR := Lib.hid hR; clear hr9 hR hb1)
  refine bodyPost_ret (v := .tuple #[zeroD, .int .i64 1]) (results_cell_tmp Try.results23 _ _ (W.heap.size + 1 + 1) 28 #[.int .i64 0, .int .i64 0, .pointer none] (0, 0) _ rfl (set_three HR.out) Try.underlying28 (by kernel_rfl) (by kernel_rfl)) rfl ?_
  exact ⟨rfl, set_below2 HB1.out⟩

set_option maxRecDepth 100000 in
set_option maxHeartbeats 4000000 in
theorem mergeU2 (l f : Int) (p : Option Addr) (W : World) (hl : 1 ≤ l) : Calls Try.prog 23 #[.agg #[.int .i64 l, .int .i64 f, .pointer p], zeroD] W (fun e w' => e = .returned (.tuple #[zeroD, .int .i64 1]) ∧ Below W.heap.size W w') := by
  have HB := Lib.hid (new_below W (.cells #[.int .i64 l, .int .i64 f, .pointer p] 28) (.cells #[.int .i64 0, .int .i64 0, .pointer none] 28) (.cells #[.int .i64 0, .int .i64 0, .pointer none] 28))
  have HD := Lib.hid (third_block W (.cells #[.int .i64 l, .int .i64 f, .pointer p] 28) (.cells #[.int .i64 0, .int .i64 0, .pointer none] 28) (.cells #[.int .i64 0, .int .i64 0, .pointer none] 28))
  have HD1 : Hid ((((W.alloc (.cells #[.int .i64 l, .int .i64 f, .pointer p] 28)).alloc (.cells #[.int .i64 0, .int .i64 0, .pointer none] 28)).alloc (.cells #[.int .i64 0, .int .i64 0, .pointer none] 28)).heap[W.heap.size + 1]? = some (.cells #[.int .i64 0, .int .i64 0, .pointer none] 28 (0, 0))) := Lib.hid (by
    rw [Below.heap_alloc _ _ _ (by simp)]
    have := heap_alloc_new (W.alloc (.cells #[.int .i64 l, .int .i64 f, .pointer p] 28)) (.cells #[.int .i64 0, .int .i64 0, .pointer none] 28)
    rwa [World.size_alloc] at this)
  unfold zeroD
  go_enter Try.func23, Try.ntmps23
  go_wp2_with (first
    | (go_at_call 35; have _t := s0; refine (usable_no _).mono ?_; rintro e w2 ⟨rfl, hb2⟩; replace HB1 := Lib.hid (HB1.out.trans (hb2.mono HB1.out.size)); have hR := row_keep hb2 HR.out; have hr9 := three_cells hR; have r0 := hr9.1; have r1 := hr9.2.1; have r2 := hr9.2.2.1; have r3 := hr9.2.2.2.1; have r4 := hr9.2.2.2.2.1; have r5 := hr9.2.2.2.2.2; have HR2 := Lib.hid hR; clear hr9 hR hb2)
    | (go_at_call 35; refine (usable_yes _ _ _ _ hl).mono ?_; rintro e w1 ⟨rfl, hb1⟩; have HB1 := Lib.hid (HB.out.trans (hb1.mono HB.out.size)); have HR := Lib.hid (row_keep hb1 HD.out); have hs9 := three_cells (row_keep hb1 HD1.out); have s0 := hs9.1; have s1 := hs9.2.1; have s2 := hs9.2.2.1; clear hs9 hb1))
  refine bodyPost_ret (v := .tuple #[zeroD, .int .i64 1]) (results_cell_tmp Try.results23 _ _ (W.heap.size + 1 + 1) 28 #[.int .i64 0, .int .i64 0, .pointer none] (0, 0) _ rfl (set_three HR2.out) Try.underlying28 (by kernel_rfl) (by kernel_rfl)) rfl ?_
  exact ⟨rfl, set_below2 HB1.out⟩
end Go.Proofs.Ythjmiimkplhffaa

/- The walk of DigestUnusable. (By gen_unus.py.) -/
set_option linter.unusedVariables false
set_option linter.unusedSimpArgs false
namespace Go.Proofs.Ythjmiimkplhffaa
open Go.RowKit Go.Maps

set_option maxRecDepth 100000 in
set_option maxHeartbeats 8000000 in
theorem unusable_walk (n m : Int) (W : World) : Calls Try.prog 6 #[.int .i64 n, .int .i64 m] W (fun e w' => e = .returned (.bool true) ∧ Below W.heap.size W w') := by
  obtain ⟨L, hL⟩ : ∃ L : Nat, L = 1 := ⟨_, rfl⟩
  have hl : (1 : Int) ≤ (L : Int) := by omega
  obtain ⟨V0, hV0⟩ : ∃ V, V = W.alloc (.cells #[.int .i64 0, .int .i64 0, .pointer none] 28) := ⟨_, rfl⟩
  have HB : Hid (Below W.heap.size W V0) := Lib.hid (by rw [hV0]; exact box_below W _)
  have R5 : Hid (V0.heap[W.heap.size]? = some (.cells #[.int .i64 0, .int .i64 0, .pointer none] 28 (0, 0))) := Lib.hid (by rw [hV0]; exact cells_new W _ _)
  have hnew : Calls Try.prog 13 #[.int .i64 1, .int .i64 1] V0 (fun e w' => ∃ tb, e = .returned (.tuple #[.agg #[.int .i64 (L : Int), .int .i64 1, .pointer (some ⟨tb, 0, none⟩)], .int .i64 0]) ∧ DigM w' tb L 1 (fun _ => 0) ∧ Below V0.heap.size V0 w') := by
    subst hL
    exact newYes 1 1 V0 (by unfold Right; omega)
  have HV0 := Lib.hid hV0
  clear hL hV0
  go_enter Try.func6, Try.ntmps6
  go_upto_region 2 with fail
  rw [← HV0.out]
  go_wp2_with fail
  refine hnew.mono ?_
  rintro e w1 ⟨tb, rfl, _, hb1⟩
  replace HB := Lib.hid (HB.out.trans (hb1.mono HB.out.size))
  replace R5 := Lib.hid (row_keep hb1 R5.out)
  clear hnew hb1 HV0
  go_upto_region 3 with fail
  have K := box_below w1 (.cells #[.int .i64 (L : Int), .int .i64 1, .pointer (some ⟨tb, 0, none⟩)] 28)
  have R6 := Lib.hid (cells_new w1 #[.int .i64 (L : Int), .int .i64 1, .pointer (some ⟨tb, 0, none⟩)] 28)
  replace HB := Lib.hid (HB.out.trans (K.mono HB.out.size))
  replace R5 := Lib.hid (row_keep K R5.out)
  clear K
  generalize w1.alloc (.cells #[.int .i64 (L : Int), .int .i64 1, .pointer (some ⟨tb, 0, none⟩)] 28) = V1 at HB R5 R6 ⊢
  generalize w1.heap.size = B6 at R6 ⊢
  have c5a := (three_cells R5.out).1; have c5b := (three_cells R5.out).2.1; have c5c := (three_cells R5.out).2.2.1
  go_wp2_with fail
  refine (addU_no n m _).mono ?_
  rintro e w2 ⟨rfl, hb1⟩
  unfold zeroD
  clear c5a c5b c5c
  replace HB := Lib.hid (HB.out.trans (hb1.mono HB.out.size))
  replace R5 := Lib.hid (row_keep hb1 R5.out); replace R6 := Lib.hid (row_keep hb1 R6.out)
  clear hb1
  go_upto_region 4 with fail
  have K := box_below w2 (.cells #[.int .i64 0, .int .i64 0, .pointer none] 28)
  have R8 := Lib.hid (cells_new w2 #[.int .i64 0, .int .i64 0, .pointer none] 28)
  replace HB := Lib.hid (HB.out.trans (K.mono HB.out.size))
  replace R5 := Lib.hid (row_keep K R5.out); replace R6 := Lib.hid (row_keep K R6.out)
  clear K
  generalize w2.alloc (.cells #[.int .i64 0, .int .i64 0, .pointer none] 28) = V2 at HB R5 R6 R8 ⊢
  generalize w2.heap.size = B8 at R8 ⊢
  have c5a := (three_cells R5.out).1; have c5b := (three_cells R5.out).2.1; have c5c := (three_cells R5.out).2.2.1
  go_wp2_with fail
  refine (atU_no n _).mono ?_
  rintro e w3 ⟨rfl, hb1⟩
  clear c5a c5b c5c
  replace HB := Lib.hid (HB.out.trans (hb1.mono HB.out.size))
  replace R5 := Lib.hid (row_keep hb1 R5.out); replace R6 := Lib.hid (row_keep hb1 R6.out); replace R8 := Lib.hid (row_keep hb1 R8.out)
  clear hb1
  have c5a := (three_cells R5.out).1; have c5b := (three_cells R5.out).2.1; have c5c := (three_cells R5.out).2.2.1
  go_wp2_with fail
  refine (belowU_no n _).mono ?_
  rintro e w4 ⟨rfl, hb1⟩
  clear c5a c5b c5c
  replace HB := Lib.hid (HB.out.trans (hb1.mono HB.out.size))
  replace R5 := Lib.hid (row_keep hb1 R5.out); replace R6 := Lib.hid (row_keep hb1 R6.out); replace R8 := Lib.hid (row_keep hb1 R8.out)
  clear hb1
  have c5a := (three_cells R5.out).1; have c5b := (three_cells R5.out).2.1; have c5c := (three_cells R5.out).2.2.1
  have c6a := (three_cells R6.out).1; have c6b := (three_cells R6.out).2.1; have c6c := (three_cells R6.out).2.2.1
  go_wp2_with fail
  refine (mergeU1 _ _ _ _).mono ?_
  rintro e w5 ⟨rfl, hb1⟩
  unfold zeroD
  clear c5a c5b c5c c6a c6b c6c
  replace HB := Lib.hid (HB.out.trans (hb1.mono HB.out.size))
  replace R5 := Lib.hid (row_keep hb1 R5.out); replace R6 := Lib.hid (row_keep hb1 R6.out); replace R8 := Lib.hid (row_keep hb1 R8.out)
  clear hb1
  go_upto_region 7 with fail
  have K := box_below w5 (.cells #[.int .i64 0, .int .i64 0, .pointer none] 28)
  have R16 := Lib.hid (cells_new w5 #[.int .i64 0, .int .i64 0, .pointer none] 28)
  replace HB := Lib.hid (HB.out.trans (K.mono HB.out.size))
  replace R5 := Lib.hid (row_keep K R5.out); replace R6 := Lib.hid (row_keep K R6.out); replace R8 := Lib.hid (row_keep K R8.out)
  clear K
  generalize w5.alloc (.cells #[.int .i64 0, .int .i64 0, .pointer none] 28) = V5 at HB R5 R6 R8 R16 ⊢
  generalize w5.heap.size = B16 at R16 ⊢
  have c5a := (three_cells R5.out).1; have c5b := (three_cells R5.out).2.1; have c5c := (three_cells R5.out).2.2.1
  have c6a := (three_cells R6.out).1; have c6b := (three_cells R6.out).2.1; have c6c := (three_cells R6.out).2.2.1
  go_wp2_with fail
  refine (mergeU2 _ _ _ _ hl).mono ?_
  rintro e w6 ⟨rfl, hb1⟩
  unfold zeroD
  clear c5a c5b c5c c6a c6b c6c
  replace HB := Lib.hid (HB.out.trans (hb1.mono HB.out.size))
  replace R5 := Lib.hid (row_keep hb1 R5.out); replace R6 := Lib.hid (row_keep hb1 R6.out); replace R8 := Lib.hid (row_keep hb1 R8.out); replace R16 := Lib.hid (row_keep hb1 R16.out)
  clear hb1
  go_upto_region 8 with fail
  have K := box_below w6 (.cells #[.int .i64 0, .int .i64 0, .pointer none] 28)
  have R18 := Lib.hid (cells_new w6 #[.int .i64 0, .int .i64 0, .pointer none] 28)
  replace HB := Lib.hid (HB.out.trans (K.mono HB.out.size))
  replace R5 := Lib.hid (row_keep K R5.out); replace R6 := Lib.hid (row_keep K R6.out); replace R8 := Lib.hid (row_keep K R8.out); replace R16 := Lib.hid (row_keep K R16.out)
  clear K
  generalize w6.alloc (.cells #[.int .i64 0, .int .i64 0, .pointer none] 28) = V6 at HB R5 R6 R8 R16 R18 ⊢
  generalize w6.heap.size = B18 at R18 ⊢
  have c5a := (three_cells R5.out).1; have c5b := (three_cells R5.out).2.1; have c5c := (three_cells R5.out).2.2.1
  have c8a := (three_cells R8.out).1; have c8b := (three_cells R8.out).2.1; have c8c := (three_cells R8.out).2.2.1
  have c16a := (three_cells R16.out).1; have c16b := (three_cells R16.out).2.1; have c16c := (three_cells R16.out).2.2.1
  have c18a := (three_cells R18.out).1; have c18b := (three_cells R18.out).2.1; have c18c := (three_cells R18.out).2.2.1
  go_wp2_with (first | (go_at_call 15; refine (same_zero _).mono ?_; rintro e w7 ⟨rfl, hb1⟩; clear c5a c5b c5c c8a c8b c8c c16a c16b c16c c18a c18b c18c; replace HB := Lib.hid (HB.out.trans (hb1.mono HB.out.size)); replace R5 := Lib.hid (row_keep hb1 R5.out); replace R8 := Lib.hid (row_keep hb1 R8.out); replace R16 := Lib.hid (row_keep hb1 R16.out); replace R18 := Lib.hid (row_keep hb1 R18.out); clear hb1; have c5a := (three_cells R5.out).1; have c5b := (three_cells R5.out).2.1; have c5c := (three_cells R5.out).2.2.1; have c8a := (three_cells R8.out).1; have c8b := (three_cells R8.out).2.1; have c8c := (three_cells R8.out).2.2.1; have c16a := (three_cells R16.out).1; have c16b := (three_cells R16.out).2.1; have c16c := (three_cells R16.out).2.2.1; have c18a := (three_cells R18.out).1; have c18b := (three_cells R18.out).2.1; have c18c := (three_cells R18.out).2.2.1) | (go_at_call 12; refine (awake_any _).mono ?_; rintro e w8 ⟨rfl, hb1⟩; replace HB := Lib.hid (HB.out.trans (hb1.mono HB.out.size)); clear hb1))
  go_ret
  exact ⟨rfl, HB.out⟩
end Go.Proofs.Ythjmiimkplhffaa

/- An argument that is an integer; a law's end. -/
set_option linter.unusedVariables false
set_option linter.unusedSimpArgs false
namespace Go.Proofs.Ythjmiimkplhffaa
open Go.ChangeShapes Go.WideShapes Go.RowKit Go.Joins

def InWord (z : Int) : Prop := -9223372036854775808 ≤ z ∧ z ≤ 9223372036854775807

set_option maxRecDepth 100000 in
theorem open_int {H : Type} {enc : TypeId × Value → H} {W : World} {v : Value} {d : DataW H} {p : List MemPlace} {base : Nat}
    (hv : Value.okWide Try.prog W .any base 3 v) (h : DataW.Trod enc Try.prog W 0 (fun _ => true) true 3 v d p) : ∃ n, v = .int .i64 n ∧ InWord n := by
  obtain ⟨n, rfl⟩ := okWide_int Try.underlying3 hv
  obtain ⟨fuel, hf⟩ := h
  obtain ⟨m, e0, _, w0⟩ := DataW.trod_int Try.underlying3 hf
  simp [Value.cells] at e0
  subst e0
  exact ⟨n, rfl, bounds_i64 w0⟩

/-- the arguments read on as they did -/
theorem trodAll_below {H : Type} {enc : TypeId × Value → H} {P : Program} (hl : laidOutB P = true) {W W' : World} (hb : Below W.heap.size W W') :
    ∀ {ts : List TypeId} {vs : List Value} {ds : List (DataW H)} {ps : List MemPlace}, (∀ t ∈ ts, P.readableRec t = true ∧ t < P.types.size) →
      DataW.TrodAll enc P W 0 (fun _ => true) true ts vs ds ps → (∀ x ∈ ps, x.block < W.heap.size) → DataW.TrodAll enc P W' 0 (fun b => decide (b < W.heap.size)) true ts vs ds ps
  | [], [], [], _, _, h, _ => h
  | t :: ts, v :: vs, d :: ds, _, ht, ⟨p, q, h1, h2, e⟩, hlt => by
    have h3 := ht t List.mem_cons_self
    exact ⟨p, q, Below.trod hl h3.1 h3.2 h1 hb (fun x hx => hlt x (by rw [e]; exact List.mem_append_left _ hx)),
      trodAll_below hl hb (fun t' ht' => ht t' (List.mem_cons_of_mem _ ht')) h2 (fun x hx => hlt x (by rw [e]; exact List.mem_append_right _ hx)), e⟩
  | [], _ :: _, _, _, _, h, _ => by simp [DataW.TrodAll] at h
  | [], [], _ :: _, _, _, h, _ => by simp [DataW.TrodAll] at h
  | _ :: _, [], _, _, _, h, _ => by simp [DataW.TrodAll] at h
  | _ :: _, _ :: _, [], _, _, h, _ => by simp [DataW.TrodAll] at h

/-- a law's end -/
theorem post_law {P : Program} {H : Type} {enc : TypeId × Value → H} {f : Func} {s : ChangeSpec} {apart fresh handsOn : Bool} {W W' : World} {args : Array Value} {ds : List (DataW H)} {before : List MemPlace} {t : TypeId}
    (hl : laidOutB P = true) (hts : ∀ t ∈ f.params.toList, P.readableRec t = true ∧ t < P.types.size)
    (hW : DataW.Whole enc P f.params.toList s.vars apart W args.toList ds [] before) (hvs : s.vars = []) (hrt : f.resultTypes = #[t]) (hub : P.underlying t = some .bool)
    (hA : DataW.TrodAll enc P W 0 (fun _ => true) true f.params.toList args.toList ds before)
    (hr : (s.fn H ds).results = [.lit (.bool true)]) (ha : (s.fn H ds).args = ds) (hv : (s.fn H ds).vars = []) (hb : Below W.heap.size W W') :
    s.post enc P f apart fresh handsOn false W args (.bool true) W' := by
  have hlt := hW.lt
  refine ⟨ds, [], before, [], before, [], hW, ?_, ?_, ?_, World.keptBut_mono (fun p hp => ⟨hp, ?_⟩) (hb.frame _), fun h => by cases h⟩
  · rw [List.append_nil, hr, hrt]
    exact trodAll_cons_mk (shut_bool hub _) trodAll_mk0
  · rw [List.append_nil, ha]
    exact trodAll_below hl hb hts hA (fun x hx => by simpa using hlt x hx)
  · rw [List.append_nil, hv, hvs]
    rfl
  · exact Or.inr (by simpa using hp)
end Go.Proofs.Ythjmiimkplhffaa
