/- Part 9 of the contracts: DRef4, DRef5, DRef6, DRef7, DLate. -/
import Derived.Deep.QuietTactic
import Derived.BigQuiet
import Derived.Deep.RegionHeld3
import Derived.StillTail
import Derived.Test.YthjmiimkplhffaaPart8

/- The document's pass. -/
set_option linter.unusedVariables false
set_option linter.unusedSimpArgs false
namespace Go.Proofs.Ythjmiimkplhffaa
open Go.RowKit Go.Maps

/-- where a list of nodes comes from -/
def Src (W : World) (ao0 ao : Option Addr) : Prop := ao = ao0 ∨ ∀ b, ao = some ⟨b, 0, none⟩ → W.heap.size ≤ b
theorem Nl.only {w w' : World} {P : Nat → Prop} {ao : Option Addr} {n : Nat} {xs : List (Int × Int)} (h : Nl w ao n xs) (ho : Only P w w') (hp : 0 < n → ∀ b, ao = some ⟨b, 0, none⟩ → ¬ P b) : Nl w' ao n xs := by
  obtain ⟨h1, b, h2, h3⟩ := h
  exact ⟨h1, b, h2, fun i hi => ⟨ho.cell (h3 i hi).1 (hp (by omega) b (h2 (by omega))), ho.cell (h3 i hi).2 (hp (by omega) b (h2 (by omega)))⟩⟩
/-- a digest of the document's in the box B, and the cell of the result behind it -/
structure PI (W wr : World) (B L : Nat) (F : Int) (ao0 ao : Option Addr) (n cap : Nat) (c : Int → Int) : Prop where
  box : wr.heap[B]? = some (.cells #[.int .i64 (L : Int), .int .i64 F, .slice ao n cap] 34 (0, 0))
  res : wr.heap[B + 1]? = some (.cells #[.int .i64 0, .int .i64 0, .slice none 0 0] 34 (0, 0))
  doc : DocM wr ao n L c
  b : Below W.heap.size W wr
  le : W.heap.size ≤ B
  apart : ∀ b, ao = some ⟨b, 0, none⟩ → b ≠ B ∧ b ≠ B + 1
  src : Src W ao0 ao
theorem PI.keep {W w w' : World} {B L n cap : Nat} {F : Int} {ao0 ao : Option Addr} {c : Int → Int} (h : PI W w B L F ao0 ao n cap c) (hb : Below w.heap.size w w') : PI W w' B L F ao0 ao n cap c :=
  ⟨row_keep hb h.box, row_keep hb h.res, h.doc.keep hb, below_then h.b hb, h.le, h.apart, h.src⟩
theorem set3_only (w : World) (B : Nat) (x y z : Value) : Only (fun i => i = B) w (((w.setCell ⟨B, 0, none⟩ x).setCell ⟨B, 1, none⟩ y).setCell ⟨B, 2, none⟩ z) := ((Only.setCell w ⟨B, 0, none⟩ _).trans (Only.setCell _ ⟨B, 1, none⟩ _)).trans (Only.setCell _ ⟨B, 2, none⟩ _)
theorem only_below {W w w' : World} {B : Nat} (h : Below W.heap.size W w) (ho : Only (fun i => i = B) w w') (hB : W.heap.size ≤ B) : Below W.heap.size W w' := by
  have e2 : Only (fun i => W.heap.size ≤ i) W w := ⟨h.os, h.tape, h.output, h.size, fun i hi _ => h.block i hi⟩
  have e3 := e2.trans (ho.mono (R := fun i => W.heap.size ≤ i) (fun i hi => by show W.heap.size ≤ i; omega))
  exact e3.below (fun i hi => hi)
theorem PI.put {W w w' : World} {B L n cap n' cap' : Nat} {F : Int} {ao0 ao ao' : Option Addr} {c c' : Int → Int} (h : PI W w B L F ao0 ao n cap c) (hb : Below w.heap.size w w') (hd : DocM w' ao' n' L c') (hf : ∀ b, ao' = some ⟨b, 0, none⟩ → w.heap.size ≤ b) :
    PI W (((w'.setCell ⟨B, 0, none⟩ (.int .i64 (L : Int))).setCell ⟨B, 1, none⟩ (.int .i64 F)).setCell ⟨B, 2, none⟩ (.slice ao' n' cap')) B L F ao0 ao' n' cap' c' := by
  have ho := set3_only w' B (.int .i64 (L : Int)) (.int .i64 F) (.slice ao' n' cap')
  have hk := h.keep hb
  have l1 := (Array.getElem?_eq_some_iff.1 h.box).1
  have l2 := (Array.getElem?_eq_some_iff.1 h.res).1
  have l3 := (Array.getElem?_eq_some_iff.1 hk.res).1
  have hap : ∀ b, ao' = some ⟨b, 0, none⟩ → b ≠ B ∧ b ≠ B + 1 := fun b hb2 => by have := hf b hb2; omega
  refine ⟨set_three hk.box, (ho.block _ l3 (by show ¬ (B + 1 = B); omega)).trans hk.res, ⟨hd.1, ⟨hd.2.1.1.only ho (fun _ b hb2 => (hap b hb2).1), fun b e => Nat.lt_of_lt_of_le (hd.2.1.2 b e) ho.size⟩, hd.2.2⟩, only_below hk.b ho h.le, h.le, hap, .inr (fun b hb2 => ?_)⟩
  have := hf b hb2
  have := h.b.size
  omega

/-- a list of integers that lies apart from the box B -/
structure RowI (w : World) (ao : Option Addr) (m : Nat) (ps : List Int) (B : Nat) : Prop where
  len : ps.length = m
  cells : 0 < m → ∃ b, ao = some ⟨b, 0, none⟩ ∧ b ≠ B ∧ ∀ i, i < m → w.cell? ⟨b, i, none⟩ = some (.int .i64 (ps[i]?.getD 0))
theorem RowI.only {w w' : World} {ao : Option Addr} {m B : Nat} {ps : List Int} (h : RowI w ao m ps B) (ho : Only (fun i => i = B) w w') : RowI w' ao m ps B :=
  ⟨h.len, fun hm => by obtain ⟨b, h1, h2, h3⟩ := h.cells hm; exact ⟨b, h1, h2, fun i hi => ho.cell (h3 i hi) h2⟩⟩
theorem RowI.keep {w w' : World} {ao : Option Addr} {m B : Nat} {ps : List Int} (h : RowI w ao m ps B) (hb : Below w.heap.size w w') : RowI w' ao m ps B :=
  ⟨h.len, fun hm => by obtain ⟨b, h1, h2, h3⟩ := h.cells hm; exact ⟨b, h1, h2, fun i hi => cell_later hb (h3 i hi)⟩⟩
theorem ownI_keep {w w' : World} {base e n : Nat} {v : Value} {xs : List Int} (h : OwnI w base e v n xs) (hb : Below w.heap.size w w') : OwnI w' base e v n xs := h.block (fun g hg => hb.block g (h.blt hg))

/-- in the middle of a pass -/
def PassM (t : Int) (L : Nat) (c : Int → Int) (d : Nat) (cc : Int → Int) (chg : Bool) : Prop := passF t L c = passF t d cc ∧ (moved t L c ↔ (chg = true ∨ moved t d cc)) ∧ tot L cc = tot L c
theorem PassM.next {t : Int} {L e : Nat} {c cc : Int → Int} {chg ch2 : Bool} {ps : List Int} (h : PassM t L c (e + 1) cc chg) (hg : Good L cc) (he : e < L) (hp : ParOk e (idsL L cc) ps) (hc : ch2 = true ↔ (chg = true ∨ ∃ p ∈ ps, can t cc p)) : PassM t L c e (foldF t cc ps) ch2 := by
  obtain ⟨h1, h2, h3⟩ := h
  obtain ⟨l1, l2⟩ := pass_level (t := t) hg hp
  refine ⟨by rw [h1, l1]; rfl, ?_, by rw [(fold_good hg he (fun p hx => (hp.at_ p hx).1)).2, h3]⟩
  rw [h2, hc, l2, l1, or_assoc]
  exact Iff.rfl

/-- what a pass returns -/
def PassPost (L : Nat) (F t : Int) (ao0 : Option Addr) (W : World) (c : Int → Int) (e : Ending) (w' : World) : Prop :=
  ∃ ao n cap b, e = .returned (.tuple #[.agg #[.int .i64 (L : Int), .int .i64 F, .slice ao n cap], .bool b]) ∧ DocM w' ao n L (passF t L c) ∧ (b = true ↔ moved t L c) ∧ tot L (passF t L c) = tot L c ∧ Src W ao0 ao ∧ Below W.heap.size W w'
theorem PI.done {W w : World} {B L n cap : Nat} {F t : Int} {ao0 ao : Option Addr} {c cc : Int → Int} {chg : Bool} (h : PI W w B L F ao0 ao n cap cc) (hm : PassM t L c 0 cc chg) :
    PassPost L F t ao0 W c (.returned (.tuple #[.agg #[.int .i64 (L : Int), .int .i64 F, .slice ao n cap], .bool chg])) (((w.setCell ⟨B + 1, 0, none⟩ (.int .i64 (L : Int))).setCell ⟨B + 1, 1, none⟩ (.int .i64 F)).setCell ⟨B + 1, 2, none⟩ (.slice ao n cap)) := by
  have ho := set3_only w (B + 1) (.int .i64 (L : Int)) (.int .i64 F) (.slice ao n cap)
  obtain ⟨h1, h2, h3⟩ := hm
  have e : passF t L c = cc := h1
  refine ⟨ao, n, cap, chg, rfl, ?_, ?_, by rw [e, h3], h.src, only_below h.b ho (by have := h.le; omega)⟩
  · rw [e]; exact ⟨h.doc.1, ⟨h.doc.2.1.1.only ho (fun h0 b hb2 => (h.apart b hb2).2), fun b e => Nat.lt_of_lt_of_le (h.doc.2.1.2 b e) ho.size⟩, h.doc.2.2⟩
  · rw [h2]
    constructor
    · intro g; exact .inl g
    · rintro (g | g)
      · exact g
      · exact g.elim
theorem last_get (ps : List Int) (h : 0 < ps.length) : ps.getLast?.getD 0 = ps[ps.length - 1]?.getD 0 := by rw [List.getLast?_eq_getElem?]
end Go.Proofs.Ythjmiimkplhffaa

/- The document's pass, walked. (By gen_pass.py.) -/
set_option linter.unusedVariables false
set_option linter.unusedSimpArgs false
namespace Go.Proofs.Ythjmiimkplhffaa
open Go.RowKit Go.Maps

theorem step_no {lo hi q : Int} {ps : List Int} (h : ¬ (lo ≤ q ∧ q < hi ∧ (ps = [] ∨ ps.getLast?.getD 0 ≠ q / 2))) : ps = stepP lo hi ps q := by unfold stepP; rw [if_neg h]
theorem step_yes {lo hi q : Int} {ps : List Int} (h : lo ≤ q ∧ q < hi ∧ (ps = [] ∨ ps.getLast?.getD 0 ≠ q / 2)) : ps ++ [q / 2] = stepP lo hi ps q := by unfold stepP; rw [if_pos h]

set_option maxRecDepth 100000 in
set_option maxHeartbeats 16000000 in
theorem docPass (ao : Option Addr) (n cap L : Nat) (F t : Int) (c : Int → Int) (W : World) (h : DocM W ao n L c) (ht : tot L c ≤ 1099511627776) (h0 : 0 ≤ t) (h1 : t ≤ 1099511627776) :
    Calls Try.prog 64 #[.agg #[.int .i64 (L : Int), .int .i64 F, .slice ao n cap], .int .i64 t] W (PassPost L F t ao W c) := by
  have hL1 : 1 ≤ L := h.2.2.2.1
  have hL2 : L ≤ 20 := h.2.2.2.2
  obtain ⟨t1, t2, t3, t4⟩ := two_blocks W (.cells #[.int .i64 (L : Int), .int .i64 F, .slice ao n cap] 34) (.cells #[.int .i64 0, .int .i64 0, .slice none 0 0] 34)
  have HP0 : Hid (PI W ((W.alloc (.cells #[.int .i64 (L : Int), .int .i64 F, .slice ao n cap] 34)).alloc (.cells #[.int .i64 0, .int .i64 0, .slice none 0 0] 34)) W.heap.size L F ao ao n cap c) :=
    Lib.hid ⟨t2, t3, h.keep t1, t1, Nat.le_refl _, fun b hb => by have := h.2.1.2 b hb; omega, .inl rfl⟩
  clear t1 t2 t3 t4 h
  go_enter Try.func64, Try.ntmps64
  go_upto_region 1 with fail
  generalize (W.alloc (.cells #[.int .i64 (L : Int), .int .i64 F, .slice ao n cap] 34)).alloc (.cells #[.int .i64 0, .int .i64 0, .slice none 0 0] 34) = V at HP0 ⊢
  generalize W.heap.size = B at HP0 ⊢
  have r0 := (three_cells HP0.out.box).1
  go_wp2_with fail
  clear r0
  go_loopg [6, 7] (L + 1) (fun g t6 t7 wr => ∃ (d : Nat) (kk : Int) (chg : Bool) (cc : Int → Int) (ao1 : Option Addr) (n1 cap1 : Nat), t6 = .bool chg ∧ t7 = .int .i64 kk ∧ Hid (kk = d) ∧ 0 ≤ kk ∧ kk ≤ 20 ∧ d ≤ L ∧ d + 1 = g ∧ Hid (PI W wr B L F ao ao1 n1 cap1 cc) ∧ Hid (PassM t L c d cc chg))
  case atStart => exact ⟨L, (L : Int), false, c, ao, n, cap, rfl, rfl, Lib.hid rfl, by omega, by omega, by omega, rfl, HP0, Lib.hid ⟨rfl, by simp, rfl⟩⟩
  case round =>
    obtain ⟨d, kk, chg, cc, ao1, n1, cap1, rfl, rfl, HKK, hk0, hk20, hd, hg, HP, HM⟩ := hrel
    obtain ⟨G, hG⟩ : ∃ G, G = gk := ⟨gk, rfl⟩
    rw [← hG] at hg
    have HG := Lib.hid hG
    clear hG
    obtain ⟨W1, hW1⟩ : ∃ w, w = wr := ⟨wr, rfl⟩
    subst hW1
    obtain ⟨r0, r1, r2, f0, f1, f2⟩ := three_cells HP.out.box
    by_cases hd0 : d = 0
    · obtain ⟨y0, y1, y2, z0, z1, z2⟩ := three_cells HP.out.res
      have hkz : kk = 0 := by have := HKK.out; omega
      have hkn : decide (1 ≤ kk) = false := by simp; omega
      have HD := Lib.hid (HP.out.done (hd0 ▸ HM.out))
      clear hkz
      go_wp2_with fail
      exact bodyPost_ret (v := .tuple #[.agg #[.int .i64 (L : Int), .int .i64 F, .slice ao1 n1 cap1], .bool chg]) (results_cell_tmp Try.results64 _ _ (B + 1) 34 #[.int .i64 (L : Int), .int .i64 F, .slice ao1 n1 cap1] (0, 0) _ rfl (set_three HP.out.res) Try.underlying34 (by kernel_rfl) (by kernel_rfl)) rfl HD.out
    · obtain ⟨e, rfl⟩ : ∃ e, d = e + 1 := ⟨d - 1, by omega⟩
      have hk1 : 1 ≤ kk := by have := HKK.out; omega
      have hk2 : decide (1 ≤ kk) = true := by simpa using hk1
      have hkw : IntKind.i64.wrap (kk + 1) = kk + 1 := IntWalk.i64_in _ (by omega)
      have HKT : Hid (kk.toNat = e + 1 ∧ (kk + 1).toNat = e + 1 + 1) := Lib.hid (by have := HKK.out; omega)
      obtain ⟨lo, hlo⟩ : ∃ lo : Int, lo = 2 ^ (e + 1) := ⟨_, rfl⟩
      obtain ⟨hi, hhi⟩ : ∃ hi : Int, hi = 2 ^ (e + 1 + 1) := ⟨_, rfl⟩
      have POW1 : Hid (∀ w, Calls Try.prog 58 #[.int .i64 kk] w (fun e w' => e = .returned (.int .i64 lo) ∧ w' = w)) := Lib.hid (fun w => by
        have := power_int kk w hk0 (by omega)
        rw [HKT.out.1, ← hlo] at this
        exact this)
      have POW2 : Hid (∀ w, Calls Try.prog 58 #[.int .i64 (kk + 1)] w (fun e w' => e = .returned (.int .i64 hi) ∧ w' = w)) := Lib.hid (fun w => by
        have := power_int (kk + 1) w (by omega) (by omega)
        rw [HKT.out.2, ← hhi] at this
        exact this)
      have HLO := Lib.hid hlo
      have HHI := Lib.hid hhi
      clear hlo hhi
      have hn1 : n1 ≤ 2097152 := HP.out.doc.len
      have HN := Lib.hid HP.out.doc.2.1.1
      have HQ : Hid (∀ i, i < n1 → ((nodesL L cc)[i]?.getD (0, 0)).1 = (idsL L cc)[i]?.getD 0 ∧ (idsL L cc).take (i + 1) = (idsL L cc).take i ++ [(idsL L cc)[i]?.getD 0] ∧ 1 ≤ (idsL L cc)[i]?.getD 0 ∧ (idsL L cc)[i]?.getD 0 ≤ 4194304) := Lib.hid (fun i hi => by
        have hl : (idsL L cc).length = n1 := by have := HP.out.doc.1; unfold nodesL at this; simpa using this
        have hi2 : i < (idsL L cc).length := by omega
        have hm : (idsL L cc)[i]?.getD 0 ∈ idsL L cc := by simp [hi2]
        have h5 := HP.out.doc.2.2.1.2 _ ((mem_ids HP.out.doc.2.2.1 _).1 hm)
        have h6 := SZ_cast L
        have h7 := sz_le hL2
        refine ⟨by unfold nodesL; simp [hi2], ?_, by omega, by omega⟩
        rw [List.getElem?_eq_getElem hi2]
        exact (List.take_append_getElem hi2).symm)
      have HPO : Hid (ParOk e (idsL L cc) (parL lo hi (idsL L cc))) := Lib.hid (by rw [HLO.out, HHI.out]; exact par_ok e _ (ids_rise L cc))
      have HLQ : Hid ((idsL L cc).length = n1) := Lib.hid (by have := HP.out.doc.1; unfold nodesL at this; simpa using this)
      have hdL : e < L := by omega
      obtain ⟨qs, hqs⟩ : ∃ qs, qs = idsL L cc := ⟨_, rfl⟩
      rw [← hqs] at HQ HPO HLQ
      have HQS := Lib.hid hqs
      clear hqs hd0
      go_wp2_with fail
      go_loopg [8, 9] (n1 + 1) (fun g t8 t9 wr => ∃ (i : Nat) (ps : List Int), t9 = .int .i64 (i : Int) ∧ i ≤ n1 ∧ i + g = n1 + 1 ∧ Hid (ps = parL lo hi (qs.take i)) ∧ Hid (OwnI wr W1.heap.size 3 t8 ps.length ps) ∧ Hid (Below W1.heap.size W1 wr))
      case atStart => exact ⟨0, [], rfl, by omega, by omega, Lib.hid rfl, Lib.hid (OwnI.nil _ _ _), Lib.hid (Below.refl _ _)⟩
      case round =>
        obtain ⟨i, ps, rfl, hi9, hg2, HPS, HO, HB1⟩ := hrel
        by_cases hlt : i < n1
        · obtain ⟨b, rfl, hnn⟩ := HN.out.at (by omega)
          have q0 := cell_later HB1.out (hnn i hlt).1
          have hr2 := cell_later HB1.out r2
          obtain ⟨k1, k2, k3, k4⟩ := HQ.out i hlt
          rw [k1] at q0
          have HX : Hid (parL lo hi (qs.take (i + 1)) = stepP lo hi ps (qs[i]?.getD 0)) := Lib.hid (by rw [k2, parL_snoc, HPS.out])
          have HPS2 : Hid (ps.length ≤ n1) := Lib.hid (by
            have g1 := parL_len lo hi (qs.take i)
            have g2 := HPS.out
            rw [List.length_take] at g1
            rw [← g2] at g1
            omega)
          generalize qs[i]?.getD 0 = q at q0 k3 k4 HX
          clear hnn k1 k2
          have hqq : IntKind.i64.wrap (q.tdiv 2) = q / 2 := IntWalk.i64_quo _ _ (by omega)
          have hil : (i : Int) < (n1 : Int) := by omega
          by_cases g1 : lo ≤ q
          · have d1 : decide (lo ≤ q) = true := by simpa using g1
            by_cases g2 : q < hi
            · have d2 : decide (q < hi) = true := by simpa using g2
              obtain ⟨hpl, ao3, cap3, rfl, hc3⟩ := own_ints HO.out
              have hmb := HPS2.out
              generalize hm : ps.length = m at HO hpl hc3 hmb ⊢
              have HPL := Lib.hid hm
              clear hm hpl
              by_cases g3 : m = 0
              · have hp0 : ps = [] := List.eq_nil_of_length_eq_zero (by rw [HPL.out]; exact g3)
                have HYS : Hid (ps ++ [q / 2] = stepP lo hi ps q) := Lib.hid (step_yes ⟨g1, g2, .inl hp0⟩)
                have d3 : ((m : Int) == 0) = true := by simpa using g3
                clear hc3 hp0
                have HG3 := Lib.hid g3
                clear g3
                go_upto_region 10 with fail
                go_quiet ((first | (go_at_call 58; with_reducible exact Calls.quiet_of_same (POW1.out _)) | (go_at_call 58; with_reducible exact Calls.quiet_of_same (POW2.out _))))
                go_wp2_with (at_builtin; refine wpList_appZ rfl (.tmp 70) (.tmp 72) rfl _ W1.heap.size _ m ps (q / 2) rfl rfl (ownI_keep HO.out (below_drewN (Below.refl _ _) _)) rfl (by omega) (below_drewN HB1.out _).size ?_; intro g cap w4 hown hb4; have HOW := Lib.hid hown; have HB4 := Lib.hid ((below_drewN HB1.out _).trans hb4); clear hown hb4)
                go_roundg (gk - 1)
                case measure => omega
                case rel => exact ⟨i + 1, ps ++ [q / 2], by go_num, by omega, by omega, Lib.hid (by rw [HX.out]; exact HYS.out), Lib.hid (by rw [List.length_append, HPL.out]; exact HOW.out), HB4⟩
              · obtain ⟨b3, rfl, hcl⟩ := hc3 (by omega)
                have p3 := hcl (m - 1) (by omega)
                have HLA : Hid (ps.getLast?.getD 0 = ps[m - 1]?.getD 0) := Lib.hid (by rw [last_get ps (by rw [HPL.out]; omega), HPL.out])
                have hne : ps ≠ [] := fun hx => by have g := HPL.out; rw [hx] at g; simp at g; omega
                generalize ps[m - 1]?.getD 0 = y at p3 HLA
                have d3 : ((m : Int) == 0) = false := by simp; omega
                have w1 : IntKind.i64.wrap ((m : Int) - 1) = (m : Int) - 1 := IntWalk.i64_in _ (by omega)
                have w2 : (0 : Int) ≤ (m : Int) - 1 := by omega
                have w3 : ((m : Int) - 1).toNat = m - 1 := by omega
                have w4 : (m : Int) - 1 < (m : Int) := by omega
                clear hcl hc3
                by_cases g4 : y = q / 2
                · have HNO : Hid (ps = stepP lo hi ps q) := Lib.hid (step_no (fun g => by rcases g.2.2 with k | k; exact hne k; exact k (by rw [HLA.out, g4])))
                  have d4 : ((y : Int) != q / 2) = false := by simpa using g4
                  have d5 : ((y : Int) == q / 2) = true := by simpa using g4
                  have HG4 := Lib.hid g4
                  clear g4 hne
                  go_upto_region 10 with fail
                  go_quiet ((first | (go_at_call 58; with_reducible exact Calls.quiet_of_same (POW1.out _)) | (go_at_call 58; with_reducible exact Calls.quiet_of_same (POW2.out _))))
                  go_wp2_with fail
                  go_roundg (gk - 1)
                  case measure => omega
                  case rel => exact ⟨i + 1, ps, by go_num, by omega, by omega, Lib.hid (by rw [HX.out]; exact HNO.out), Lib.hid (by first | exact ownI_keep HO.out (below_drewN (Below.refl _ _) _) | (rw [HPL.out]; exact ownI_keep HO.out (below_drewN (Below.refl _ _) _))), Lib.hid (below_drewN HB1.out _)⟩
                · have HYS : Hid (ps ++ [q / 2] = stepP lo hi ps q) := Lib.hid (step_yes ⟨g1, g2, .inr (by rw [HLA.out]; exact g4)⟩)
                  have d4 : ((y : Int) != q / 2) = true := by simpa using g4
                  have d5 : ((y : Int) == q / 2) = false := by simpa using g4
                  clear hne
                  go_upto_region 10 with fail
                  go_quiet ((first | (go_at_call 58; with_reducible exact Calls.quiet_of_same (POW1.out _)) | (go_at_call 58; with_reducible exact Calls.quiet_of_same (POW2.out _))))
                  go_wp2_with (at_builtin; refine wpList_appZ rfl (.tmp 70) (.tmp 72) rfl _ W1.heap.size _ m ps (q / 2) rfl rfl (ownI_keep HO.out (below_drewN (Below.refl _ _) _)) rfl (by omega) (below_drewN HB1.out _).size ?_; intro g cap w4 hown hb4; have HOW := Lib.hid hown; have HB4 := Lib.hid ((below_drewN HB1.out _).trans hb4); clear hown hb4)
                  go_roundg (gk - 1)
                  case measure => omega
                  case rel => exact ⟨i + 1, ps ++ [q / 2], by go_num, by omega, by omega, Lib.hid (by rw [HX.out]; exact HYS.out), Lib.hid (by rw [List.length_append, HPL.out]; exact HOW.out), HB4⟩
            · have HNO : Hid (ps = stepP lo hi ps q) := Lib.hid (step_no (fun g => g2 g.2.1))
              have d2 : decide (q < hi) = false := by simpa using g2
              go_upto_region 10 with fail
              go_quiet ((first | (go_at_call 58; with_reducible exact Calls.quiet_of_same (POW1.out _)) | (go_at_call 58; with_reducible exact Calls.quiet_of_same (POW2.out _))))
              go_wp2_with fail
              go_roundg (gk - 1)
              case measure => omega
              case rel => exact ⟨i + 1, ps, by go_num, by omega, by omega, Lib.hid (by rw [HX.out]; exact HNO.out), Lib.hid (by first | exact ownI_keep HO.out (below_drewN (Below.refl _ _) _) | (rw [HPL.out]; exact ownI_keep HO.out (below_drewN (Below.refl _ _) _))), Lib.hid (below_drewN HB1.out _)⟩
          · have HNO : Hid (ps = stepP lo hi ps q) := Lib.hid (step_no (fun g => g1 g.1))
            have d1 : decide (lo ≤ q) = false := by simpa using g1
            go_upto_region 10 with fail
            go_quiet ((first | (go_at_call 58; with_reducible exact Calls.quiet_of_same (POW1.out _)) | (go_at_call 58; with_reducible exact Calls.quiet_of_same (POW2.out _))))
            go_wp2_with fail
            go_roundg (gk - 1)
            case measure => omega
            case rel => exact ⟨i + 1, ps, by go_num, by omega, by omega, Lib.hid (by rw [HX.out]; exact HNO.out), Lib.hid (by first | exact ownI_keep HO.out (below_drewN (Below.refl _ _) _) | (rw [HPL.out]; exact ownI_keep HO.out (below_drewN (Below.refl _ _) _))), Lib.hid (below_drewN HB1.out _)⟩
        · obtain rfl : i = n1 := by omega
          rw [List.take_of_length_le (by rw [HLQ.out]; exact Nat.le_refl _)] at HPS
          have HPP : Hid (ParOk e (idsL L cc) ps) := Lib.hid (by have g := HPO.out; rw [← HPS.out, HQS.out] at g; exact g)
          obtain ⟨hpl, ao3, cap3, rfl, hc3⟩ := own_ints HO.out
          have hmb : ps.length ≤ i := by
            have g1 := parL_len lo hi qs
            have g2 := HPS.out
            rw [← g2, HLQ.out] at g1
            exact g1
          have HBS : Hid (B < W1.heap.size) := Lib.hid (Array.getElem?_eq_some_iff.1 HP.out.box).1
          have HRI : Hid (RowI wr ao3 ps.length ps B) := Lib.hid ⟨rfl, fun hm => by
            obtain ⟨b3, rfl, hcl⟩ := hc3 hm
            refine ⟨b3, rfl, ?_, hcl⟩
            have h9 : W1.heap.size ≤ b3 := (own_cells (show wr.ownsRow W1.heap.size 3 1 _ ps.length (ps.map fun z => Value.int .i64 z) from HO.out) rfl).1
            have := HBS.out
            omega⟩
          have HP2 := Lib.hid (HP.out.keep HB1.out)
          have hr2 := cell_later HB1.out r2
          have HGC : Hid (Good L cc) := Lib.hid HP.out.doc.2.2.1
          generalize hm : ps.length = m at HRI hmb ⊢
          have HPL := Lib.hid hm
          clear hm hpl hc3 r0 r1 r2 f0 f1 f2 HO HPS HPO HLQ HQ HN POW1 POW2 HKT HLO HHI HQS HP HB1 HBS
          have hmb2 : m ≤ 2097152 := by omega
          go_wp2_with fail
          go_loopg [6, 11] (m + 1) (fun g t6 t11 wr => ∃ (j : Nat) (ch2 : Bool) (ao2 : Option Addr) (n2 cap2 : Nat), t6 = .bool ch2 ∧ t11 = .int .i64 (j : Int) ∧ j ≤ m ∧ j + g = m + 1 ∧ Hid (PI W wr B L F ao ao2 n2 cap2 (foldF t cc (ps.take j))) ∧ Hid (RowI wr ao3 m ps B) ∧ Hid (ch2 = true ↔ (chg = true ∨ ∃ p ∈ ps.take j, can t cc p)))
          case atStart => exact ⟨0, chg, ao1, i, cap1, rfl, rfl, by omega, by omega, HP2, HRI, Lib.hid (by simp)⟩
          case round =>
            clear HP2 HRI
            obtain ⟨j, ch2, ao2, n2, cap2, rfl, rfl, hj, hg3, HP, HRI, HC⟩ := hrel
            obtain ⟨W3, hW3⟩ : ∃ w, w = wr := ⟨wr, rfl⟩
            subst hW3
            obtain ⟨r0, r1, r2, f0, f1, f2⟩ := three_cells HP.out.box
            by_cases hlt : j < m
            · obtain ⟨b3, rfl, hb3, hcl⟩ := HRI.out.cells (by omega)
              have q0 := hcl j hlt
              obtain ⟨p1, p2, p3, p4, p5⟩ := pass_here (t := t) HGC.out hdL HPP.out (j := j) (by rw [HPL.out]; exact hlt)
              have hcnt : ∀ q, 0 ≤ foldF t cc (ps.take j) q ∧ foldF t cc (ps.take j) q ≤ 1099511627776 := fun q => by
                have g1 := count_le HP.out.doc.2.2.1 q
                have g2 := (fold_good (t := t) HGC.out hdL (ps := ps.take j) (fun p hx => (HPP.out.at_ p (List.mem_of_mem_take hx)).1)).2
                have g3 := HM.out.2.2
                omega
              have p6 : ps[j]?.getD 0 ≤ 2097152 := by
                have h6 := SZ_cast L
                have h7 := sz_le hL2
                omega
              generalize ps[j]?.getD 0 = p at q0 p1 p2 p3 p4 p5 p6
              generalize foldF t cc (ps.take j) = cj at HP p4 p5 hcnt
              have P4 := Lib.hid p4
              have P5 := Lib.hid p5
              obtain ⟨n0, n0'⟩ := hcnt p
              obtain ⟨n1, n1'⟩ := hcnt (2 * p)
              obtain ⟨n2', n2''⟩ := hcnt (2 * p + 1)
              have AT0 : Hid (∀ w', Below W3.heap.size W3 w' → Calls Try.prog 47 #[.agg #[.int .i64 (L : Int), .int .i64 F, .slice ao2 n2 cap2], .int .i64 (p)] w' (fun e w'' => e = .returned (.int .i64 (cj (p))) ∧ Below w'.heap.size w' w'')) := Lib.hid (fun w' hb => docAt ao2 n2 cap2 L _ _ cj _ w' (HP.out.doc.keep hb))
              have AT1 : Hid (∀ w', Below W3.heap.size W3 w' → Calls Try.prog 47 #[.agg #[.int .i64 (L : Int), .int .i64 F, .slice ao2 n2 cap2], .int .i64 (2 * p)] w' (fun e w'' => e = .returned (.int .i64 (cj (2 * p))) ∧ Below w'.heap.size w' w'')) := Lib.hid (fun w' hb => docAt ao2 n2 cap2 L _ _ cj _ w' (HP.out.doc.keep hb))
              have AT2 : Hid (∀ w', Below W3.heap.size W3 w' → Calls Try.prog 47 #[.agg #[.int .i64 (L : Int), .int .i64 F, .slice ao2 n2 cap2], .int .i64 (2 * p + 1)] w' (fun e w'' => e = .returned (.int .i64 (cj (2 * p + 1))) ∧ Below w'.heap.size w' w'')) := Lib.hid (fun w' hb => docAt ao2 n2 cap2 L _ _ cj _ w' (HP.out.doc.keep hb))
              have HU : Hid (updI (updI (updI cj (2 * p) 0) (2 * p + 1) 0) p (cj p + cj (2 * p) + cj (2 * p + 1)) = climbF cj p) := Lib.hid (updI_climb p1)
              have HP2L : Hid (2 * p + 1 < 2 ^ (L + 1) ∧ p < 2 ^ (L + 1)) := Lib.hid ⟨p2, p3⟩
              clear p4 p5 hcnt hcl p2 p3
              generalize cj p = a0 at *
              generalize cj (2 * p) = a1 at *
              generalize cj (2 * p + 1) = a2 at *
              have w1 : IntKind.i64.wrap (2 * p) = 2 * p := IntWalk.i64_in _ (by omega)
              have w2 : IntKind.i64.wrap (2 * p + 1) = 2 * p + 1 := IntWalk.i64_in _ (by omega)
              have w3 : IntKind.i64.wrap (a0 + a1) = a0 + a1 := IntWalk.i64_in _ (by omega)
              have w4' : IntKind.i64.wrap (a0 + a1 + a2) = a0 + a1 + a2 := IntWalk.i64_in _ (by omega)
              have hjm : (j : Int) < (m : Int) := by omega
              go_wp2_with fail
              go_region_held3 (fun w' => w'.cell? ⟨B, 0, none⟩ = some (.int .i64 (L : Int)) ∧ w'.cell? ⟨B, 1, none⟩ = some (.int .i64 F) ∧ w'.cell? ⟨B, 2, none⟩ = some (.slice ao2 n2 cap2)) (go_keep)
                (first | (go_at_call 47; have _t := u0; refine (AT2.out _ B5.out).mono ?_; rintro e w6 ⟨rfl, hb6⟩; have B6 := Lib.hid (below_then B5.out hb6); have v0 := cell_later hb6 u0; have v1 := cell_later hb6 u1; have v2 := cell_later hb6 u2; clear hb6) | (go_at_call 47; have _t := s0; refine (AT1.out _ B4.out).mono ?_; rintro e w5 ⟨rfl, hb5⟩; have B5 := Lib.hid (below_then B4.out hb5); have u0 := cell_later hb5 s0; have u1 := cell_later hb5 s1; have u2 := cell_later hb5 s2; clear hb5) | (go_at_call 47; refine (AT0.out _ (below_drewN (Below.refl _ _) 1)).mono ?_; rintro e w4 ⟨rfl, hb4⟩; have B4 := Lib.hid (below_then (below_drewN (Below.refl W3.heap.size W3) 1) hb4); have s0 := cell_later B4.out r0; have s1 := cell_later B4.out r1; have s2 := cell_later B4.out r2; clear hb4))
              clear _t s0 s1 s2 u0 u1 u2 B4 B5 AT0 AT1 AT2 r0 r1 r2 f0 f1 f2
              by_cases hs : a0 + a1 + a2 ≤ t
              · have hs1 : decide (a0 + a1 + a2 ≤ t) = true := by simpa using hs
                have HD6 := Lib.hid (HP.out.doc.keep B6.out)
                go_wp2_with fail
                refine (docWith ao2 n2 cap2 L F cj (2 * p) 0 w6 HD6.out (by omega) (by have := HP2L.out.1; omega) (by omega)).mono ?_
                rintro e w7 ⟨ao4, n4, cap4, rfl, hd4, hb7, hf7⟩
                have HD7 := Lib.hid hd4
                clear hd4 hf7
                go_wp2_with fail
                refine (docWith ao4 n4 cap4 L F _ (2 * p + 1) 0 w7 HD7.out (by omega) HP2L.out.1 (by omega)).mono ?_
                rintro e w8 ⟨ao5, n5, cap5, rfl, hd5, hb8, hf8⟩
                have HD8 := Lib.hid hd5
                clear hd5 hf8
                go_wp2_with fail
                refine (docWith ao5 n5 cap5 L F _ p (a0 + a1 + a2) w8 HD8.out p1 HP2L.out.2 (by omega)).mono ?_
                rintro e w9 ⟨ao6, n6, cap6, rfl, hd6, hb9, hf9⟩
                rw [HU.out] at hd6
                have HB8 := Lib.hid (below_then (below_then B6.out hb7) hb8)
                have HPW := Lib.hid (HP.out.put (below_then HB8.out hb9) (cap' := cap6) hd6 (fun b hb => by have := hf9 b hb; have := HB8.out.size; omega))
                have HRW := Lib.hid ((HRI.out.keep (below_then HB8.out hb9)).only (set3_only w9 B (.int .i64 (L : Int)) (.int .i64 F) (.slice ao6 n6 cap6)))
                obtain ⟨x0, x1, x2, g0, g1, g2⟩ := three_cells (row_keep (below_then HB8.out hb9) HP.out.box)
                clear hd6 hb7 hb8 hb9 hf9 v0 v1 v2
                go_wp2_with fail
                go_roundg (gk - 1)
                case measure => omega
                case rel => exact ⟨j + 1, true, ao6, n6, cap6, rfl, by go_num, by omega, by omega, Lib.hid (by rw [(P4.out hs).1]; exact HPW.out), HRW, Lib.hid ⟨fun _ => .inr (P4.out hs).2, fun _ => rfl⟩⟩
              · have hs1 : decide (a0 + a1 + a2 ≤ t) = false := by simpa using hs
                go_wp2_with fail
                go_roundg (gk - 1)
                case measure => omega
                case rel => exact ⟨j + 1, ch2, ao2, n2, cap2, rfl, by go_num, by omega, by omega, Lib.hid (by rw [(P5.out hs).1]; exact HP.out.keep B6.out), Lib.hid (HRI.out.keep B6.out), Lib.hid (by rw [(P5.out hs).2]; exact HC.out)⟩
            · obtain rfl : j = m := by omega
              rw [List.take_of_length_le (by rw [HPL.out]; exact Nat.le_refl _)] at HP HC
              have HMN := Lib.hid (HM.out.next HGC.out hdL HPP.out HC.out)
              go_wp2_with fail
              go_roundg (G - 1)
              case measure => have := HG.out; omega
              case rel => exact ⟨e, kk - 1, ch2, foldF t cc ps, ao2, n2, cap2, rfl, rfl, Lib.hid (by have := HKK.out; omega), by omega, by omega, by omega, by omega, HP, HMN⟩
end Go.Proofs.Ythjmiimkplhffaa

/- The document's Compress. -/
set_option linter.unusedVariables false
set_option linter.unusedSimpArgs false
namespace Go.Proofs.Ythjmiimkplhffaa
open Go.RowKit Go.Maps

theorem fold_wt {L d : Nat} {t : Int} (hd : d < L) : ∀ (l : List Int) (c : Int → Int), (∀ p ∈ l, At d p) → Good L c → wt L (foldF t c l) ≤ wt L c ∧ ((∃ p ∈ l, can t c p) → wt L (foldF t c l) < wt L c)
  | [], c, _, _ => ⟨Int.le_refl _, fun ⟨p, hp, _⟩ => absurd hp (by simp)⟩
  | p :: l, c, h, hg => by
    have hp := h p List.mem_cons_self
    have h1 := hp.pos
    have h2 := at_le (e := L) hp hd
    have ih := fold_wt (t := t) hd l (stepF t c p) (fun x hx => h x (List.mem_cons_of_mem _ hx))
    show wt L (foldF t (stepF t c p) l) ≤ _ ∧ ((∃ x ∈ p :: l, can t c x) → wt L (foldF t (stepF t c p) l) < _)
    by_cases g : can t c p
    · have e : stepF t c p = climbF c p := by unfold stepF; rw [if_pos g]
      rw [e] at ih ⊢
      have h3 := wt_climb hg h1 (by omega) g
      have h4 := (ih (good_climb hg h1 (by omega))).1
      exact ⟨by omega, fun _ => by omega⟩
    · have e : stepF t c p = c := by unfold stepF; rw [if_neg g]
      rw [e] at ih ⊢
      refine ⟨(ih hg).1, fun ⟨x, hx, hc⟩ => ?_⟩
      rcases List.mem_cons.1 hx with k | k
      · subst k; exact absurd hc g
      · exact (ih hg).2 ⟨x, k, hc⟩
theorem lvl_wt {L d : Nat} {t : Int} {c : Int → Int} (hd : d < L) (hg : Good L c) : wt L (lvl t d c) ≤ wt L c ∧ ((∃ p, At d p ∧ can t c p) → wt L (lvl t d c) < wt L c) ∧ Good L (lvl t d c) ∧ tot L (lvl t d c) = tot L c := by
  have hp := par_ok d (idsL L c) (ids_rise L c)
  obtain ⟨l1, l2⟩ := pass_level (t := t) hg hp
  have h1 := fold_wt (t := t) hd _ c (fun p hx => (hp.at_ p hx).1) hg
  have h2 := fold_good (t := t) hg hd (fun p hx => (hp.at_ p hx).1)
  rw [l1] at h1 h2
  rw [l2] at h1
  exact ⟨h1.1, h1.2, h2.1, h2.2⟩
theorem pass_wt {L : Nat} {t : Int} : ∀ (d : Nat) (c : Int → Int), d ≤ L → Good L c → wt L (passF t d c) ≤ wt L c ∧ (moved t d c → wt L (passF t d c) < wt L c)
  | 0, c, _, _ => ⟨Int.le_refl _, fun h => h.elim⟩
  | d + 1, c, hd, hg => by
    obtain ⟨h1, h2, h3, h4⟩ := lvl_wt (t := t) (d := d) (by omega) hg
    have ih := pass_wt (t := t) d (lvl t d c) (by omega) h3
    show wt L (passF t d (lvl t d c)) ≤ _ ∧ (((∃ p, At d p ∧ can t c p) ∨ moved t d (lvl t d c)) → wt L (passF t d (lvl t d c)) < _)
    refine ⟨by omega, fun h => ?_⟩
    rcases h with h | h
    · have := h2 h; omega
    · have := ih.2 h; omega

/-- what Compress returns -/
def CompPost (t : Int) (L : Nat) (F : Int) (ao0 : Option Addr) (W : World) (c : Int → Int) (e : Ending) (w' : World) : Prop :=
  ∃ d ao n cap, e = .returned (.agg #[.int .i64 (L : Int), .int .i64 F, .slice ao n cap]) ∧ Comp t L c d ∧ tot L d = tot L c ∧ DocM w' ao n L d ∧ Src W ao0 ao ∧ Below W.heap.size W w'
/-- in the middle of Compress -/
structure CM (t : Int) (L : Nat) (c cc : Int → Int) (b : Bool) (g : Nat) : Prop where
  chain : ∀ dd, Comp t L cc dd → Comp t L c dd
  no : b = false → ¬ moved t L cc
  tot : tot L cc = tot L c
  g : (wt L cc).toNat + (if b then 1 else 0) ≤ g
theorem CM.next {t : Int} {L g : Nat} {c cc : Int → Int} {b : Bool} (h : CM t L c cc true (g + 1)) (hg : Good L cc) (hb : b = true ↔ moved t L cc) (ht : Go.Proofs.Ythjmiimkplhffaa.tot L (passF t L cc) = Go.Proofs.Ythjmiimkplhffaa.tot L cc) : CM t L c (passF t L cc) b g := by
  obtain ⟨w1, w2⟩ := pass_wt (t := t) L cc (Nat.le_refl _) hg
  have h3 := wt_nonneg L cc
  have h4 := wt_nonneg L (passF t L cc)
  have h5 := h.g
  simp at h5
  cases b with
  | true =>
    have hm := hb.1 rfl
    have := w2 hm
    exact ⟨fun dd hd => h.chain dd (Comp.more _ _ hm hd), fun k => by simp at k, by rw [ht, h.tot], by simp; omega⟩
  | false =>
    have hm : ¬ moved t L cc := fun k => by simpa using hb.2 k
    have e := (still_pass t L cc (still_of t L cc hm)).1
    rw [e]
    exact ⟨h.chain, fun _ => hm, h.tot, by simp; omega⟩
theorem Src.then {W w : World} {a b c : Option Addr} (h1 : Src W a b) (h2 : Src w b c) (hs : W.heap.size ≤ w.heap.size) : Src W a c := by
  rcases h2 with rfl | h2
  · exact h1
  · exact .inr (fun k hk => by have := h2 k hk; omega)
theorem PI.puts {W w w' : World} {B L n cap n' cap' : Nat} {F : Int} {ao0 ao ao' : Option Addr} {c c' : Int → Int} (h : PI W w B L F ao0 ao n cap c) (hb : Below w.heap.size w w') (hd : DocM w' ao' n' L c') (hf : Src w ao ao') :
    PI W (((w'.setCell ⟨B, 0, none⟩ (.int .i64 (L : Int))).setCell ⟨B, 1, none⟩ (.int .i64 F)).setCell ⟨B, 2, none⟩ (.slice ao' n' cap')) B L F ao0 ao' n' cap' c' := by
  rcases hf with rfl | hf
  · have ho := set3_only w' B (.int .i64 (L : Int)) (.int .i64 F) (.slice ao' n' cap')
    have hk := h.keep hb
    have l3 := (Array.getElem?_eq_some_iff.1 hk.res).1
    exact ⟨set_three hk.box, (ho.block _ l3 (by show ¬ (B + 1 = B); omega)).trans hk.res, ⟨hd.1, ⟨hd.2.1.1.only ho (fun _ b hb2 => (h.apart b hb2).1), fun b e => Nat.lt_of_lt_of_le (hd.2.1.2 b e) ho.size⟩, hd.2.2⟩, only_below hk.b ho h.le, h.le, h.apart, h.src⟩
  · exact h.put hb hd hf
theorem PI.end {W w : World} {B L n cap : Nat} {F : Int} {ao0 ao : Option Addr} {c : Int → Int} (h : PI W w B L F ao0 ao n cap c) :
    DocM (((w.setCell ⟨B + 1, 0, none⟩ (.int .i64 (L : Int))).setCell ⟨B + 1, 1, none⟩ (.int .i64 F)).setCell ⟨B + 1, 2, none⟩ (.slice ao n cap)) ao n L c ∧ Below W.heap.size W (((w.setCell ⟨B + 1, 0, none⟩ (.int .i64 (L : Int))).setCell ⟨B + 1, 1, none⟩ (.int .i64 F)).setCell ⟨B + 1, 2, none⟩ (.slice ao n cap)) := by
  have ho := set3_only w (B + 1) (.int .i64 (L : Int)) (.int .i64 F) (.slice ao n cap)
  exact ⟨⟨h.doc.1, ⟨h.doc.2.1.1.only ho (fun h0 b hb2 => (h.apart b hb2).2), fun b e => Nat.lt_of_lt_of_le (h.doc.2.1.2 b e) ho.size⟩, h.doc.2.2⟩, only_below h.b ho (by have := h.le; omega)⟩
theorem pi_start {ao : Option Addr} {n cap L : Nat} {F : Int} {c : Int → Int} {W : World} (h : DocM W ao n L c) :
    PI W ((W.alloc (.cells #[.int .i64 (L : Int), .int .i64 F, .slice ao n cap] 34)).alloc (.cells #[.int .i64 0, .int .i64 0, .slice none 0 0] 34)) W.heap.size L F ao ao n cap c := by
  obtain ⟨t1, t2, t3, t4⟩ := two_blocks W (.cells #[.int .i64 (L : Int), .int .i64 F, .slice ao n cap] 34) (.cells #[.int .i64 0, .int .i64 0, .slice none 0 0] 34)
  exact ⟨t2, t3, h.keep t1, t1, Nat.le_refl _, fun b hb => by have := h.2.1.2 b hb; omega, .inl rfl⟩

set_option maxRecDepth 100000 in
set_option maxHeartbeats 4000000 in
theorem docCompress (ao : Option Addr) (n cap L : Nat) (F : Int) (c : Int → Int) (W : World) (h : DocM W ao n L c) (ht : tot L c ≤ 1099511627776) (hF : 1 ≤ F) :
    Calls Try.prog 48 #[.agg #[.int .i64 (L : Int), .int .i64 F, .slice ao n cap]] W (CompPost (tot L c / F) L F ao W c) := by
  have h0 : 0 ≤ tot L c := S_nonneg _ (fun i _ => h.2.2.1.1 i)
  have hq0 : 0 ≤ tot L c / F := Int.ediv_nonneg h0 (by omega)
  have hq1 : tot L c / F ≤ 1099511627776 := Int.le_trans (Int.ediv_le_self _ h0) ht
  have HT := Lib.hid ht
  have HP0 := Lib.hid (pi_start (cap := cap) (F := F) h)
  clear h ht
  go_enter Try.func48, Try.ntmps48
  go_upto_region 1 with fail
  generalize (W.alloc (.cells #[.int .i64 (L : Int), .int .i64 F, .slice ao n cap] 34)).alloc (.cells #[.int .i64 0, .int .i64 0, .slice none 0 0] 34) = V at HP0 ⊢
  generalize W.heap.size = B at HP0 ⊢
  obtain ⟨r0, r1, r2, f0, f1, f2⟩ := three_cells HP0.out.box
  go_wp2_with fail
  refine (docUnit ao n cap L (.int .i64 (L : Int)) F c V HP0.out.doc HT.out hF rfl).mono ?_
  rintro e w1 ⟨rfl, hb1⟩
  have HP1 := Lib.hid (HP0.out.keep hb1)
  clear r0 r1 r2 f0 f1 f2 hb1 HP0
  generalize htq : tot L c / F = t at hq0 hq1 ⊢
  have HTQ := Lib.hid htq
  clear htq h0
  go_wp2_with fail
  go_loopg [4] ((wt L c).toNat + 1) (fun g t4 wr => ∃ (b : Bool) (cc : Int → Int) (ao1 : Option Addr) (n1 cap1 : Nat), t4 = .bool b ∧ Hid (PI W wr B L F ao ao1 n1 cap1 cc) ∧ Hid (CM t L c cc b g))
  case atStart => exact ⟨true, c, ao, n, cap, rfl, HP1, Lib.hid ⟨fun _ h => h, fun h => by simp at h, rfl, by simp⟩⟩
  case round =>
    obtain ⟨b, cc, ao1, n1, cap1, rfl, HP, HC⟩ := hrel
    obtain ⟨r0, r1, r2, f0, f1, f2⟩ := three_cells HP.out.box
    cases b
    · obtain ⟨y0, y1, y2, z0, z1, z2⟩ := three_cells HP.out.res
      have HD := Lib.hid HP.out.end
      go_wp2_with fail
      refine bodyPost_ret (v := .agg #[.int .i64 (L : Int), .int .i64 F, .slice ao1 n1 cap1]) (results_cell_row Try.results48 _ _ (B + 1) 34 #[.int .i64 (L : Int), .int .i64 F, .slice ao1 n1 cap1] (0, 0) _ rfl (set_three HP.out.res) Try.underlying34 (by kernel_rfl) (by kernel_rfl)) rfl ?_
      rw [HTQ.out]
      exact ⟨cc, ao1, n1, cap1, rfl, HC.out.chain cc (Comp.done cc (HC.out.no rfl)), HC.out.tot, HD.out.1, HP.out.src, HD.out.2⟩
    · have hgk : 1 ≤ gk := by have := HC.out.g; simp at this; omega
      obtain ⟨g, hg⟩ : ∃ g, gk = g + 1 := ⟨gk - 1, by omega⟩
      have HG := Lib.hid hg
      have HC1 : Hid (CM t L c cc true (g + 1)) := Lib.hid (hg ▸ HC.out)
      clear hg HC hgk
      go_wp2_with fail
      refine (docPass ao1 n1 cap1 L F t cc wr HP.out.doc (by rw [HC1.out.tot]; exact HT.out) hq0 hq1).mono ?_
      rintro e w2 ⟨ao2, n2, cap2, b2, rfl, hd2, hb2, ht2, hs2, hbl⟩
      have HNX := Lib.hid (HC1.out.next HP.out.doc.2.2.1 hb2 ht2)
      have HPN := Lib.hid (HP.out.puts (cap' := cap2) hbl hd2 hs2)
      obtain ⟨x0, x1, x2, g0, g1, g2⟩ := three_cells (row_keep hbl HP.out.box)
      clear hd2 hb2 ht2 hs2 hbl r0 r1 r2 f0 f1 f2
      have HPN2 := HPN.out.src
      go_wp2_with fail
      go_roundg (gk - 1)
      case measure => have := HG.out; omega
      case rel => exact ⟨b2, passF t L cc, ao2, n2, cap2, rfl, HPN, Lib.hid (by rw [show gk - 1 = g from by have := HG.out; omega]; exact HNX.out)⟩
end Go.Proofs.Ythjmiimkplhffaa

/- The document's New and Add. (By gen_ref7.py.) -/
set_option linter.unusedVariables false
set_option linter.unusedSimpArgs false
namespace Go.Proofs.Ythjmiimkplhffaa
open Go.RowKit Go.Maps

theorem doc_zero (w : World) (L : Nat) (h1 : 1 ≤ L) (h2 : L ≤ 20) : DocM w none 0 L (fun _ => 0) := by
  have e : nodesL L (fun _ => 0) = [] := by unfold nodesL idsL; simp
  exact ⟨by rw [e]; rfl, ⟨by rw [e]; exact Nl.nil _ _, fun b h => by simp at h⟩, good_zero L, h1, h2⟩

/-- what the document's New returns -/
def RNewPost (l f : Int) (W : World) (e : Ending) (w' : World) : Prop :=
  (Right l f ∧ e = .returned (.tuple #[.agg #[.int .i64 l, .int .i64 f, .slice none 0 0], .int .i64 0]) ∧ Below W.heap.size W w') ∨
  (¬ Right l f ∧ e = .returned (.tuple #[.agg #[.int .i64 0, .int .i64 0, .slice none 0 0], .int .i64 2]) ∧ Below W.heap.size W w')
theorem set3_new (W : World) (o : Obj) (x y z : Value) : Below W.heap.size W ((((W.alloc o).setCell ⟨W.heap.size, 0, none⟩ x).setCell ⟨W.heap.size, 1, none⟩ y).setCell ⟨W.heap.size, 2, none⟩ z) :=
  only_below (box_below W o) (set3_only _ _ _ _ _) (Nat.le_refl _)

set_option maxRecDepth 100000 in
set_option maxHeartbeats 4000000 in
theorem refNew (l f : Int) (W : World) : Calls Try.prog 14 #[.int .i64 l, .int .i64 f] W (RNewPost l f W) := by
  have HB := Lib.hid (box_below W (.cells #[.int .i64 0, .int .i64 0, .slice none 0 0] 34))
  have RZ := Lib.hid (cells_new W #[.int .i64 0, .int .i64 0, .slice none 0 0] 34)
  by_cases h4 : l < 1
  · go_enter Try.func14, Try.ntmps14
    go_wp2
    refine bodyPost_ret (v := .tuple #[.agg #[.int .i64 0, .int .i64 0, .slice none 0 0], .int .i64 2]) (results_cell_tmp Try.results14 _ _ W.heap.size 34 #[.int .i64 0, .int .i64 0, .slice none 0 0] (0, 0) _ rfl ?_ Try.underlying34 (by kernel_rfl) (by kernel_rfl)) rfl ?_
    · first | exact cells_new W _ _ | exact set_three RZ.out
    · exact .inr ⟨fun h => by unfold Right at h; omega, rfl, by first | exact HB.out | exact set3_new W _ _ _ _⟩
  · skip
    by_cases h3 : 20 < l
    · go_enter Try.func14, Try.ntmps14
      go_wp2
      refine bodyPost_ret (v := .tuple #[.agg #[.int .i64 0, .int .i64 0, .slice none 0 0], .int .i64 2]) (results_cell_tmp Try.results14 _ _ W.heap.size 34 #[.int .i64 0, .int .i64 0, .slice none 0 0] (0, 0) _ rfl ?_ Try.underlying34 (by kernel_rfl) (by kernel_rfl)) rfl ?_
      · first | exact cells_new W _ _ | exact set_three RZ.out
      · exact .inr ⟨fun h => by unfold Right at h; omega, rfl, by first | exact HB.out | exact set3_new W _ _ _ _⟩
    · skip
      by_cases h2 : f < 1
      · go_enter Try.func14, Try.ntmps14
        go_wp2
        refine bodyPost_ret (v := .tuple #[.agg #[.int .i64 0, .int .i64 0, .slice none 0 0], .int .i64 2]) (results_cell_tmp Try.results14 _ _ W.heap.size 34 #[.int .i64 0, .int .i64 0, .slice none 0 0] (0, 0) _ rfl ?_ Try.underlying34 (by kernel_rfl) (by kernel_rfl)) rfl ?_
        · first | exact cells_new W _ _ | exact set_three RZ.out
        · exact .inr ⟨fun h => by unfold Right at h; omega, rfl, by first | exact HB.out | exact set3_new W _ _ _ _⟩
      · skip
        by_cases h1 : 1000 < f
        · go_enter Try.func14, Try.ntmps14
          go_wp2
          refine bodyPost_ret (v := .tuple #[.agg #[.int .i64 0, .int .i64 0, .slice none 0 0], .int .i64 2]) (results_cell_tmp Try.results14 _ _ W.heap.size 34 #[.int .i64 0, .int .i64 0, .slice none 0 0] (0, 0) _ rfl ?_ Try.underlying34 (by kernel_rfl) (by kernel_rfl)) rfl ?_
          · first | exact cells_new W _ _ | exact set_three RZ.out
          · exact .inr ⟨fun h => by unfold Right at h; omega, rfl, by first | exact HB.out | exact set3_new W _ _ _ _⟩
        · skip
          have HX := Lib.hid (set3_new W (.cells #[.int .i64 0, .int .i64 0, .slice none 0 0] 34) (.int .i64 l) (.int .i64 f) (.slice none 0 0))
          go_enter Try.func14, Try.ntmps14
          go_wp2
          refine bodyPost_ret (v := .tuple #[.agg #[.int .i64 l, .int .i64 f, .slice none 0 0], .int .i64 0]) (results_cell_tmp Try.results14 _ _ W.heap.size 34 #[.int .i64 l, .int .i64 f, .slice none 0 0] (0, 0) _ rfl ?_ Try.underlying34 (by kernel_rfl) (by kernel_rfl)) rfl ?_
          · first | exact set_three RZ.out | exact cells_new W _ _
          · exact .inl ⟨⟨by omega, by omega, by omega, by omega⟩, rfl, by first | exact HX.out | exact box_below W _⟩

/-- what the document's Add returns -/
def RAddPost (L : Nat) (F : Int) (c : Int → Int) (v m : Int) (W : World) (e : Ending) (w' : World) : Prop :=
  ∃ (a b : Int) (ao : Option Addr) (n cap : Nat) (er : Int), e = .returned (.tuple #[.agg #[.int .i64 a, .int .i64 b, .slice ao n cap], .int .i64 er]) ∧ Below W.heap.size W w' ∧
    ((er ≠ 0 ∧ ¬ Fits L c v m ∧ a = 0 ∧ b = 0 ∧ ao = none ∧ n = 0 ∧ cap = 0 ∧ (er = 2 ∧ ¬ AddOk L v m ∨ er = 5 ∧ AddOk L v m)) ∨
     (er = 0 ∧ Fits L c v m ∧ a = (L : Int) ∧ b = F ∧ ∃ d, Comp ((tot L c + m) / F) L (fun q => c q + leafF (2 ^ L + v) m q) d ∧ tot L d = tot L c + m ∧ DocM w' ao n L d ∧ ∀ b, ao = some ⟨b, 0, none⟩ → W.heap.size ≤ b))

theorem DocM.only {w w' : World} {P : Nat → Prop} {ao : Option Addr} {n L : Nat} {c : Int → Int} (h : DocM w ao n L c) (ho : Only P w w') (hp : ∀ b, ao = some ⟨b, 0, none⟩ → ¬ P b) : DocM w' ao n L c :=
  ⟨h.1, ⟨h.2.1.1.only ho (fun _ => hp), fun b e => Nat.lt_of_lt_of_le (h.2.1.2 b e) ho.size⟩, h.2.2⟩

set_option maxRecDepth 100000 in
set_option maxHeartbeats 4000000 in
theorem refAdd_bad (ao : Option Addr) (n cap L : Nat) (F : Int) (c : Int → Int) (v m : Int) (W : World) (h : DocM W ao n L c) (hno : ¬ AddOk L v m) :
    Calls Try.prog 34 #[.agg #[.int .i64 (L : Int), .int .i64 F, .slice ao n cap], .int .i64 v, .int .i64 m] W (RAddPost L F c v m W) := by
  have hL : L ≤ 20 := h.2.2.2.2
  have HP0 := Lib.hid (pi_start (cap := cap) (F := F) h)
  clear h
  go_enter Try.func34, Try.ntmps34
  go_upto_region 1 with fail
  generalize (W.alloc (.cells #[.int .i64 (L : Int), .int .i64 F, .slice ao n cap] 34)).alloc (.cells #[.int .i64 0, .int .i64 0, .slice none 0 0] 34) = V at HP0 ⊢
  generalize W.heap.size = B at HP0 ⊢
  obtain ⟨r0, r1, r2, f0, f1, f2⟩ := three_cells HP0.out.box
  by_cases h1 : v < 0
  · skip
    have HP1 := HP0
    obtain ⟨y0, y1, y2, z0, z1, z2⟩ := three_cells HP1.out.res
    go_wp2_with fail
    refine bodyPost_ret (v := .tuple #[.agg #[.int .i64 0, .int .i64 0, .slice none 0 0], .int .i64 2]) (results_cell_tmp Try.results34 _ _ (B + 1) 34 #[.int .i64 0, .int .i64 0, .slice none 0 0] (0, 0) _ rfl (set_three HP1.out.res) Try.underlying34 (by kernel_rfl) (by kernel_rfl)) rfl ?_
    exact ⟨0, 0, none, 0, 0, 2, rfl, only_below HP1.out.b (set3_only _ _ _ _ _) (by have := HP1.out.le; omega), .inl ⟨by omega, fun g => hno g.1, rfl, rfl, rfl, rfl, rfl, .inl ⟨rfl, hno⟩⟩⟩
  · have h1' : decide (v < 0) = false := by simpa using h1
    have hv0 : 0 ≤ v := by omega
    obtain ⟨P, hP⟩ : ∃ P : Int, P = 2 ^ L := ⟨_, rfl⟩
    have SZ : Hid (∀ w, Calls Try.prog 42 #[.agg #[.int .i64 (L : Int), .int .i64 F, .slice ao n cap]] w (fun e w' => e = .returned (.int .i64 P) ∧ Below w.heap.size w w')) := Lib.hid (fun w => by rw [hP]; exact size_any L _ _ w hL)
    have HPP := Lib.hid hP
    clear hP
    by_cases h2 : P ≤ v
    · have h2' : decide (P ≤ v) = true := by simpa using h2
      go_wp2_with (go_at_call 42; refine (SZ.out _).mono ?_; rintro e w1 ⟨rfl, hb1⟩; have HP1 := Lib.hid (HP0.out.keep hb1); obtain ⟨y0, y1, y2, z0, z1, z2⟩ := three_cells HP1.out.res; clear hb1)
      refine bodyPost_ret (v := .tuple #[.agg #[.int .i64 0, .int .i64 0, .slice none 0 0], .int .i64 2]) (results_cell_tmp Try.results34 _ _ (B + 1) 34 #[.int .i64 0, .int .i64 0, .slice none 0 0] (0, 0) _ rfl (set_three HP1.out.res) Try.underlying34 (by kernel_rfl) (by kernel_rfl)) rfl ?_
      exact ⟨0, 0, none, 0, 0, 2, rfl, only_below HP1.out.b (set3_only _ _ _ _ _) (by have := HP1.out.le; omega), .inl ⟨by omega, fun g => hno g.1, rfl, rfl, rfl, rfl, rfl, .inl ⟨rfl, hno⟩⟩⟩
    · have h2' : decide (P ≤ v) = false := by simpa using h2
      have h3 : m < 1 := by have := HPP.out; have h9 : ¬ (0 ≤ v ∧ v < 2 ^ L ∧ 1 ≤ m) := hno; rw [← this] at h9; omega
      go_wp2_with (go_at_call 42; refine (SZ.out _).mono ?_; rintro e w1 ⟨rfl, hb1⟩; have HP1 := Lib.hid (HP0.out.keep hb1); obtain ⟨y0, y1, y2, z0, z1, z2⟩ := three_cells HP1.out.res; clear hb1)
      refine bodyPost_ret (v := .tuple #[.agg #[.int .i64 0, .int .i64 0, .slice none 0 0], .int .i64 2]) (results_cell_tmp Try.results34 _ _ (B + 1) 34 #[.int .i64 0, .int .i64 0, .slice none 0 0] (0, 0) _ rfl (set_three HP1.out.res) Try.underlying34 (by kernel_rfl) (by kernel_rfl)) rfl ?_
      exact ⟨0, 0, none, 0, 0, 2, rfl, only_below HP1.out.b (set3_only _ _ _ _ _) (by have := HP1.out.le; omega), .inl ⟨by omega, fun g => hno g.1, rfl, rfl, rfl, rfl, rfl, .inl ⟨rfl, hno⟩⟩⟩

set_option maxRecDepth 100000 in
set_option maxHeartbeats 4000000 in
theorem refAdd_ok (ao : Option Addr) (n cap L : Nat) (F : Int) (c : Int → Int) (v m : Int) (W : World) (h : DocM W ao n L c) (hok : AddOk L v m) (ht : tot L c ≤ 1099511627776) (hF : 1 ≤ F) :
    Calls Try.prog 34 #[.agg #[.int .i64 (L : Int), .int .i64 F, .slice ao n cap], .int .i64 v, .int .i64 m] W (RAddPost L F c v m W) := by
  have hL : L ≤ 20 := h.2.2.2.2
  have h0 : 0 ≤ tot L c := S_nonneg _ (fun i _ => h.2.2.1.1 i)
  have HOK := Lib.hid hok
  have hv0 : 0 ≤ v := hok.1
  have hm1 : 1 ≤ m := hok.2.2
  have HP0 := Lib.hid (pi_start (cap := cap) (F := F) h)
  have HT := Lib.hid ht
  have HPB := Lib.hid (pow_bd L (by omega) L (Nat.le_refl _))
  obtain ⟨P, hP⟩ : ∃ P : Int, P = 2 ^ L := ⟨_, rfl⟩
  have hvP : v < P := by rw [hP]; exact hok.2.1
  have hPB : 1 ≤ P ∧ P ≤ 1073741824 := by rw [hP]; exact HPB.out
  have SZ : Hid (∀ w, Calls Try.prog 42 #[.agg #[.int .i64 (L : Int), .int .i64 F, .slice ao n cap]] w (fun e w' => e = .returned (.int .i64 P) ∧ Below w.heap.size w w')) := Lib.hid (fun w => by rw [hP]; exact size_any L _ _ w hL)
  have HPP := Lib.hid hP
  clear h hok ht hP
  go_enter Try.func34, Try.ntmps34
  go_upto_region 1 with fail
  generalize (W.alloc (.cells #[.int .i64 (L : Int), .int .i64 F, .slice ao n cap] 34)).alloc (.cells #[.int .i64 0, .int .i64 0, .slice none 0 0] 34) = V at HP0 ⊢
  generalize W.heap.size = B at HP0 ⊢
  obtain ⟨r0, r1, r2, f0, f1, f2⟩ := three_cells HP0.out.box
  have d1 : decide (v < 0) = false := by simp; omega
  have d2 : decide (P ≤ v) = false := by simp; omega
  have d3 : decide (m < 1) = false := by simp; omega
  go_wp2_with (go_at_call 42; refine (SZ.out _).mono ?_; rintro e w1 ⟨rfl, hb1⟩; have HP1 := Lib.hid (HP0.out.keep hb1); obtain ⟨p0, p1, p2, g0, g1, g2⟩ := three_cells HP1.out.box; clear hb1)
  refine (docCount ao n cap L _ _ c w1 HP1.out.doc HT.out).mono ?_
  rintro e w2 ⟨rfl, hb2⟩
  have HP2 := Lib.hid (HP1.out.keep hb2)
  clear hb2 r0 r1 r2 f0 f1 f2 p0 p1 p2 g0 g1 g2 HP0 HP1
  have ht := HT.out
  generalize htt : tot L c = tt at h0 ht ⊢
  have HTT := Lib.hid htt
  clear htt
  obtain ⟨r0, r1, r2, f0, f1, f2⟩ := three_cells HP2.out.box
  by_cases h5 : 1099511627776 - tt < m
  · obtain ⟨y0, y1, y2, z0, z1, z2⟩ := three_cells HP2.out.res
    have HNF : Hid (¬ Fits L c v m) := Lib.hid (fun g => by have := g.2; rw [HTT.out] at this; omega)
    go_wp2_with fail
    refine bodyPost_ret (v := .tuple #[.agg #[.int .i64 0, .int .i64 0, .slice none 0 0], .int .i64 5]) (results_cell_tmp Try.results34 _ _ (B + 1) 34 #[.int .i64 0, .int .i64 0, .slice none 0 0] (0, 0) _ rfl (set_three HP2.out.res) Try.underlying34 (by kernel_rfl) (by kernel_rfl)) rfl ?_
    exact ⟨0, 0, none, 0, 0, 5, rfl, only_below HP2.out.b (set3_only _ _ _ _ _) (by have := HP2.out.le; omega), .inl ⟨by omega, HNF.out, rfl, rfl, rfl, rfl, rfl, .inr ⟨rfl, HOK.out⟩⟩⟩
  · have HF : Hid (Fits L c v m) := Lib.hid ⟨HOK.out, by rw [HTT.out]; omega⟩
    go_wp2_with (go_at_call 42; refine (SZ.out _).mono ?_; rintro e w3 ⟨rfl, hb3⟩; have HP := Lib.hid (HP2.out.keep hb3); clear hb3)
    obtain ⟨W3, hW3⟩ : ∃ w, w = w3 := ⟨_, rfl⟩
    subst hW3
    clear r0 r1 r2 f0 f1 f2 HP2
    obtain ⟨r0, r1, r2, f0, f1, f2⟩ := three_cells HP.out.box
    have HLF : Hid (1 ≤ P + v ∧ P + v < 2 ^ (L + 1) ∧ 0 ≤ c (P + v) + m) := Lib.hid ⟨by omega, by
      have e2 : (2 : Int) ^ (L + 1) = 2 * 2 ^ L := by rw [Int.pow_succ]; omega
      have := HPP.out
      omega, by have := HP.out.doc.2.2.1.1 (P + v); omega⟩
    have HC := Lib.hid (count_le HP.out.doc.2.2.1 (P + v))
    have HT2 : Hid (tot L (updI c (P + v) (c (P + v) + m)) ≤ 1099511627776 ∧ tot L (updI c (P + v) (c (P + v) + m)) = tt + m) := Lib.hid (by
      have e : tot L (updI c (P + v) (c (P + v) + m)) = tt + m := by
        rw [updI_leaf]
        have e2 := tot_sum L c (leafF (P + v) m)
        rw [tot_leaf HLF.out.1 HLF.out.2.1, HTT.out] at e2
        exact e2
      exact ⟨by rw [e]; omega, e⟩)
    have HU : Hid (updI c (P + v) (c (P + v) + m) = fun q => c q + leafF (2 ^ L + v) m q) := Lib.hid (by rw [updI_leaf, HPP.out]; rfl)
    generalize hlf : P + v = lf at *
    have AT : Hid (∀ w', Below W3.heap.size W3 w' → Calls Try.prog 47 #[.agg #[.int .i64 (L : Int), .int .i64 F, .slice ao n cap], .int .i64 lf] w' (fun e w'' => e = .returned (.int .i64 (c lf)) ∧ Below w'.heap.size w' w'')) := Lib.hid (fun w' hb => docAt ao n cap L _ _ c _ w' (HP.out.doc.keep hb))
    have WI : Hid (∀ w', Below W3.heap.size W3 w' → Calls Try.prog 46 #[.agg #[.int .i64 (L : Int), .int .i64 F, .slice ao n cap], .int .i64 lf, .int .i64 (c lf + m)] w' (OutC L F w' (updI c lf (c lf + m)))) := Lib.hid (fun w' hb => docWith ao n cap L F c lf (c lf + m) w' (HP.out.doc.keep hb) HLF.out.1 HLF.out.2.1 HLF.out.2.2)
    have hcb := HC.out
    rw [HTT.out] at hcb
    generalize updI c lf (c lf + m) = c2 at HT2 HU WI
    generalize c lf = a0 at *
    have ws : IntKind.i64.wrap (a0 + m) = a0 + m := IntWalk.i64_in _ (by omega)
    have hBB : B ≠ B + 1 := by omega
    clear hlf
    go_region_held3 (fun w' => w'.cell? ⟨B, 0, none⟩ = some (.int .i64 (L : Int)) ∧ w'.cell? ⟨B, 1, none⟩ = some (.int .i64 F) ∧ w'.cell? ⟨B, 2, none⟩ = some (.slice ao n cap)) (first | with_reducible exact ⟨keep_set3 v0 hBB, keep_set3 v1 hBB, keep_set3 v2 hBB⟩ | go_keep)
      (first | (go_at_call 48; have _t := u0; refine (docCompress ao5 n5 cap5 L F _ _ D5.out HT2.out.1 hF).mono ?_; rintro e w6 ⟨d, ao6, n6, cap6, rfl, hc6, ht6, hd6, hs6, hb6⟩; have B6 := Lib.hid (below_then B5.out hb6); have D6 := Lib.hid hd6; have C6 := Lib.hid hc6; have T6 := Lib.hid ht6; have S6 := Lib.hid hs6; have v0 := cell_later hb6 u0; have v1 := cell_later hb6 u1; have v2 := cell_later hb6 u2; have RY := Lib.hid (row_keep B6.out HP.out.res); have y0 := (three_cells RY.out).1; have y1 := (three_cells RY.out).2.1; have y2 := (three_cells RY.out).2.2.1; have z0 := (three_cells RY.out).2.2.2.1; have z1 := (three_cells RY.out).2.2.2.2.1; have z2 := (three_cells RY.out).2.2.2.2.2; clear hc6 ht6 hd6 hs6 hb6) | (go_at_call 46; have _t := s0; refine (WI.out _ B4.out).mono ?_; rintro e w5 ⟨ao5, n5, cap5, rfl, hd5, hb5, hf5⟩; have B5 := Lib.hid (below_then B4.out hb5); have D5 := Lib.hid hd5; have F5 := Lib.hid hf5; have u0 := cell_later hb5 s0; have u1 := cell_later hb5 s1; have u2 := cell_later hb5 s2; clear hb5 hd5 hf5) | (go_at_call 47; refine (AT.out _ (below_drewN (Below.refl _ _) 1)).mono ?_; rintro e w4 ⟨rfl, hb4⟩; have B4 := Lib.hid (below_then (below_drewN (Below.refl W3.heap.size W3) 1) hb4); have s0 := cell_later B4.out r0; have s1 := cell_later B4.out r1; have s2 := cell_later B4.out r2; clear hb4))
    have hfr : ∀ b, ao6 = some ⟨b, 0, none⟩ → W3.heap.size ≤ b := fun b hb => by
      have hs4 := B4.out.size
      have hs5 := B5.out.size
      rcases S6.out with g | g
      · rw [g] at hb; have := F5.out b hb; omega
      · have := g b hb; omega
    have hB1 : B + 1 < W3.heap.size := (Array.getElem?_eq_some_iff.1 HP.out.res).1
    have HFR := Lib.hid hfr
    clear hfr _t s0 s1 s2 u0 u1 u2 v0 v1 v2 y0 y1 y2 z0 z1 z2 r0 r1 r2 f0 f1 f2
    go_wp2
    refine bodyPost_ret (v := .tuple #[.agg #[.int .i64 (L : Int), .int .i64 F, .slice ao6 n6 cap6], .int .i64 0]) (results_cell_tmp Try.results34 _ _ (B + 1) 34 #[.int .i64 (L : Int), .int .i64 F, .slice ao6 n6 cap6] (0, 0) _ rfl (set_three RY.out) Try.underlying34 (by kernel_rfl) (by kernel_rfl)) rfl ?_
    have hc := C6.out
    have ht6 := T6.out
    rw [HT2.out.2] at hc ht6
    rw [HU.out] at hc
    exact ⟨L, F, ao6, n6, cap6, 0, rfl, only_below (below_then HP.out.b B6.out) (set3_only _ _ _ _ _) (by have := HP.out.le; omega), .inr ⟨rfl, HF.out, rfl, rfl, d, by rw [HTT.out]; exact hc, by rw [HTT.out]; exact ht6, D6.out.only (set3_only _ _ _ _ _) (fun b hb => by have := HFR.out b hb; show ¬ (b = B + 1); omega), fun b hb => by have := HFR.out b hb; have := HP.out.b.size; omega⟩⟩
theorem refAdd (ao : Option Addr) (n cap L : Nat) (F : Int) (c : Int → Int) (v m : Int) (W : World) (h : DocM W ao n L c) (ht : tot L c ≤ 1099511627776) (hF : 1 ≤ F) :
    Calls Try.prog 34 #[.agg #[.int .i64 (L : Int), .int .i64 F, .slice ao n cap], .int .i64 v, .int .i64 m] W (RAddPost L F c v m W) := by
  by_cases g : AddOk L v m
  · exact refAdd_ok ao n cap L F c v m W h g ht hF
  · exact refAdd_bad ao n cap L F c v m W h g
end Go.Proofs.Ythjmiimkplhffaa

/- Regions that draw their order and end with a store to a cell that they load: what the region holds is asked behind each operation but that store. -/
set_option linter.unusedVariables false
namespace Go.Proofs.Ythjmiimkplhffaa
open Go

/-- whatever order is picked; S holds behind every operation but number t -/
def wpAnyT (P : Program) (md : Region.Mode) (ops : Array Oper) (Q : Exit → Act → World → Prop) (S : World → Prop) (t : Nat) : Nat → Array Bool → Act → World → Prop
  | 0, listed, a, w => Region.ready md ops listed = [] ∧ Q .normal a w
  | fuel + 1, listed, a, w => (Region.ready md ops listed = [] → Q .normal a w) ∧ ∀ i ∈ Region.ready md ops listed, wpOp P ops Q i (fun a' w' => (i ≠ t → S w') ∧ wpAnyT P md ops Q S t fuel (listed.setIfInBounds i true) a' w') a w
theorem wpAny_of_T {P : Program} {md : Region.Mode} {ops : Array Oper} {Q : Exit → Act → World → Prop} {S : World → Prop} {t : Nat} : ∀ (fuel : Nat) (listed : Array Bool) (a : Act) (w : World), wpAnyT P md ops Q S t fuel listed a w → wpAny P md ops Q fuel listed a w
  | 0, _, _, _, h => h
  | fuel + 1, _, _, _, h => ⟨h.1, fun i hi => wpOp_mono (fun _ _ k => wpAny_of_T fuel _ _ _ k.2) (h.2 i hi)⟩

/-- an operation that yields v wherever S holds, and for which number t waits, may be taken first -/
theorem wpAnyT_first {P : Program} {md : Region.Mode} {ops : Array Oper} {Q : Exit → Act → World → Prop} {S : World → Prop} {t i : Nat} {oi : Oper} {v : Value} (hi : ops[i]? = some oi) (hsel : ∀ (j : Nat) (o : Oper) cs b, ops[j]? = some o → o.op ≠ .select cs b)
    (hQ : ∀ c a w, Q (.panic c) (a.put oi.dst v) w → Q (.panic c) a w) (ht : Region.waitsFor md ops t i = true) :
    ∀ (fuel : Nat) (listed : Array Bool) (a : Act) (w : World), (∀ j oj, ops[j]? = some oj → j ≠ i → listed.getD j true = false → (∀ e ∈ oj.after, Region.binds md e = true → e.on ≠ i) → oi.apart ops oj = true) →
      i ∈ Region.ready md ops listed → YieldsIf P ops S oi v a → S w → wpAnyT P md ops Q S t fuel (listed.setIfInBounds i true) (a.put oi.dst v) w → wpAnyT P md ops Q S t (fuel + 1) listed a w := by
  obtain ⟨ot, hot, et, het, hbt, hont⟩ := Region.waitsFor_spec ht
  intro fuel
  induction fuel with
  | zero =>
    intro listed a w hap hr hy hS h
    refine ⟨fun k => absurd hr (by rw [k]; simp), fun j hj => ?_⟩
    have e : j = i := Classical.byContradiction fun k => by
      have := ready_mono hj k
      rw [h.1] at this
      simp at this
    subst e
    exact hy.wpOp hi hS ⟨fun _ => hS, h⟩
  | succ fuel ih =>
    intro listed a w hap hr hy hS h
    refine ⟨fun k => absurd hr (by rw [k]; simp), fun j hj => ?_⟩
    by_cases e : j = i
    · subst e
      exact hy.wpOp hi hS ⟨fun _ => hS, h⟩
    · obtain ⟨hun, oj, hoj, hafter⟩ := mem_ready.1 hj
      have hiun : listed.getD i false = false := getD_both (mem_ready.1 hr).1
      have hno : ∀ e ∈ oj.after, Region.binds md e = true → e.on ≠ i := fun e he hb k => by
        have := hafter e he hb
        rw [k, hiun] at this
        cases this
      have hjt : j ≠ t := fun k => by
        subst k
        have e2 : ot = oj := Option.some.inj (hot.symm.trans hoj)
        subst e2
        exact hno et het hbt hont
      refine wpOp_mono (fun a' w' k => ⟨fun _ => k.2.1 hjt, ih _ a' w' (fun m om hm hmi hmu hmn => hap m om hm hmi ?_ hmn) (ready_mono hr (Ne.symm e)) k.1 (k.2.1 hjt) (by rw [Array.setIfInBounds_comm _ _ e]; exact k.2.2)⟩)
        (wpOp_putIf hoj (hap j oj hoj e hun hno) (fun cs b => hsel i oi cs b hi) (fun cs b => hsel j oj cs b hoj) hQ hy (h.2 j (ready_mono hj e)))
      by_cases q : j = m
      · subst q; exact hun
      · rwa [getD_set_ne true q] at hmu
theorem wpAnyT_take {P : Program} {md : Region.Mode} {ops : Array Oper} {Q : Exit → Act → World → Prop} {S : World → Prop} {t i : Nat} {oi : Oper} {v : Value} {fuel : Nat} {listed : Array Bool} {a : Act} {w : World} (hi : ops[i]? = some oi)
    (hs : Region.noSelect ops = true) (hf : Region.free md ops listed i = true) (hr : (Region.ready md ops listed).contains i = true) (ht : Region.waitsFor md ops t i = true) (hQ : ∀ c a w, Q (.panic c) (a.put oi.dst v) w → Q (.panic c) a w)
    (hy : YieldsIf P ops S oi v a) (hS : S w) (h : wpAnyT P md ops Q S t fuel (listed.setIfInBounds i true) (a.put oi.dst v) w) : wpAnyT P md ops Q S t (fuel + 1) listed a w :=
  wpAnyT_first hi (Region.noSelect_spec hs) hQ ht fuel listed a w (Region.free_spec hi hf) (by simpa using hr) hy hS h
/-- the one operation that may come up -/
theorem wpAnyT_step {P : Program} {md : Region.Mode} {ops : Array Oper} {Q : Exit → Act → World → Prop} {S : World → Prop} {t : Nat} (i : Nat) {o : Oper} {fuel : Nat} {listed : Array Bool} {a : Act} {w : World} (ho : ops[i]? = some o) (hr : Region.ready md ops listed = [i]) (hne : i ≠ t)
    (h : ∀ K : Act → World → Prop, Shut (∀ a w, S w → (S w → wpAnyT P md ops Q S t fuel (listed.setIfInBounds i true) a w) → K a w) → if Region.wanted o (yielded ops a.tmps) = true then Oper.wp P o a w K Q else K (a.put o.dst undef) w) : wpAnyT P md ops Q S t (fuel + 1) listed a w :=
  ⟨fun k => absurd k (by rw [hr]; simp), fun j hj => by
    rw [hr] at hj
    obtain rfl := List.mem_singleton.1 hj
    exact wpOp_step ho (fun K hK => h K (fun a w hS hW => hK a w ⟨fun _ => hS, hW hS⟩))⟩
/-- the last one -/
theorem wpAnyT_last {P : Program} {md : Region.Mode} {ops : Array Oper} {Q : Exit → Act → World → Prop} {S : World → Prop} {t : Nat} {o : Oper} {fuel : Nat} {listed : Array Bool} {a : Act} {w : World} (ho : ops[t]? = some o) (hr : Region.ready md ops listed = [t]) (hend : Region.ready md ops (listed.setIfInBounds t true) = [])
    (h : ∀ K : Act → World → Prop, Shut (∀ a w, Q .normal a w → K a w) → if Region.wanted o (yielded ops a.tmps) = true then Oper.wp P o a w K Q else K (a.put o.dst undef) w) : wpAnyT P md ops Q S t (fuel + 1) listed a w :=
  ⟨fun k => absurd k (by rw [hr]; simp), fun j hj => by
    rw [hr] at hj
    obtain rfl := List.mem_singleton.1 hj
    exact wpOp_step ho (fun K hK => h K (fun a w hq => hK a w ⟨fun k => absurd rfl k, by cases fuel with | zero => exact ⟨hend, hq⟩ | succ f => exact ⟨fun _ => hq, fun i hi => by rw [hend] at hi; simp at hi⟩⟩))⟩
theorem wp_region_late {P : Program} {ops : Array Oper} {Q : Exit → Act → World → Prop} {S : World → Prop} (t : Nat) {id : Nat} {a : Act} {w : World} (hm : P.follows .mixedOrders = true) (hS : S w.drew) (h : S w.drew → wpAnyT P .any ops Q S t ops.size (Array.replicate ops.size false) a w.drew) : (Code.region id ops true).wp P Q a w :=
  wp_region_any hm (wpAny_of_T _ _ _ _ (h hS))
end Go.Proofs.Ythjmiimkplhffaa
