/- Part 10 of the contracts: DRefG, DRef8, DRef9. -/
import Derived.Test.YthjmiimkplhffaaPart9

/- The document's Merge. (By gen_refmerge.py.) -/
set_option linter.unusedVariables false
set_option linter.unusedSimpArgs false
namespace Go.Proofs.Ythjmiimkplhffaa
open Go.RowKit Go.Maps

theorem three_blocks (W : World) (a b c : Obj) : Below W.heap.size W (((W.alloc a).alloc b).alloc c) ∧ (((W.alloc a).alloc b).alloc c).heap[W.heap.size]? = some a ∧ (((W.alloc a).alloc b).alloc c).heap[W.heap.size + 1]? = some b ∧ (((W.alloc a).alloc b).alloc c).heap[W.heap.size + 1 + 1]? = some c := by
  obtain ⟨h1, h2, h3, h4⟩ := two_blocks W a b
  generalize (W.alloc a).alloc b = V at h1 h2 h3 h4 ⊢
  have e1 : V.heap.size = W.heap.size + 1 + 1 := by omega
  have hb := box_below V c
  have j5 := heap_alloc_new V c
  rw [e1] at j5
  exact ⟨below_then h1 hb, row_keep hb h2, row_keep hb h3, j5⟩

/-- the first j counts of k added -/
def addJ (c k : Int → Int) (ids : List Int) : Int → Int := fun q => c q + if q ∈ ids then k q else 0
theorem addJ_nil (c k : Int → Int) : addJ c k [] = c := by funext q; unfold addJ; simp
theorem addJ_next {c k : Int → Int} {ids : List Int} {id : Int} (h : id ∉ ids) : updI (addJ c k ids) id (c id + k id) = addJ c k (ids ++ [id]) ∧ addJ c k ids id = c id := by
  refine ⟨?_, by unfold addJ; rw [if_neg h]; omega⟩
  funext q
  unfold updI addJ
  by_cases e : q = id
  · subst e; simp
  · rw [if_neg e]; simp [e]
theorem addJ_all {L : Nat} {c k : Int → Int} (hg : Good L k) : addJ c k (idsL L k) = fun q => c q + k q := by
  funext q
  unfold addJ
  by_cases e : k q = 0
  · rw [if_neg (fun h => (mem_ids hg q).1 h e), e]
  · rw [if_pos ((mem_ids hg q).2 e)]

/-- in the middle of Merge -/
structure MG (W wr : World) (B L : Nat) (F : Int) (ao : Option Addr) (n cap : Nat) (bo : Option Addr) (m mcap : Nat) (c k : Int → Int) : Prop where
  box : wr.heap[B]? = some (.cells #[.int .i64 (L : Int), .int .i64 F, .slice ao n cap] 34 (0, 0))
  bb : wr.heap[B + 1]? = some (.cells #[.int .i64 (L : Int), .int .i64 F, .slice bo m mcap] 34 (0, 0))
  res : wr.heap[B + 1 + 1]? = some (.cells #[.int .i64 0, .int .i64 0, .slice none 0 0] 34 (0, 0))
  doc : DocM wr ao n L c
  docb : DocM wr bo m L k
  b : Below W.heap.size W wr
  le : W.heap.size ≤ B
  apart : ∀ b, ao = some ⟨b, 0, none⟩ → b ≠ B ∧ b ≠ B + 1 + 1
  apartb : ∀ b, bo = some ⟨b, 0, none⟩ → b ≠ B ∧ b ≠ B + 1 + 1
theorem MG.keep {W w w' : World} {B L n cap m mcap : Nat} {F : Int} {ao bo : Option Addr} {c k : Int → Int} (h : MG W w B L F ao n cap bo m mcap c k) (hb : Below w.heap.size w w') : MG W w' B L F ao n cap bo m mcap c k :=
  ⟨row_keep hb h.box, row_keep hb h.bb, row_keep hb h.res, h.doc.keep hb, h.docb.keep hb, below_then h.b hb, h.le, h.apart, h.apartb⟩
theorem MG.put {W w w' w2 : World} {B L n cap m mcap n' cap' : Nat} {F : Int} {ao ao' bo : Option Addr} {c c' k : Int → Int} (h : MG W w B L F ao n cap bo m mcap c k) (hb : Below w.heap.size w w') (hd : DocM w' ao' n' L c') (hf : ∀ b, ao' = some ⟨b, 0, none⟩ → w.heap.size ≤ b)
    (hw : w2 = ((w'.setCell ⟨B, 0, none⟩ (.int .i64 (L : Int))).setCell ⟨B, 1, none⟩ (.int .i64 F)).setCell ⟨B, 2, none⟩ (.slice ao' n' cap')) : MG W w2 B L F ao' n' cap' bo m mcap c' k := by
  subst hw
  have ho := set3_only w' B (.int .i64 (L : Int)) (.int .i64 F) (.slice ao' n' cap')
  have hk := h.keep hb
  have l2 := (Array.getElem?_eq_some_iff.1 h.res).1
  have l3 := (Array.getElem?_eq_some_iff.1 hk.res).1
  have l4 := (Array.getElem?_eq_some_iff.1 hk.bb).1
  have hap : ∀ b, ao' = some ⟨b, 0, none⟩ → b ≠ B ∧ b ≠ B + 1 + 1 := fun b hb2 => by have := hf b hb2; omega
  exact ⟨set_three hk.box, (ho.block _ l4 (by show ¬ (B + 1 = B); omega)).trans hk.bb, (ho.block _ l3 (by show ¬ (B + 1 + 1 = B); omega)).trans hk.res, hd.only ho (fun b e => (hap b e).1), hk.docb.only ho (fun b e => (h.apartb b e).1), only_below hk.b ho h.le, h.le, hap, h.apartb⟩
theorem mg_start {ao bo : Option Addr} {n cap m mcap L : Nat} {F : Int} {c k : Int → Int} {W : World} (h : DocM W ao n L c) (hk : DocM W bo m L k) : MG W (((W.alloc (.cells #[.int .i64 (L : Int), .int .i64 F, .slice ao n cap] 34)).alloc (.cells #[.int .i64 (L : Int), .int .i64 F, .slice bo m mcap] 34)).alloc (.cells #[.int .i64 0, .int .i64 0, .slice none 0 0] 34)) W.heap.size L F ao n cap bo m mcap c k := by
  obtain ⟨t1, t2, t3, t4⟩ := three_blocks W (.cells #[.int .i64 (L : Int), .int .i64 F, .slice ao n cap] 34) (.cells #[.int .i64 (L : Int), .int .i64 F, .slice bo m mcap] 34) (.cells #[.int .i64 0, .int .i64 0, .slice none 0 0] 34)
  exact ⟨t2, t3, t4, h.keep t1, hk.keep t1, t1, Nat.le_refl _, fun b hb => by have := h.2.1.2 b hb; omega, fun b hb => by have := hk.2.1.2 b hb; omega⟩

/-- what the document's Merge returns -/
def RMergePost (L : Nat) (F : Int) (c k : Int → Int) (W : World) (e : Ending) (w' : World) : Prop :=
  (1099511627776 < tot L c + tot L k ∧ e = .returned (.tuple #[.agg #[.int .i64 0, .int .i64 0, .slice none 0 0], .int .i64 5]) ∧ Below W.heap.size W w') ∨
  (tot L c + tot L k ≤ 1099511627776 ∧ ∃ d ao n cap, e = .returned (.tuple #[.agg #[.int .i64 (L : Int), .int .i64 F, .slice ao n cap], .int .i64 0]) ∧ Comp ((tot L c + tot L k) / F) L (fun q => c q + k q) d ∧ DocM w' ao n L d ∧ Below W.heap.size W w')

set_option maxRecDepth 100000 in
set_option maxHeartbeats 8000000 in
theorem refMerge (ao bo : Option Addr) (n cap m mcap L : Nat) (F : Int) (c k : Int → Int) (W : World) (h : DocM W ao n L c) (hk : DocM W bo m L k) (ht : tot L c ≤ 1099511627776) (htk : tot L k ≤ 1099511627776) (hF : 1 ≤ F) :
    Calls Try.prog 24 #[.agg #[.int .i64 (L : Int), .int .i64 F, .slice ao n cap], .agg #[.int .i64 (L : Int), .int .i64 F, .slice bo m mcap]] W (RMergePost L F c k W) := by
  have h0 : 0 ≤ tot L c := S_nonneg _ (fun i _ => h.2.2.1.1 i)
  have h0k : 0 ≤ tot L k := S_nonneg _ (fun i _ => hk.2.2.1.1 i)
  have HG0 := Lib.hid (mg_start (cap := cap) (mcap := mcap) (F := F) h hk)
  have HT := Lib.hid ht
  have HTK := Lib.hid htk
  have HGC : Hid (∀ q, 0 ≤ c q ∧ c q ≤ 1099511627776) := Lib.hid (fun q => by have := count_le h.2.2.1 q; omega)
  have HGK : Hid (∀ q, 0 ≤ k q ∧ k q ≤ 1099511627776) := Lib.hid (fun q => by have := count_le hk.2.2.1 q; omega)
  have HGD := Lib.hid hk.2.2.1
  clear h hk ht htk
  go_enter Try.func24, Try.ntmps24
  go_upto_region 1 with fail
  generalize ((W.alloc (.cells #[.int .i64 (L : Int), .int .i64 F, .slice ao n cap] 34)).alloc (.cells #[.int .i64 (L : Int), .int .i64 F, .slice bo m mcap] 34)).alloc (.cells #[.int .i64 0, .int .i64 0, .slice none 0 0] 34) = V at HG0 ⊢
  generalize W.heap.size = B at HG0 ⊢
  obtain ⟨a0, a1, a2, _, _, _⟩ := three_cells HG0.out.box
  obtain ⟨b0, b1, b2, _, _, _⟩ := three_cells HG0.out.bb
  have k1 : ((L : Int) != (L : Int)) = false := by simp
  have k2 : ((F : Int) != F) = false := by simp
  have CA1 : Hid (∀ w', Below V.heap.size V w' → Calls Try.prog 33 #[.agg #[.int .i64 (L : Int), .int .i64 F, .slice ao n cap]] w' (fun e w'' => e = .returned (.int .i64 (tot L c)) ∧ Below w'.heap.size w' w'')) := Lib.hid (fun w' hb => docCount ao n cap L _ _ c w' (HG0.out.doc.keep hb) HT.out)
  have CB1 : Hid (∀ w', Below V.heap.size V w' → Calls Try.prog 33 #[.agg #[.int .i64 (L : Int), .int .i64 F, .slice bo m mcap]] w' (fun e w'' => e = .returned (.int .i64 (tot L k)) ∧ Below w'.heap.size w' w'')) := Lib.hid (fun w' hb => docCount bo m mcap L _ _ k w' (HG0.out.docb.keep hb) HTK.out)
  have ht := HT.out
  have htk := HTK.out
  generalize hx : tot L c = x at CA1 h0 ht ⊢
  generalize hy : tot L k = y at CB1 h0k htk ⊢
  have HX := Lib.hid hx
  have HY := Lib.hid hy
  clear hx hy
  have hw : IntKind.i64.wrap (x + y) = x + y := IntWalk.i64_in _ (by omega)
  go_wp2_with fail
  go_region_held3 (fun w' => w'.cell? ⟨B, 0, none⟩ = some (.int .i64 (L : Int)) ∧ w'.cell? ⟨B, 1, none⟩ = some (.int .i64 F) ∧ w'.cell? ⟨B, 2, none⟩ = some (.slice ao n cap) ∧ w'.cell? ⟨B + 1, 0, none⟩ = some (.int .i64 (L : Int)) ∧ w'.cell? ⟨B + 1, 1, none⟩ = some (.int .i64 F) ∧ w'.cell? ⟨B + 1, 2, none⟩ = some (.slice bo m mcap)) (go_keep)
    (first | (go_at_call 33; have _t := s0; refine (CB1.out _ B4.out).mono ?_; rintro e w5 ⟨rfl, hb5⟩; have B5 := Lib.hid (below_then B4.out hb5); have u0 := cell_later hb5 s0; have u1 := cell_later hb5 s1; have u2 := cell_later hb5 s2; have u3 := cell_later hb5 s3; have u4 := cell_later hb5 s4; have u5 := cell_later hb5 s5; clear hb5) | (go_at_call 33; refine (CA1.out _ (below_drewN (Below.refl _ _) 1)).mono ?_; rintro e w4 ⟨rfl, hb4⟩; have B4 := Lib.hid (below_then (below_drewN (Below.refl V.heap.size V) 1) hb4); have s0 := cell_later B4.out a0; have s1 := cell_later B4.out a1; have s2 := cell_later B4.out a2; have s3 := cell_later B4.out b0; have s4 := cell_later B4.out b1; have s5 := cell_later B4.out b2; clear hb4))
  have HG1 := Lib.hid (HG0.out.keep B5.out)
  clear _t s0 s1 s2 s3 s4 s5 u0 u1 u2 u3 u4 u5 a0 a1 a2 b0 b1 b2 CA1 CB1 B4 hw k1 k2
  by_cases hf : 1099511627776 < x + y
  · obtain ⟨y0, y1, y2, z0, z1, z2⟩ := three_cells HG1.out.res
    have hf1 : decide (1099511627776 < x + y) = true := by simpa using hf
    go_wp2_with fail
    refine bodyPost_ret (v := .tuple #[.agg #[.int .i64 0, .int .i64 0, .slice none 0 0], .int .i64 5]) (results_cell_tmp Try.results24 _ _ (B + 1 + 1) 34 #[.int .i64 0, .int .i64 0, .slice none 0 0] (0, 0) _ rfl (set_three HG1.out.res) Try.underlying34 (by kernel_rfl) (by kernel_rfl)) rfl ?_
    exact .inl ⟨by rw [HX.out, HY.out]; exact hf, rfl, only_below HG1.out.b (set3_only _ _ _ _ _) (by have := HG1.out.le; omega)⟩
  · have hf1 : decide (1099511627776 < x + y) = false := by simpa using hf
    have HGS : Hid (MG W w5 B L F ao n cap bo m mcap (addJ c k []) k) := Lib.hid (by rw [addJ_nil]; exact HG1.out)
    have hm : m ≤ 2097152 := HG1.out.docb.len
    have HQ : Hid (∀ i, i < m → ((nodesL L k)[i]?.getD (0, 0)).1 = (idsL L k)[i]?.getD 0 ∧ ((nodesL L k)[i]?.getD (0, 0)).2 = k ((idsL L k)[i]?.getD 0) ∧ (idsL L k).take (i + 1) = (idsL L k).take i ++ [(idsL L k)[i]?.getD 0] ∧ (idsL L k)[i]?.getD 0 ∉ (idsL L k).take i ∧ 1 ≤ (idsL L k)[i]?.getD 0 ∧ (idsL L k)[i]?.getD 0 < 2 ^ (L + 1)) := Lib.hid (fun i hi => by
      have hl : (idsL L k).length = m := by have := HG1.out.docb.1; unfold nodesL at this; simpa using this
      have hi2 : i < (idsL L k).length := by omega
      have hm2 : (idsL L k)[i]?.getD 0 ∈ idsL L k := by simp [hi2]
      have h5 := HGD.out.2 _ ((mem_ids HGD.out _).1 hm2)
      refine ⟨by unfold nodesL; simp [hi2], by unfold nodesL; simp [hi2], ?_, fun hx => ?_, h5.1, h5.2⟩
      · rw [List.getElem?_eq_getElem hi2]
        exact (List.take_append_getElem hi2).symm
      · obtain ⟨j, hj, he⟩ := List.mem_iff_getElem.1 hx
        rw [List.length_take] at hj
        rw [List.getElem_take] at he
        have h3 := List.pairwise_iff_getElem.1 (ids_rise L k) j i (by omega) hi2 (by omega)
        rw [he] at h3
        simp [hi2] at h3)
    have HLQ : Hid ((idsL L k).length = m) := Lib.hid (by have := HG1.out.docb.1; unfold nodesL at this; simpa using this)
    have HW5 : Hid (W.heap.size ≤ w5.heap.size) := Lib.hid HG1.out.b.size
    clear HG1 HG0
    go_wp2_with fail
    go_loopg [6] (m + 1) (fun g t6 wr => ∃ (j : Nat) (ao1 : Option Addr) (n1 cap1 : Nat), t6 = .int .i64 (j : Int) ∧ j ≤ m ∧ j + g = m + 1 ∧ Hid (MG W wr B L F ao1 n1 cap1 bo m mcap (addJ c k ((idsL L k).take j)) k))
    case atStart => exact ⟨0, ao, n, cap, rfl, by omega, by omega, Lib.hid HGS.out⟩
    case round =>
      clear HGS
      obtain ⟨j, ao1, n1, cap1, rfl, hj, hg, HM⟩ := hrel
      obtain ⟨a0, a1, a2, f0, f1, f2⟩ := three_cells HM.out.box
      obtain ⟨b0, b1, b2, _, _, _⟩ := three_cells HM.out.bb
      by_cases hlt : j < m
      · have hlt2 : (j : Int) < (m : Int) := by omega
        obtain ⟨bb, rfl, hnn⟩ := HM.out.docb.2.1.1.at (by omega)
        have q0 := (hnn j hlt).1
        have q1 := (hnn j hlt).2
        obtain ⟨e1, e2, e3, e4, e5, e6⟩ := HQ.out j hlt
        rw [e1] at q0
        rw [e2] at q1
        generalize (idsL L k)[j]?.getD 0 = id at q0 q1 e3 e4 e5 e6
        obtain ⟨hc0, hc1⟩ := HGC.out id
        obtain ⟨hk0, hk1⟩ := HGK.out id
        obtain ⟨HJ1, HJ2⟩ := addJ_next (c := c) (k := k) e4
        have HJ := Lib.hid HJ1
        have HE3 := Lib.hid e3
        have HE := Lib.hid (And.intro e5 e6)
        generalize addJ c k ((idsL L k).take j) = cj at HM HJ HJ2
        have AT : Hid (∀ w', Below wr.heap.size wr w' → Calls Try.prog 47 #[.agg #[.int .i64 (L : Int), .int .i64 F, .slice ao1 n1 cap1], .int .i64 id] w' (fun e w'' => e = .returned (.int .i64 (c id)) ∧ Below w'.heap.size w' w'')) := Lib.hid (fun w' hb => by
          have := docAt ao1 n1 cap1 L (.int .i64 (L : Int)) (.int .i64 F) cj id w' (HM.out.doc.keep hb)
          rwa [HJ2] at this)
        have WI : Hid (∀ w', Below wr.heap.size wr w' → Calls Try.prog 46 #[.agg #[.int .i64 (L : Int), .int .i64 F, .slice ao1 n1 cap1], .int .i64 id, .int .i64 (c id + k id)] w' (OutC L F w' (updI cj id (c id + k id)))) := Lib.hid (fun w' hb => docWith ao1 n1 cap1 L F cj id (c id + k id) w' (HM.out.doc.keep hb) HE.out.1 HE.out.2 (by omega))
        rw [HJ.out] at WI
        generalize c id = x0 at *
        generalize k id = y0 at *
        have hw : IntKind.i64.wrap (x0 + y0) = x0 + y0 := IntWalk.i64_in _ (by omega)
        clear hnn e1 e2 e3 e4 e5 e6 HJ1 HJ2 HJ
        go_wp2_with fail
        refine wp_region_late (S := (fun w' => w'.cell? ⟨B, 0, none⟩ = some (.int .i64 (L : Int)) ∧ w'.cell? ⟨B, 1, none⟩ = some (.int .i64 F) ∧ w'.cell? ⟨B, 2, none⟩ = some (.slice ao1 n1 cap1) ∧ w'.cell? ⟨B + 1, 2, none⟩ = some (.slice (some ⟨bb, 0, none⟩) m mcap) ∧ w'.cell? ⟨bb, j * 2, none⟩ = some (.int .i64 id) ∧ w'.cell? ⟨bb, j * 2 + 1, none⟩ = some (.int .i64 y0))) 23 (by kernel_rfl) ⟨a0, a1, a2, b2, q0, q1⟩ (fun hS => ?_)
        refine wpAnyT_take (i := 0) (v := ?v0) rfl (by kernel_rfl) (by kernel_rfl) (by kernel_rfl) (by kernel_rfl) (fun _ _ _ h => h) (Or.inl ⟨by rfl, ?hy0⟩) hS ?rest0
        case hy0 => (intro w hSw; (try dsimp only at hSw); (first | (go_simp; done) | (go_simp; with_reducible rfl)))
        try simp only [Act.put, List.setIfInBounds_toArray, List.set_cons_zero, List.set_cons_succ]
        refine wpAnyT_take (i := 1) (v := ?v1) rfl (by kernel_rfl) (by kernel_rfl) (by kernel_rfl) (by kernel_rfl) (fun _ _ _ h => h) (Or.inl ⟨by rfl, ?hy1⟩) hS ?rest1
        case hy1 => (intro w hSw; (try dsimp only at hSw); (first | (go_simp; done) | (go_simp; with_reducible rfl)))
        try simp only [Act.put, List.setIfInBounds_toArray, List.set_cons_zero, List.set_cons_succ]
        refine wpAnyT_take (i := 2) (v := ?v2) rfl (by kernel_rfl) (by kernel_rfl) (by kernel_rfl) (by kernel_rfl) (fun _ _ _ h => h) (Or.inl ⟨by rfl, ?hy2⟩) hS ?rest2
        case hy2 => (intro w hSw; (try dsimp only at hSw); (first | (go_simp; done) | (go_simp; with_reducible rfl)))
        try simp only [Act.put, List.setIfInBounds_toArray, List.set_cons_zero, List.set_cons_succ]
        refine wpAnyT_take (i := 3) (v := ?v3) rfl (by kernel_rfl) (by kernel_rfl) (by kernel_rfl) (by kernel_rfl) (fun _ _ _ h => h) (Or.inl ⟨by rfl, ?hy3⟩) hS ?rest3
        case hy3 => (intro w hSw; (try dsimp only at hSw); (first | (go_simp; done) | (go_simp; with_reducible rfl)))
        try simp only [Act.put, List.setIfInBounds_toArray, List.set_cons_zero, List.set_cons_succ]
        refine wpAnyT_take (i := 4) (v := ?v4) rfl (by kernel_rfl) (by kernel_rfl) (by kernel_rfl) (by kernel_rfl) (fun _ _ _ h => h) (Or.inl ⟨by rfl, ?hy4⟩) hS ?rest4
        case hy4 => (intro w hSw; (try dsimp only at hSw); (first | (go_simp; done) | (go_simp; with_reducible rfl)))
        try simp only [Act.put, List.setIfInBounds_toArray, List.set_cons_zero, List.set_cons_succ]
        refine wpAnyT_take (i := 5) (v := ?v5) rfl (by kernel_rfl) (by kernel_rfl) (by kernel_rfl) (by kernel_rfl) (fun _ _ _ h => h) (Or.inl ⟨by rfl, ?hy5⟩) hS ?rest5
        case hy5 => (intro w hSw; (try dsimp only at hSw); (first | (go_simp; done) | (go_simp; with_reducible rfl)))
        try simp only [Act.put, List.setIfInBounds_toArray, List.set_cons_zero, List.set_cons_succ]
        refine wpAnyT_take (i := 6) (v := ?v6) rfl (by kernel_rfl) (by kernel_rfl) (by kernel_rfl) (by kernel_rfl) (fun _ _ _ h => h) (Or.inl ⟨by rfl, ?hy6⟩) hS ?rest6
        case hy6 => (intro w hSw; (try dsimp only at hSw); (first | (go_simp; done) | (go_simp; with_reducible rfl)))
        try simp only [Act.put, List.setIfInBounds_toArray, List.set_cons_zero, List.set_cons_succ]
        refine wpAnyT_take (i := 7) (v := ?v7) rfl (by kernel_rfl) (by kernel_rfl) (by kernel_rfl) (by kernel_rfl) (fun _ _ _ h => h) (Or.inl ⟨by rfl, ?hy7⟩) hS ?rest7
        case hy7 => (intro w hSw; (try dsimp only at hSw); (first | (go_simp; done) | (go_simp; with_reducible rfl)))
        try simp only [Act.put, List.setIfInBounds_toArray, List.set_cons_zero, List.set_cons_succ]
        refine wpAnyT_take (i := 8) (v := ?v8) rfl (by kernel_rfl) (by kernel_rfl) (by kernel_rfl) (by kernel_rfl) (fun _ _ _ h => h) (Or.inl ⟨by rfl, ?hy8⟩) hS ?rest8
        case hy8 => (intro w hSw; (try dsimp only at hSw); (first | (go_simp; done) | (go_simp; with_reducible rfl)))
        try simp only [Act.put, List.setIfInBounds_toArray, List.set_cons_zero, List.set_cons_succ]
        refine wpAnyT_take (i := 9) (v := ?v9) rfl (by kernel_rfl) (by kernel_rfl) (by kernel_rfl) (by kernel_rfl) (fun _ _ _ h => h) (Or.inl ⟨by rfl, ?hy9⟩) hS ?rest9
        case hy9 => (intro w hSw; (try dsimp only at hSw); (first | (go_simp; done) | (go_simp; with_reducible rfl)))
        try simp only [Act.put, List.setIfInBounds_toArray, List.set_cons_zero, List.set_cons_succ]
        refine wpAnyT_take (i := 10) (v := ?v10) rfl (by kernel_rfl) (by kernel_rfl) (by kernel_rfl) (by kernel_rfl) (fun _ _ _ h => h) (Or.inl ⟨by rfl, ?hy10⟩) hS ?rest10
        case hy10 => (intro w hSw; (try dsimp only at hSw); (first | (go_simp; done) | (go_simp; with_reducible rfl)))
        try simp only [Act.put, List.setIfInBounds_toArray, List.set_cons_zero, List.set_cons_succ]
        refine wpAnyT_take (i := 11) (v := ?v11) rfl (by kernel_rfl) (by kernel_rfl) (by kernel_rfl) (by kernel_rfl) (fun _ _ _ h => h) (Or.inl ⟨by rfl, ?hy11⟩) hS ?rest11
        case hy11 => (intro w hSw; (try dsimp only at hSw); (first | (go_simp; done) | (go_simp; with_reducible rfl)))
        try simp only [Act.put, List.setIfInBounds_toArray, List.set_cons_zero, List.set_cons_succ]
        refine wpAnyT_take (i := 12) (v := ?v12) rfl (by kernel_rfl) (by kernel_rfl) (by kernel_rfl) (by kernel_rfl) (fun _ _ _ h => h) (Or.inl ⟨by rfl, ?hy12⟩) hS ?rest12
        case hy12 => (intro w hSw; (try dsimp only at hSw); (first | (go_simp; done) | (go_simp; with_reducible rfl)))
        try simp only [Act.put, List.setIfInBounds_toArray, List.set_cons_zero, List.set_cons_succ]
        refine wpAnyT_take (i := 13) (v := ?v13) rfl (by kernel_rfl) (by kernel_rfl) (by kernel_rfl) (by kernel_rfl) (fun _ _ _ h => h) (Or.inl ⟨by rfl, ?hy13⟩) hS ?rest13
        case hy13 => (intro w hSw; (try dsimp only at hSw); (first | (go_simp; done) | (go_simp; with_reducible rfl)))
        try simp only [Act.put, List.setIfInBounds_toArray, List.set_cons_zero, List.set_cons_succ]
        refine wpAnyT_take (i := 15) (v := ?v15) rfl (by kernel_rfl) (by kernel_rfl) (by kernel_rfl) (by kernel_rfl) (fun _ _ _ h => h) (Or.inl ⟨by rfl, ?hy15⟩) hS ?rest15
        case hy15 => (intro w hSw; (try dsimp only at hSw); (first | (go_simp; done) | (go_simp; with_reducible rfl)))
        try simp only [Act.put, List.setIfInBounds_toArray, List.set_cons_zero, List.set_cons_succ]
        refine wpAnyT_take (i := 16) (v := ?v16) rfl (by kernel_rfl) (by kernel_rfl) (by kernel_rfl) (by kernel_rfl) (fun _ _ _ h => h) (Or.inl ⟨by rfl, ?hy16⟩) hS ?rest16
        case hy16 => (intro w hSw; (try dsimp only at hSw); (first | (go_simp; done) | (go_simp; with_reducible rfl)))
        try simp only [Act.put, List.setIfInBounds_toArray, List.set_cons_zero, List.set_cons_succ]
        refine wpAnyT_take (i := 17) (v := ?v17) rfl (by kernel_rfl) (by kernel_rfl) (by kernel_rfl) (by kernel_rfl) (fun _ _ _ h => h) (Or.inl ⟨by rfl, ?hy17⟩) hS ?rest17
        case hy17 => (intro w hSw; (try dsimp only at hSw); (first | (go_simp; done) | (go_simp; with_reducible rfl)))
        try simp only [Act.put, List.setIfInBounds_toArray, List.set_cons_zero, List.set_cons_succ]
        refine wpAnyT_take (i := 18) (v := ?v18) rfl (by kernel_rfl) (by kernel_rfl) (by kernel_rfl) (by kernel_rfl) (fun _ _ _ h => h) (Or.inl ⟨by rfl, ?hy18⟩) hS ?rest18
        case hy18 => (intro w hSw; (try dsimp only at hSw); (first | (go_simp; done) | (go_simp; with_reducible rfl)))
        try simp only [Act.put, List.setIfInBounds_toArray, List.set_cons_zero, List.set_cons_succ]
        refine wpAnyT_take (i := 19) (v := ?v19) rfl (by kernel_rfl) (by kernel_rfl) (by kernel_rfl) (by kernel_rfl) (fun _ _ _ h => h) (Or.inl ⟨by rfl, ?hy19⟩) hS ?rest19
        case hy19 => (intro w hSw; (try dsimp only at hSw); (first | (go_simp; done) | (go_simp; with_reducible rfl)))
        try simp only [Act.put, List.setIfInBounds_toArray, List.set_cons_zero, List.set_cons_succ]
        refine wpAnyT_take (i := 20) (v := ?v20) rfl (by kernel_rfl) (by kernel_rfl) (by kernel_rfl) (by kernel_rfl) (fun _ _ _ h => h) (Or.inl ⟨by rfl, ?hy20⟩) hS ?rest20
        case hy20 => (intro w hSw; (try dsimp only at hSw); (first | (go_simp; done) | (go_simp; with_reducible rfl)))
        try simp only [Act.put, List.setIfInBounds_toArray, List.set_cons_zero, List.set_cons_succ]
        refine wpAnyT_step 14 rfl (by kernel_rfl) (by decide) (fun K hK => ?_)
        try go_simp
        go_at_call 47
        refine (AT.out _ (below_drewN (Below.refl wr.heap.size wr) 1)).mono ?_
        rintro e w4 ⟨rfl, hb4⟩
        have B4 := Lib.hid (below_then (below_drewN (Below.refl wr.heap.size wr) 1) hb4)
        have s0 := cell_later B4.out a0
        have s1 := cell_later B4.out a1
        have s2 := cell_later B4.out a2
        have s3 := cell_later B4.out b2
        have s4 := cell_later B4.out q0
        have s5 := cell_later B4.out q1
        clear hb4
        refine hK.out _ _ ⟨s0, s1, s2, s3, s4, s5⟩ (fun hS => ?_)
        clear hK K
        try simp only [Act.put, List.setIfInBounds_toArray, List.set_cons_zero, List.set_cons_succ]
        refine wpAnyT_take (i := 21) (v := ?v21) rfl (by kernel_rfl) (by kernel_rfl) (by kernel_rfl) (by kernel_rfl) (fun _ _ _ h => h) (Or.inl ⟨by rfl, ?hy21⟩) hS ?rest21
        case hy21 => (intro w hSw; (try dsimp only at hSw); (first | (go_simp; done) | (go_simp; with_reducible rfl)))
        try simp only [Act.put, List.setIfInBounds_toArray, List.set_cons_zero, List.set_cons_succ]
        refine wpAnyT_step 22 rfl (by kernel_rfl) (by decide) (fun K hK => ?_)
        try go_simp
        go_at_call 46
        refine (WI.out _ B4.out).mono ?_
        rintro e w5b ⟨ao5, n5, cap5, rfl, hd5, hb5, hf5⟩
        have B5b := Lib.hid (below_then B4.out hb5)
        have D5 := Lib.hid hd5
        have F5 := Lib.hid hf5
        have y9 := three_cells (row_keep B5b.out HM.out.box)
        have u0 := y9.1
        have u1 := y9.2.1
        have u2 := y9.2.2.1
        have u3 := y9.2.2.2.1
        have u4 := y9.2.2.2.2.1
        have u5 := y9.2.2.2.2.2
        have u6 := cell_later B5b.out b2
        have u7 := cell_later B5b.out q0
        have u8 := cell_later B5b.out q1
        clear y9 hd5 hb5 hf5
        refine hK.out _ _ ⟨u0, u1, u2, u6, u7, u8⟩ (fun hS => ?_)
        clear hK K
        try simp only [Act.put, List.setIfInBounds_toArray, List.set_cons_zero, List.set_cons_succ]
        refine wpAnyT_last rfl (by kernel_rfl) (by kernel_rfl) (fun K hK => ?_)
        go_simp
        refine hK.out _ _ ?_
        clear hK K
        have HPUT := Lib.hid (HM.out.put (cap' := cap5) B5b.out D5.out (fun b hb => by have := F5.out b hb; have := B4.out.size; omega) rfl)
        clear s0 s1 s2 s3 s4 s5 u0 u1 u2 u3 u4 u5 u6 u7 u8 AT WI hS
        go_wp2_with fail
        go_roundg (gk - 1)
        case measure => omega
        case rel => exact ⟨j + 1, ao5, n5, cap5, by go_num, by omega, by omega, Lib.hid (by rw [HE3.out]; exact HPUT.out)⟩
      · obtain rfl : j = m := by omega
        rw [List.take_of_length_le (by rw [HLQ.out]; exact Nat.le_refl _), addJ_all HGD.out] at HM
        have HTT : Hid (tot L (fun q => c q + k q) = x + y) := Lib.hid (by rw [tot_sum, HX.out, HY.out])
        go_wp2_with fail
        refine (docCompress ao1 n1 cap1 L F _ wr HM.out.doc (by rw [HTT.out]; omega) hF).mono ?_
        rintro e w7 ⟨d, ao6, n6, cap6, rfl, hc6, ht6, hd6, hs6, hb6⟩
        have HM7 := Lib.hid (HM.out.keep hb6)
        have D6 := Lib.hid hd6
        have C6 := Lib.hid hc6
        have S6 := Lib.hid hs6
        have hlr : B + 1 + 1 < wr.heap.size := (Array.getElem?_eq_some_iff.1 HM.out.res).1
        have HFR : Hid (∀ b, ao6 = some ⟨b, 0, none⟩ → ¬ (b = B + 1 + 1)) := Lib.hid (fun b hb => by
          rcases S6.out with g | g
          · exact (HM.out.apart b (g ▸ hb)).2
          · have := g b hb; omega)
        obtain ⟨y0, y1, y2, z0, z1, z2⟩ := three_cells HM7.out.res
        clear hc6 ht6 hd6 hs6 hb6 a0 a1 a2 f0 f1 f2 b0 b1 b2
        go_wp2_with fail
        refine bodyPost_ret (v := .tuple #[.agg #[.int .i64 (L : Int), .int .i64 F, .slice ao6 n6 cap6], .int .i64 0]) (results_cell_tmp Try.results24 _ _ (B + 1 + 1) 34 #[.int .i64 (L : Int), .int .i64 F, .slice ao6 n6 cap6] (0, 0) _ rfl (set_three HM7.out.res) Try.underlying34 (by kernel_rfl) (by kernel_rfl)) rfl ?_
        have hcc := C6.out
        rw [HTT.out] at hcc
        exact .inr ⟨by rw [HX.out, HY.out]; omega, d, ao6, n6, cap6, rfl, by rw [HX.out, HY.out]; exact hcc, D6.out.only (set3_only _ _ _ _ _) HFR.out, only_below HM7.out.b (set3_only _ _ _ _ _) (by have := HM7.out.le; omega)⟩
end Go.Proofs.Ythjmiimkplhffaa

/- The law's same, at a digest and the document's with the same counts. (By gen_same.py.) -/
set_option linter.unusedVariables false
set_option linter.unusedSimpArgs false
namespace Go.Proofs.Ythjmiimkplhffaa
open Go.RowKit Go.Maps

set_option maxRecDepth 100000 in
set_option maxHeartbeats 4000000 in
theorem same_eq (tb L : Nat) (F : Int) (c : Int → Int) (ao : Option Addr) (n cap : Nat) (W : World) (hd : DigM W tb L F c) (hr : DocM W ao n L c) :
    Calls Try.prog 15 #[.agg #[.int .i64 (L : Int), .int .i64 F, .pointer (some ⟨tb, 0, none⟩)], .agg #[.int .i64 (L : Int), .int .i64 F, .slice ao n cap]] W (fun e w' => e = .returned (.bool true) ∧ Below W.heap.size W w') := by
  obtain ⟨t1, t2, t3, t4⟩ := two_blocks W (.cells #[.int .i64 (L : Int), .int .i64 F, .pointer (some ⟨tb, 0, none⟩)] 28) (.cells #[.int .i64 (L : Int), .int .i64 F, .slice ao n cap] 34)
  have HB := Lib.hid t1
  have R0 := Lib.hid t2
  have R1 := Lib.hid t3
  have DA := Lib.hid (hd.keep t1)
  have DR := Lib.hid (hr.keep t1)
  have hzl : (nodesL L c).length ≤ 2097152 := by rw [hr.1]; exact hr.len
  have HT : Hid (tot L c ≤ 1099511627776) := Lib.hid (by obtain ⟨mb, _, _, _, _, _, ht, _⟩ := hd; exact ht)
  have hne := hr.1
  clear t1 t2 t3 t4 hd hr
  go_enter Try.func15, Try.ntmps15
  go_upto_region 1 with fail
  generalize (W.alloc (.cells #[.int .i64 (L : Int), .int .i64 F, .pointer (some ⟨tb, 0, none⟩)] 28)).alloc (.cells #[.int .i64 (L : Int), .int .i64 F, .slice ao n cap] 34) = V at HB R0 R1 DA DR ⊢
  generalize W.heap.size = B at R0 R1 ⊢
  subst hne
  obtain ⟨a0, a1, a2, _, _, _⟩ := three_cells R0.out
  go_wp2_with fail
  refine (nodesD_any tb L F c V DA.out).mono ?_
  rintro e w1 ⟨bo, cap1, rfl, hcm, hnl, hb1⟩
  replace HB := Lib.hid (HB.out.trans (hb1.mono HB.out.size))
  replace DA := Lib.hid (DA.out.keep hb1)
  replace DR := Lib.hid (DR.out.keep hb1)
  have N1 := Lib.hid hnl
  have N2 := Lib.hid DR.out.2.1.1
  clear a0 a1 a2
  obtain ⟨m0, m1, m2, _, _, _⟩ := three_cells (row_keep hb1 R0.out)
  obtain ⟨m3, m4, m5, _, _, _⟩ := three_cells (row_keep hb1 R1.out)
  clear hb1 hnl R0 R1
  have CNT : Hid (∀ w', Below w1.heap.size w1 w' → Calls Try.prog 28 #[.agg #[.int .i64 (L : Int), .int .i64 F, .pointer (some ⟨tb, 0, none⟩)]] w' (fun e w'' => e = .returned (.int .i64 (tot L c)) ∧ Below w'.heap.size w' w'')) := Lib.hid (fun w' hb => count_any tb L F c w' (DA.out.keep hb))
  have RCN : Hid (∀ w', Below w1.heap.size w1 w' → Calls Try.prog 33 #[.agg #[.int .i64 (L : Int), .int .i64 F, .slice ao (nodesL L c).length cap]] w' (fun e w'' => e = .returned (.int .i64 (tot L c)) ∧ Below w'.heap.size w' w'')) := Lib.hid (fun w' hb => docCount ao _ cap L _ _ c w' (DR.out.keep hb) HT.out)
  clear DA DR HT
  generalize tot L c = tt at CNT RCN ⊢
  generalize nodesL L c = zs at *
  have hL9 : ((L : Int) != (L : Int)) = false := by simp
  have hF9 : ((F : Int) != F) = false := by simp
  go_wp2_with fail
  go_region_held3 (fun w' => w'.cell? ⟨B, 0, none⟩ = some (.int .i64 (L : Int)) ∧ w'.cell? ⟨B, 1, none⟩ = some (.int .i64 F) ∧ w'.cell? ⟨B, 2, none⟩ = some (.pointer (some ⟨tb, 0, none⟩)) ∧ w'.cell? ⟨B + 1, 0, none⟩ = some (.int .i64 (L : Int)) ∧ w'.cell? ⟨B + 1, 1, none⟩ = some (.int .i64 F) ∧ w'.cell? ⟨B + 1, 2, none⟩ = some (.slice ao zs.length cap)) (go_keep)
    (first
      | (go_at_call 31; refine (levels_any _ _ _ _).mono ?_; rintro e w2 ⟨rfl, hb2⟩; have B2 := Lib.hid (below_then (below_drewN (Below.refl w1.heap.size w1) 1) hb2); have n0 := cell_later B2.out m0; have n1 := cell_later B2.out m1; have n2 := cell_later B2.out m2; have n3 := cell_later B2.out m3; have n4 := cell_later B2.out m4; have n5 := cell_later B2.out m5; clear hb2)
      | (go_at_call 32; refine (factor_any _ _ _ _).mono ?_; rintro e w3 ⟨rfl, hb3⟩; have B3 := Lib.hid (below_then B2.out hb3); have o0 := cell_later hb3 n0; have o1 := cell_later hb3 n1; have o2 := cell_later hb3 n2; have o3 := cell_later hb3 n3; have o4 := cell_later hb3 n4; have o5 := cell_later hb3 n5; clear hb3)
      | (go_at_call 28; refine (CNT.out _ B3.out).mono ?_; rintro e w4 ⟨rfl, hb4⟩; have B4 := Lib.hid (below_then B3.out hb4); have p0 := cell_later hb4 o0; have p1 := cell_later hb4 o1; have p2 := cell_later hb4 o2; have p3 := cell_later hb4 o3; have p4 := cell_later hb4 o4; have p5 := cell_later hb4 o5; clear hb4)
      | (go_at_call 33; refine (RCN.out _ B4.out).mono ?_; rintro e w5 ⟨rfl, hb5⟩; have B5 := Lib.hid (below_then B4.out hb5); have q0 := cell_later hb5 p0; have q1 := cell_later hb5 p1; have q2 := cell_later hb5 p2; have q3 := cell_later hb5 p3; have q4 := cell_later hb5 p4; have q5 := cell_later hb5 p5; clear hb5))
  clear m0 m1 m2 m3 m4 m5 n0 n1 n2 n3 n4 n5 o0 o1 o2 o3 o4 o5 p0 p1 p2 p3 p4 p5 CNT RCN
  go_wp2_with fail
  go_loopg [6] (zs.length + 1) (fun g t6 wr => ∃ i : Nat, t6 = .int .i64 (i : Int) ∧ i ≤ zs.length ∧ i + g = zs.length + 1 ∧ Hid (Below w5.heap.size w5 wr))
  case atStart => exact ⟨0, rfl, by omega, by omega, Lib.hid (Below.refl _ _)⟩
  case round =>
    obtain ⟨i, rfl, hi, hg, HW⟩ := hrel
    by_cases hlt : i < zs.length
    · have hlt2 : (i : Int) < (zs.length : Int) := by omega
      obtain ⟨g1b, rfl, hn1⟩ := N1.out.at (by omega)
      obtain ⟨g2b, rfl, hn2⟩ := N2.out.at (by omega)
      have HBW := below_then B5.out HW.out
      have x0 := cell_later HBW (hn1 i hlt).1
      have x1 := cell_later HBW (hn1 i hlt).2
      have y0 := cell_later HBW (hn2 i hlt).1
      have y1 := cell_later HBW (hn2 i hlt).2
      have s5 := cell_later HW.out q5
      generalize (zs[i]?.getD (0, 0)).1 = z1 at x0 y0
      generalize (zs[i]?.getD (0, 0)).2 = z2 at x1 y1
      have k1 : ((z1 : Int) != z1) = false := by simp
      have k2 : ((z2 : Int) != z2) = false := by simp
      clear hn1 hn2 HBW
      go_wp2_with fail
      go_quiet (fail)
      go_wp2_with fail
      go_roundg (gk - 1)
      case measure => omega
      case rel => exact ⟨i + 1, by go_num, by omega, by omega, Lib.hid (below_drewN HW.out _)⟩
    · obtain rfl : i = zs.length := by omega
      go_wp2_with fail
      go_ret
      exact ⟨rfl, HB.out.trans ((below_then B5.out HW.out).mono HB.out.size)⟩
end Go.Proofs.Ythjmiimkplhffaa

/- The law's add. (By gen_lawadd.py.) -/
set_option linter.unusedVariables false
set_option linter.unusedSimpArgs false
namespace Go.Proofs.Ythjmiimkplhffaa
open Go.RowKit Go.Maps

theorem results_cell2_tmp {P : Program} {fn : Func} {p1 p2 q : Tmp} {ty1 ty2 : TypeId} (h : fn.results = #[.cell p1 ty1, .cell p2 ty2, .tmp q]) (tmps : Array Value) (w : World) (g1 g2 : Nat) (t1 t2 : TypeId) (cs1 cs2 : Array Value) (fr1 fr2 : Nat × Nat) (d1 d2 : TypeDesc)
    (hp1 : tmps.getD p1 undef = .pointer (some ⟨g1, 0, none⟩)) (hg1 : w.heap[g1]? = some (.cells cs1 t1 fr1)) (hp2 : tmps.getD p2 undef = .pointer (some ⟨g2, 0, none⟩)) (hg2 : w.heap[g2]? = some (.cells cs2 t2 fr2))
    (hu1 : P.underlying ty1 = some d1) (hd1 : (match d1 with | .struct _ | .array _ _ => true | _ => false) = true) (hi1 : (P.info? ty1).map (·.size) = some cs1.size)
    (hu2 : P.underlying ty2 = some d2) (hd2 : (match d2 with | .struct _ | .array _ _ => true | _ => false) = true) (hi2 : (P.info? ty2).map (·.size) = some cs2.size) :
    (results fn tmps).run P w = .ok (.tuple #[.agg cs1, .agg cs2, tmps.getD q undef]) w := by
  have hp1' : tmps[p1]?.getD undef = .pointer (some ⟨g1, 0, none⟩) := by simpa using hp1
  have hp2' : tmps[p2]?.getD undef = .pointer (some ⟨g2, 0, none⟩) := by simpa using hp2
  simp [results, h, hp1', hp2', asAddr, run_loadVar_row w g1 t1 ty1 cs1 fr1 d1 hg1 hu1 hd1 hi1, run_loadVar_row w g2 t2 ty2 cs2 fr2 d2 hg2 hu2 hd2 hi2, Result.andThen]

theorem five_blocks (W : World) (a b c d e : Obj) : Below W.heap.size W (((((W.alloc a).alloc b).alloc c).alloc d).alloc e) ∧ (((((W.alloc a).alloc b).alloc c).alloc d).alloc e).heap[W.heap.size]? = some a ∧ (((((W.alloc a).alloc b).alloc c).alloc d).alloc e).heap[W.heap.size + 1]? = some b ∧
    (((((W.alloc a).alloc b).alloc c).alloc d).alloc e).heap[W.heap.size + 1 + 1]? = some c ∧ (((((W.alloc a).alloc b).alloc c).alloc d).alloc e).heap[W.heap.size + 1 + 1 + 1]? = some d ∧ (((((W.alloc a).alloc b).alloc c).alloc d).alloc e).heap[W.heap.size + 1 + 1 + 1 + 1]? = some e := by
  obtain ⟨h1, h2, h3, h4⟩ := two_blocks W a b
  generalize (W.alloc a).alloc b = V at h1 h2 h3 h4 ⊢
  have e1 : V.heap.size = W.heap.size + 1 + 1 := by omega
  obtain ⟨k1, k2, k3, k4⟩ := two_blocks V c d
  generalize (V.alloc c).alloc d = U at k1 k2 k3 k4 ⊢
  have e2 : U.heap.size = W.heap.size + 1 + 1 + 1 + 1 := by omega
  rw [e1] at k2 k3
  have hU := below_then h1 k1
  have hb := box_below U e
  have j5 := heap_alloc_new U e
  rw [e2] at j5
  exact ⟨below_then hU hb, row_keep hb (row_keep k1 h2), row_keep hb (row_keep k1 h3), row_keep hb k2, row_keep hb k3, j5⟩

/-- the number of the error -/
def errOf (L : Nat) (v m : Int) : Int := if 0 ≤ v ∧ v < 2 ^ L ∧ 1 ≤ m then 5 else 2
theorem err_of {L : Nat} {v m er : Int} (h : er = 2 ∧ ¬ AddOk L v m ∨ er = 5 ∧ AddOk L v m) : er = errOf L v m := by
  unfold errOf
  rcases h with ⟨h1, h2⟩ | ⟨h1, h2⟩
  · rw [if_neg (show ¬ (0 ≤ v ∧ v < 2 ^ L ∧ 1 ≤ m) from h2), h1]
  · rw [if_pos (show 0 ≤ v ∧ v < 2 ^ L ∧ 1 ≤ m from h2), h1]
theorem err_ne (L : Nat) (v m : Int) : errOf L v m ≠ 0 ∧ 0 ≤ errOf L v m ∧ errOf L v m ≤ 10 := by unfold errOf; split <;> omega
theorem addNo (tb L : Nat) (F : Int) (c : Int → Int) (v m : Int) (W : World) (h : DigM W tb L F c) (hf : ¬ Fits L c v m) :
    Calls Try.prog 25 #[.agg #[.int .i64 (L : Int), .int .i64 F, .pointer (some ⟨tb, 0, none⟩)], .int .i64 v, .int .i64 m] W (fun e w' => e = .returned (.tuple #[.agg #[.int .i64 0, .int .i64 0, .pointer none], .int .i64 (errOf L v m)]) ∧ Below W.heap.size W w') := by
  refine (add_gen tb L F c v m W h).mono ?_
  rintro e w' ⟨a, b, p, er, he, hb, k | k⟩
  · obtain ⟨_, _, rfl, rfl, rfl, k2⟩ := k
    rw [err_of k2] at he
    exact ⟨he, hb⟩
  · exact absurd k.2.1 hf
theorem refNo (ao : Option Addr) (n cap L : Nat) (F : Int) (c : Int → Int) (v m : Int) (W : World) (h : DocM W ao n L c) (ht : tot L c ≤ 1099511627776) (hF : 1 ≤ F) (hf : ¬ Fits L c v m) :
    Calls Try.prog 34 #[.agg #[.int .i64 (L : Int), .int .i64 F, .slice ao n cap], .int .i64 v, .int .i64 m] W (fun e w' => e = .returned (.tuple #[.agg #[.int .i64 0, .int .i64 0, .slice none 0 0], .int .i64 (errOf L v m)]) ∧ Below W.heap.size W w') := by
  refine (refAdd ao n cap L F c v m W h ht hF).mono ?_
  rintro e w' ⟨a, b, ao1, n1, cap1, er, he, hb, k | k⟩
  · obtain ⟨_, _, rfl, rfl, rfl, rfl, rfl, k2⟩ := k
    rw [err_of k2] at he
    exact ⟨he, hb⟩
  · exact absurd k.2.1 hf
/-- one step of both -/
def StepTo (L : Nat) (F : Int) (c : Int → Int) (v m : Int) (d : Int → Int) : Prop := Comp ((tot L c + m) / F) L (fun q => c q + leafF (2 ^ L + v) m q) d ∧ tot L d = tot L c + m
theorem addYes2 (tb L : Nat) (F : Int) (c : Int → Int) (v m : Int) (W : World) (h : DigM W tb L F c) (hf : Fits L c v m) :
    Calls Try.prog 25 #[.agg #[.int .i64 (L : Int), .int .i64 F, .pointer (some ⟨tb, 0, none⟩)], .int .i64 v, .int .i64 m] W (fun e w' => ∃ T d, e = .returned (.tuple #[.agg #[.int .i64 (L : Int), .int .i64 F, .pointer (some ⟨T, 0, none⟩)], .int .i64 0]) ∧ StepTo L F c v m d ∧ DigM w' T L F d ∧ Below W.heap.size W w' ∧ W.heap.size ≤ T) := by
  refine (add_gen tb L F c v m W h).mono ?_
  rintro e w' ⟨a, b, p, er, he, hb, k | k⟩
  · exact absurd hf k.2.1
  · obtain ⟨rfl, _, T, d, rfl, rfl, rfl, k0, k1, k2, k3⟩ := k
    exact ⟨T, d, he, ⟨k1, k3⟩, k2, hb, k0⟩
theorem refYes2 (ao : Option Addr) (n cap L : Nat) (F : Int) (c : Int → Int) (v m : Int) (W : World) (h : DocM W ao n L c) (ht : tot L c ≤ 1099511627776) (hF : 1 ≤ F) (hf : Fits L c v m) :
    Calls Try.prog 34 #[.agg #[.int .i64 (L : Int), .int .i64 F, .slice ao n cap], .int .i64 v, .int .i64 m] W (fun e w' => ∃ ao1 n1 cap1 d, e = .returned (.tuple #[.agg #[.int .i64 (L : Int), .int .i64 F, .slice ao1 n1 cap1], .int .i64 0]) ∧ StepTo L F c v m d ∧ DocM w' ao1 n1 L d ∧ Below W.heap.size W w' ∧ ∀ b, ao1 = some ⟨b, 0, none⟩ → W.heap.size ≤ b) := by
  refine (refAdd ao n cap L F c v m W h ht hF).mono ?_
  rintro e w' ⟨a, b, ao1, n1, cap1, er, he, hb, k | k⟩
  · exact absurd hf k.2.1
  · obtain ⟨rfl, _, rfl, rfl, d, k1, k2, k3, k4⟩ := k
    exact ⟨ao1, n1, cap1, d, he, ⟨k1, k2⟩, k3, hb, k4⟩

/-- both digests are returned -/
def BothPost (L : Nat) (F : Int) (tb0 : Nat) (ao0 : Option Addr) (W : World) (e : Ending) (w' : World) : Prop :=
  ∃ tb d ao n cap, e = .returned (.tuple #[.agg #[.int .i64 (L : Int), .int .i64 F, .pointer (some ⟨tb, 0, none⟩)], .agg #[.int .i64 (L : Int), .int .i64 F, .slice ao n cap], .bool true]) ∧ DigM w' tb L F d ∧ DocM w' ao n L d ∧ Below W.heap.size W w' ∧ (tb = tb0 ∨ W.heap.size ≤ tb) ∧ Src W ao0 ao
theorem both_done {W w : World} {B6 B7 tb L n cap : Nat} {F : Int} {ao : Option Addr} {d : Int → Int} (hb : Below W.heap.size W w) (h6 : W.heap.size ≤ B6) (h7 : W.heap.size ≤ B7) (hne : B6 ≠ B7) (z6 : w.heap[B6]? = some (.cells #[.int .i64 0, .int .i64 0, .pointer none] 28 (0, 0))) (z7 : w.heap[B7]? = some (.cells #[.int .i64 0, .int .i64 0, .slice none 0 0] 34 (0, 0)))
    (hd : DigM w tb L F d) (ht : tb ≠ B6 ∧ tb ≠ B7) (hr : DocM w ao n L d) (ha : ∀ b, ao = some ⟨b, 0, none⟩ → b ≠ B6 ∧ b ≠ B7) {w' : World}
    (hw : w' = ((((((w.setCell ⟨B6, 0, none⟩ (.int .i64 (L : Int))).setCell ⟨B6, 1, none⟩ (.int .i64 F)).setCell ⟨B6, 2, none⟩ (.pointer (some ⟨tb, 0, none⟩))).setCell ⟨B7, 0, none⟩ (.int .i64 (L : Int))).setCell ⟨B7, 1, none⟩ (.int .i64 F)).setCell ⟨B7, 2, none⟩ (.slice ao n cap))) :
    w'.heap[B6]? = some (.cells #[.int .i64 (L : Int), .int .i64 F, .pointer (some ⟨tb, 0, none⟩)] 28 (0, 0)) ∧ w'.heap[B7]? = some (.cells #[.int .i64 (L : Int), .int .i64 F, .slice ao n cap] 34 (0, 0)) ∧ DigM w' tb L F d ∧ DocM w' ao n L d ∧ Below W.heap.size W w' := by
  have o6 := set3_only w B6 (.int .i64 (L : Int)) (.int .i64 F) (.pointer (some ⟨tb, 0, none⟩))
  have s6 := set_three (x := .int .i64 (L : Int)) (y := .int .i64 F) (z := .pointer (some ⟨tb, 0, none⟩)) z6
  have l6 := (Array.getElem?_eq_some_iff.1 z6).1
  have l7 := (Array.getElem?_eq_some_iff.1 z7).1
  have k7 := (o6.block B7 l7 (fun e => hne e.symm)).trans z7
  subst hw
  generalize ((w.setCell ⟨B6, 0, none⟩ (.int .i64 (L : Int))).setCell ⟨B6, 1, none⟩ (.int .i64 F)).setCell ⟨B6, 2, none⟩ (.pointer (some ⟨tb, 0, none⟩)) = w1 at o6 s6 k7 ⊢
  have o7 := set3_only w1 B7 (.int .i64 (L : Int)) (.int .i64 F) (.slice ao n cap)
  have hs6 := o6.size
  refine ⟨(o7.block B6 (by omega) hne).trans s6, set_three k7, ?_, ?_, only_below (only_below hb o6 h6) o7 h7⟩
  · refine (hd.only o6 ht.1 (fun i hi _ => by subst hi; exact ⟨_, _, _, z6⟩)).only o7 ht.2 (fun i hi _ => by subst hi; exact ⟨_, _, _, k7⟩)
  · exact (hr.only o6 (fun b e => (ha b e).1)).only o7 (fun b e => (ha b e).2)

set_option maxRecDepth 100000 in
set_option maxHeartbeats 8000000 in
theorem lawAdd_no (tb L : Nat) (F : Int) (c : Int → Int) (ao : Option Addr) (n cap : Nat) (v m : Int) (W : World) (hd : DigM W tb L F c) (hr : DocM W ao n L c) (hf : ¬ Fits L c v m) :
    Calls Try.prog 16 #[.agg #[.int .i64 (L : Int), .int .i64 F, .pointer (some ⟨tb, 0, none⟩)], .agg #[.int .i64 (L : Int), .int .i64 F, .slice ao n cap], .agg #[.int .i64 v, .int .i64 m]] W (BothPost L F tb ao W) := by
  obtain ⟨t1, t2, t3, t4, t5, t6⟩ := five_blocks W (.cells #[.int .i64 (L : Int), .int .i64 F, .pointer (some ⟨tb, 0, none⟩)] 28) (.cells #[.int .i64 (L : Int), .int .i64 F, .slice ao n cap] 34) (.cells #[.int .i64 v, .int .i64 m] 43) (.cells #[.int .i64 0, .int .i64 0, .pointer none] 28) (.cells #[.int .i64 0, .int .i64 0, .slice none 0 0] 34)
  have HB := Lib.hid t1
  have R3 := Lib.hid t2
  have R4 := Lib.hid t3
  have R5 := Lib.hid t4
  have R6 := Lib.hid t5
  have R7 := Lib.hid t6
  have DA := Lib.hid (hd.keep t1)
  have DR := Lib.hid (hr.keep t1)
  have HT : Hid (tot L c ≤ 1099511627776 ∧ 1 ≤ F) := Lib.hid (by obtain ⟨mb, _, _, _, hR, _, ht, _⟩ := hd; exact ⟨ht, hR.2.2.1⟩)
  have HTB : Hid (tb < W.heap.size) := Lib.hid (by obtain ⟨mb, _, _, h3, _⟩ := hd; exact h3)
  have HAO : Hid (∀ b, ao = some ⟨b, 0, none⟩ → b < W.heap.size) := Lib.hid hr.2.1.2
  have HF := Lib.hid hf
  clear t1 t2 t3 t4 t5 t6 hd hr hf
  go_enter Try.func16, Try.ntmps16
  go_upto_region 1 with fail
  generalize hV : ((((W.alloc (.cells #[.int .i64 (L : Int), .int .i64 F, .pointer (some ⟨tb, 0, none⟩)] 28)).alloc (.cells #[.int .i64 (L : Int), .int .i64 F, .slice ao n cap] 34)).alloc (.cells #[.int .i64 v, .int .i64 m] 43)).alloc (.cells #[.int .i64 0, .int .i64 0, .pointer none] 28)).alloc (.cells #[.int .i64 0, .int .i64 0, .slice none 0 0] 34) = V at HB R3 R4 R5 R6 R7 DA DR ⊢
  clear hV
  generalize hBW : W.heap.size = B at R3 R4 R5 R6 R7 ⊢
  have HBW := Lib.hid hBW
  clear hBW
  obtain ⟨a0, a1, a2, _, _, _⟩ := three_cells R3.out
  obtain ⟨b0, b1, _, _⟩ := two_cells R5.out
  go_wp2_with fail
  refine (addNo tb L F c v m V DA.out HF.out).mono ?_
  rintro e w1 ⟨rfl, hb1⟩
  replace HB := Lib.hid (HB.out.trans (hb1.mono HB.out.size))
  replace R3 := Lib.hid (row_keep hb1 R3.out)
  replace R4 := Lib.hid (row_keep hb1 R4.out)
  replace R5 := Lib.hid (row_keep hb1 R5.out)
  replace R6 := Lib.hid (row_keep hb1 R6.out)
  replace R7 := Lib.hid (row_keep hb1 R7.out)
  replace DA := Lib.hid (DA.out.keep hb1)
  replace DR := Lib.hid (DR.out.keep hb1)
  have HR7 := R7
  clear hb1 a0 a1 a2 b0 b1
  go_upto_region 2 with fail
  have K := box_below w1 (.cells #[.int .i64 0, .int .i64 0, .pointer none] 28)
  have R9 := Lib.hid (cells_new w1 #[.int .i64 0, .int .i64 0, .pointer none] 28)
  replace HB := Lib.hid (HB.out.trans (K.mono HB.out.size))
  replace R3 := Lib.hid (row_keep K R3.out)
  replace R4 := Lib.hid (row_keep K R4.out)
  replace R5 := Lib.hid (row_keep K R5.out)
  replace R6 := Lib.hid (row_keep K R6.out)
  replace R7 := Lib.hid (row_keep K R7.out)
  replace DA := Lib.hid (DA.out.keep K)
  replace DR := Lib.hid (DR.out.keep K)
  clear K
  generalize w1.alloc (.cells #[.int .i64 0, .int .i64 0, .pointer none] 28) = V1 at HB R3 R4 R5 R6 R7 DA DR R9 ⊢
  have hl7 := (Array.getElem?_eq_some_iff.1 HR7.out).1
  generalize w1.heap.size = B9 at R9 hl7 ⊢
  have HB9 := Lib.hid hl7
  clear hl7
  obtain ⟨a0, a1, a2, _, _, _⟩ := three_cells R4.out
  obtain ⟨b0, b1, _, _⟩ := two_cells R5.out
  go_wp2_with fail
  refine (refNo ao n cap L F c v m V1 DR.out HT.out.1 HT.out.2 HF.out).mono ?_
  rintro e w2 ⟨rfl, hb2⟩
  replace HB := Lib.hid (HB.out.trans (hb2.mono HB.out.size))
  replace R3 := Lib.hid (row_keep hb2 R3.out)
  replace R4 := Lib.hid (row_keep hb2 R4.out)
  replace R5 := Lib.hid (row_keep hb2 R5.out)
  replace R6 := Lib.hid (row_keep hb2 R6.out)
  replace R7 := Lib.hid (row_keep hb2 R7.out)
  replace R9 := Lib.hid (row_keep hb2 R9.out)
  replace DA := Lib.hid (DA.out.keep hb2)
  replace DR := Lib.hid (DR.out.keep hb2)
  clear hb2 a0 a1 a2 b0 b1
  go_upto_region 3 with fail
  have K := box_below w2 (.cells #[.int .i64 0, .int .i64 0, .slice none 0 0] 34)
  have R11 := Lib.hid (cells_new w2 #[.int .i64 0, .int .i64 0, .slice none 0 0] 34)
  replace HB := Lib.hid (HB.out.trans (K.mono HB.out.size))
  replace R3 := Lib.hid (row_keep K R3.out)
  replace R4 := Lib.hid (row_keep K R4.out)
  replace R5 := Lib.hid (row_keep K R5.out)
  replace R6 := Lib.hid (row_keep K R6.out)
  replace R7 := Lib.hid (row_keep K R7.out)
  replace R9 := Lib.hid (row_keep K R9.out)
  replace DA := Lib.hid (DA.out.keep K)
  replace DR := Lib.hid (DR.out.keep K)
  clear K
  generalize w2.alloc (.cells #[.int .i64 0, .int .i64 0, .slice none 0 0] 34) = V2 at HB R3 R4 R5 R6 R7 R9 DA DR R11 ⊢
  generalize w2.heap.size = B11 at R11 ⊢
  obtain ⟨x0, x1, x2⟩ := err_ne L v m
  generalize errOf L v m = er at x0 x1 x2 ⊢
  have x3 : ((er : Int) == 0) = false := by simpa using x0
  have x4 : ((er : Int) != 0) = true := by simpa using x0
  have x5 : ((er : Int) == er) = true := by simp
  obtain ⟨a0, a1, a2, _, _, _⟩ := three_cells R3.out
  obtain ⟨a3, a4, a5, _, _, _⟩ := three_cells R4.out
  obtain ⟨a6, a7, a8, _, _, _⟩ := three_cells R9.out
  go_wp2_with fail
  have n0 : B ≠ B + 1 + 1 + 1 := by omega
  have p0 : B ≠ B + 1 + 1 + 1 + 1 := by omega
  have n1 : B ≠ B + 1 + 1 + 1 := by omega
  have p1 : B ≠ B + 1 + 1 + 1 + 1 := by omega
  have n2 : B ≠ B + 1 + 1 + 1 := by omega
  have p2 : B ≠ B + 1 + 1 + 1 + 1 := by omega
  have n3 : B + 1 ≠ B + 1 + 1 + 1 := by omega
  have p3 : B + 1 ≠ B + 1 + 1 + 1 + 1 := by omega
  have n4 : B + 1 ≠ B + 1 + 1 + 1 := by omega
  have p4 : B + 1 ≠ B + 1 + 1 + 1 + 1 := by omega
  have n5 : B + 1 ≠ B + 1 + 1 + 1 := by omega
  have p5 : B + 1 ≠ B + 1 + 1 + 1 + 1 := by omega
  have n6 : B9 ≠ B + 1 + 1 + 1 := by have := HB9.out; omega
  have p6 : B9 ≠ B + 1 + 1 + 1 + 1 := by have := HB9.out; omega
  have n7 := n6
  have n8 := n6
  have p7 := p6
  have p8 := p6
  go_region_held3 (fun w' => w'.cell? ⟨B, 0, none⟩ = some (.int .i64 (L : Int)) ∧ w'.cell? ⟨B, 1, none⟩ = some (.int .i64 F) ∧ w'.cell? ⟨B, 2, none⟩ = some (.pointer (some ⟨tb, 0, none⟩)) ∧ w'.cell? ⟨B + 1, 0, none⟩ = some (.int .i64 (L : Int)) ∧ w'.cell? ⟨B + 1, 1, none⟩ = some (.int .i64 F) ∧ w'.cell? ⟨B + 1, 2, none⟩ = some (.slice ao n cap) ∧ w'.cell? ⟨B9, 0, none⟩ = some (.int .i64 0) ∧ w'.cell? ⟨B9, 1, none⟩ = some (.int .i64 0) ∧ w'.cell? ⟨B9, 2, none⟩ = some (.pointer none)) (first | with_reducible exact ⟨keep_set3 v0 n0, keep_set3 v1 n1, keep_set3 v2 n2, keep_set3 v3 n3, keep_set3 v4 n4, keep_set3 v5 n5, keep_set3 v6 n6, keep_set3 v7 n7, keep_set3 v8 n8⟩ | with_reducible exact ⟨keep_set3 (keep_set3 v0 n0) p0, keep_set3 (keep_set3 v1 n1) p1, keep_set3 (keep_set3 v2 n2) p2, keep_set3 (keep_set3 v3 n3) p3, keep_set3 (keep_set3 v4 n4) p4, keep_set3 (keep_set3 v5 n5) p5, keep_set3 (keep_set3 v6 n6) p6, keep_set3 (keep_set3 v7 n7) p7, keep_set3 (keep_set3 v8 n8) p8⟩ | with_reducible exact ⟨keep_set3 v0 p0, keep_set3 v1 p1, keep_set3 v2 p2, keep_set3 v3 p3, keep_set3 v4 p4, keep_set3 v5 p5, keep_set3 v6 p6, keep_set3 v7 p7, keep_set3 v8 p8⟩ | with_reducible exact ⟨keep_set3 (keep_set3 v0 p0) n0, keep_set3 (keep_set3 v1 p1) n1, keep_set3 (keep_set3 v2 p2) n2, keep_set3 (keep_set3 v3 p3) n3, keep_set3 (keep_set3 v4 p4) n4, keep_set3 (keep_set3 v5 p5) n5, keep_set3 (keep_set3 v6 p6) n6, keep_set3 (keep_set3 v7 p7) n7, keep_set3 (keep_set3 v8 p8) n8⟩ | go_keep)
    (first | (go_at_call 15; refine (same_zero _).mono ?_; rintro e w4 ⟨rfl, hb4⟩; have B4 := Lib.hid (below_then (below_drewN (Below.refl V2.heap.size V2) 1) hb4); have v0 := cell_later B4.out a0; have v1 := cell_later B4.out a1; have v2 := cell_later B4.out a2; have v3 := cell_later B4.out a3; have v4 := cell_later B4.out a4; have v5 := cell_later B4.out a5; have v6 := cell_later B4.out a6; have v7 := cell_later B4.out a7; have v8 := cell_later B4.out a8; have Z6 := Lib.hid (row_keep B4.out R6.out); have Z7 := Lib.hid (row_keep B4.out R7.out); have y0 := (three_cells Z6.out).1; have y1 := (three_cells Z6.out).2.1; have y2 := (three_cells Z6.out).2.2.1; have y3 := (three_cells Z6.out).2.2.2.1; have y4 := (three_cells Z6.out).2.2.2.2.1; have y5 := (three_cells Z6.out).2.2.2.2.2; have z0 := (three_cells Z7.out).1; have z1 := (three_cells Z7.out).2.1; have z2 := (three_cells Z7.out).2.2.1; have z3 := (three_cells Z7.out).2.2.2.1; have z4 := (three_cells Z7.out).2.2.2.2.1; have z5 := (three_cells Z7.out).2.2.2.2.2; clear hb4))
  have HW4 := HB.out.trans (B4.out.mono HB.out.size)
  have HD := Lib.hid (both_done (B6 := B + 1 + 1 + 1) (B7 := B + 1 + 1 + 1 + 1) (cap := cap) HW4 (by have := HBW.out; omega) (by have := HBW.out; omega) (by omega) Z6.out Z7.out (DA.out.keep B4.out) (⟨by have := HTB.out; have := HBW.out; omega, by have := HTB.out; have := HBW.out; omega⟩) (DR.out.keep B4.out) (fun b hb => by have := HAO.out b hb; have := HBW.out; omega) rfl)
  clear HW4 y0 y1 y2 y3 y4 y5 z0 z1 z2 z3 z4 z5
  go_wp2
  refine bodyPost_ret (v := .tuple #[.agg #[.int .i64 (L : Int), .int .i64 F, .pointer (some ⟨tb, 0, none⟩)], .agg #[.int .i64 (L : Int), .int .i64 F, .slice ao n cap], .bool true]) (results_cell2_tmp Try.results16 _ _ (B + 1 + 1 + 1) (B + 1 + 1 + 1 + 1) 28 34 _ _ (0, 0) (0, 0) _ _ rfl HD.out.1 rfl HD.out.2.1 Try.underlying28 (by kernel_rfl) (by kernel_rfl) Try.underlying34 (by kernel_rfl) (by kernel_rfl)) rfl ?_
  exact ⟨tb, c, ao, n, cap, rfl, HD.out.2.2.1, HD.out.2.2.2.1, HD.out.2.2.2.2, .inl rfl, .inl rfl⟩

set_option maxRecDepth 100000 in
set_option maxHeartbeats 8000000 in
theorem lawAdd_yes (tb L : Nat) (F : Int) (c : Int → Int) (ao : Option Addr) (n cap : Nat) (v m : Int) (W : World) (hd : DigM W tb L F c) (hr : DocM W ao n L c) (hf : Fits L c v m) :
    Calls Try.prog 16 #[.agg #[.int .i64 (L : Int), .int .i64 F, .pointer (some ⟨tb, 0, none⟩)], .agg #[.int .i64 (L : Int), .int .i64 F, .slice ao n cap], .agg #[.int .i64 v, .int .i64 m]] W (BothPost L F tb ao W) := by
  obtain ⟨t1, t2, t3, t4, t5, t6⟩ := five_blocks W (.cells #[.int .i64 (L : Int), .int .i64 F, .pointer (some ⟨tb, 0, none⟩)] 28) (.cells #[.int .i64 (L : Int), .int .i64 F, .slice ao n cap] 34) (.cells #[.int .i64 v, .int .i64 m] 43) (.cells #[.int .i64 0, .int .i64 0, .pointer none] 28) (.cells #[.int .i64 0, .int .i64 0, .slice none 0 0] 34)
  have HB := Lib.hid t1
  have R3 := Lib.hid t2
  have R4 := Lib.hid t3
  have R5 := Lib.hid t4
  have R6 := Lib.hid t5
  have R7 := Lib.hid t6
  have DA := Lib.hid (hd.keep t1)
  have DR := Lib.hid (hr.keep t1)
  have HT : Hid (tot L c ≤ 1099511627776 ∧ 1 ≤ F) := Lib.hid (by obtain ⟨mb, _, _, _, hR, _, ht, _⟩ := hd; exact ⟨ht, hR.2.2.1⟩)
  have HTB : Hid (tb < W.heap.size) := Lib.hid (by obtain ⟨mb, _, _, h3, _⟩ := hd; exact h3)
  have HAO : Hid (∀ b, ao = some ⟨b, 0, none⟩ → b < W.heap.size) := Lib.hid hr.2.1.2
  have HF := Lib.hid hf
  clear t1 t2 t3 t4 t5 t6 hd hr hf
  go_enter Try.func16, Try.ntmps16
  go_upto_region 1 with fail
  generalize hV : ((((W.alloc (.cells #[.int .i64 (L : Int), .int .i64 F, .pointer (some ⟨tb, 0, none⟩)] 28)).alloc (.cells #[.int .i64 (L : Int), .int .i64 F, .slice ao n cap] 34)).alloc (.cells #[.int .i64 v, .int .i64 m] 43)).alloc (.cells #[.int .i64 0, .int .i64 0, .pointer none] 28)).alloc (.cells #[.int .i64 0, .int .i64 0, .slice none 0 0] 34) = V at HB R3 R4 R5 R6 R7 DA DR ⊢
  clear hV
  generalize hBW : W.heap.size = B at R3 R4 R5 R6 R7 ⊢
  have HBW := Lib.hid hBW
  clear hBW
  obtain ⟨a0, a1, a2, _, _, _⟩ := three_cells R3.out
  obtain ⟨b0, b1, _, _⟩ := two_cells R5.out
  go_wp2_with fail
  refine (addYes2 tb L F c v m V DA.out HF.out).mono ?_
  rintro e w1 ⟨T1, d, rfl, hst, hdm, hb1, hT1⟩
  have ST := Lib.hid hst
  have D1 := Lib.hid hdm
  have HR7 := R7
  replace HB := Lib.hid (HB.out.trans (hb1.mono HB.out.size))
  replace R3 := Lib.hid (row_keep hb1 R3.out)
  replace R4 := Lib.hid (row_keep hb1 R4.out)
  replace R5 := Lib.hid (row_keep hb1 R5.out)
  replace R6 := Lib.hid (row_keep hb1 R6.out)
  replace R7 := Lib.hid (row_keep hb1 R7.out)
  replace DR := Lib.hid (DR.out.keep hb1)
  have HT1 : Hid (B + 1 + 1 + 1 + 1 < T1) := Lib.hid (by have := (Array.getElem?_eq_some_iff.1 HR7.out).1; omega)
  clear hb1 a0 a1 a2 b0 b1 hst hdm hT1 DA
  go_upto_region 2 with fail
  have W7 := R7.out
  have K := box_below w1 (.cells #[.int .i64 (L : Int), .int .i64 F, .pointer (some ⟨T1, 0, none⟩)] 28)
  have R9 := Lib.hid (cells_new w1 #[.int .i64 (L : Int), .int .i64 F, .pointer (some ⟨T1, 0, none⟩)] 28)
  replace HB := Lib.hid (HB.out.trans (K.mono HB.out.size))
  replace R3 := Lib.hid (row_keep K R3.out)
  replace R4 := Lib.hid (row_keep K R4.out)
  replace R5 := Lib.hid (row_keep K R5.out)
  replace R6 := Lib.hid (row_keep K R6.out)
  replace R7 := Lib.hid (row_keep K R7.out)
  replace D1 := Lib.hid (D1.out.keep K)
  replace DR := Lib.hid (DR.out.keep K)
  clear K
  generalize w1.alloc (.cells #[.int .i64 (L : Int), .int .i64 F, .pointer (some ⟨T1, 0, none⟩)] 28) = V1 at HB R3 R4 R5 R6 R7 D1 DR R9 ⊢
  have hl7 : B + 1 + 1 + 1 + 1 < w1.heap.size := (Array.getElem?_eq_some_iff.1 W7).1
  generalize w1.heap.size = B9 at R9 hl7 ⊢
  have HB9 := Lib.hid hl7
  clear hl7
  obtain ⟨a0, a1, a2, _, _, _⟩ := three_cells R4.out
  obtain ⟨b0, b1, _, _⟩ := two_cells R5.out
  have HR7 := R7
  go_wp2_with fail
  refine (refYes2 ao n cap L F c v m V1 DR.out HT.out.1 HT.out.2 HF.out).mono ?_
  rintro e w2 ⟨ao1, n1, cap1, d1, rfl, hst, hdc, hb2, hfr⟩
  have hdd : d1 = d := hst.1.same ST.out.1
  have HA1 : Hid (∀ b, ao1 = some ⟨b, 0, none⟩ → B + 1 + 1 + 1 + 1 < b) := Lib.hid (fun b hb => by have := (Array.getElem?_eq_some_iff.1 HR7.out).1; have := hfr b hb; omega)
  rw [hdd] at hdc
  replace DR := Lib.hid hdc
  replace HB := Lib.hid (HB.out.trans (hb2.mono HB.out.size))
  replace R3 := Lib.hid (row_keep hb2 R3.out)
  replace R4 := Lib.hid (row_keep hb2 R4.out)
  replace R5 := Lib.hid (row_keep hb2 R5.out)
  replace R6 := Lib.hid (row_keep hb2 R6.out)
  replace R7 := Lib.hid (row_keep hb2 R7.out)
  replace R9 := Lib.hid (row_keep hb2 R9.out)
  replace D1 := Lib.hid (D1.out.keep hb2)
  clear hb2 a0 a1 a2 b0 b1 hst hdc hfr hdd ST
  go_upto_region 3 with fail
  clear W7
  have W7 := R7.out
  have K := box_below w2 (.cells #[.int .i64 (L : Int), .int .i64 F, .slice ao1 n1 cap1] 34)
  have R11 := Lib.hid (cells_new w2 #[.int .i64 (L : Int), .int .i64 F, .slice ao1 n1 cap1] 34)
  replace HB := Lib.hid (HB.out.trans (K.mono HB.out.size))
  replace R3 := Lib.hid (row_keep K R3.out)
  replace R4 := Lib.hid (row_keep K R4.out)
  replace R5 := Lib.hid (row_keep K R5.out)
  replace R6 := Lib.hid (row_keep K R6.out)
  replace R7 := Lib.hid (row_keep K R7.out)
  replace R9 := Lib.hid (row_keep K R9.out)
  replace D1 := Lib.hid (D1.out.keep K)
  replace DR := Lib.hid (DR.out.keep K)
  clear K
  generalize w2.alloc (.cells #[.int .i64 (L : Int), .int .i64 F, .slice ao1 n1 cap1] 34) = V2 at HB R3 R4 R5 R6 R7 R9 D1 DR R11 ⊢
  have hl7 : B + 1 + 1 + 1 + 1 < w2.heap.size := (Array.getElem?_eq_some_iff.1 W7).1
  generalize w2.heap.size = B11 at R11 hl7 ⊢
  have HB11 := Lib.hid hl7
  clear hl7
  have SAME : Hid (∀ w', Below V2.heap.size V2 w' → Calls Try.prog 15 #[.agg #[.int .i64 (L : Int), .int .i64 F, .pointer (some ⟨T1, 0, none⟩)], .agg #[.int .i64 (L : Int), .int .i64 F, .slice ao1 n1 cap1]] w' (fun e w'' => e = .returned (.bool true) ∧ Below w'.heap.size w' w'')) := Lib.hid (fun w' hb => same_eq T1 L F d ao1 n1 cap1 w' (D1.out.keep hb) (DR.out.keep hb))
  obtain ⟨a0, a1, a2, _, _, _⟩ := three_cells R9.out
  obtain ⟨a3, a4, a5, _, _, _⟩ := three_cells R11.out
  go_wp2_with fail
  have ne0 : B9 ≠ B + 1 + 1 + 1 := by have := HB9.out; omega
  have pe0 : B9 ≠ B + 1 + 1 + 1 + 1 := by have := HB9.out; omega
  have ne1 : B9 ≠ B + 1 + 1 + 1 := by have := HB9.out; omega
  have pe1 : B9 ≠ B + 1 + 1 + 1 + 1 := by have := HB9.out; omega
  have ne2 : B9 ≠ B + 1 + 1 + 1 := by have := HB9.out; omega
  have pe2 : B9 ≠ B + 1 + 1 + 1 + 1 := by have := HB9.out; omega
  have ne3 : B11 ≠ B + 1 + 1 + 1 := by have := HB11.out; omega
  have pe3 : B11 ≠ B + 1 + 1 + 1 + 1 := by have := HB11.out; omega
  have ne4 : B11 ≠ B + 1 + 1 + 1 := by have := HB11.out; omega
  have pe4 : B11 ≠ B + 1 + 1 + 1 + 1 := by have := HB11.out; omega
  have ne5 : B11 ≠ B + 1 + 1 + 1 := by have := HB11.out; omega
  have pe5 : B11 ≠ B + 1 + 1 + 1 + 1 := by have := HB11.out; omega
  go_region_held3 (fun w' => w'.cell? ⟨B9, 0, none⟩ = some (.int .i64 (L : Int)) ∧ w'.cell? ⟨B9, 1, none⟩ = some (.int .i64 F) ∧ w'.cell? ⟨B9, 2, none⟩ = some (.pointer (some ⟨T1, 0, none⟩)) ∧ w'.cell? ⟨B11, 0, none⟩ = some (.int .i64 (L : Int)) ∧ w'.cell? ⟨B11, 1, none⟩ = some (.int .i64 F) ∧ w'.cell? ⟨B11, 2, none⟩ = some (.slice ao1 n1 cap1)) (first | with_reducible exact ⟨keep_set3 v0 ne0, keep_set3 v1 ne1, keep_set3 v2 ne2, keep_set3 v3 ne3, keep_set3 v4 ne4, keep_set3 v5 ne5⟩ | with_reducible exact ⟨keep_set3 (keep_set3 v0 ne0) pe0, keep_set3 (keep_set3 v1 ne1) pe1, keep_set3 (keep_set3 v2 ne2) pe2, keep_set3 (keep_set3 v3 ne3) pe3, keep_set3 (keep_set3 v4 ne4) pe4, keep_set3 (keep_set3 v5 ne5) pe5⟩ | with_reducible exact ⟨keep_set3 v0 pe0, keep_set3 v1 pe1, keep_set3 v2 pe2, keep_set3 v3 pe3, keep_set3 v4 pe4, keep_set3 v5 pe5⟩ | with_reducible exact ⟨keep_set3 (keep_set3 v0 pe0) ne0, keep_set3 (keep_set3 v1 pe1) ne1, keep_set3 (keep_set3 v2 pe2) ne2, keep_set3 (keep_set3 v3 pe3) ne3, keep_set3 (keep_set3 v4 pe4) ne4, keep_set3 (keep_set3 v5 pe5) ne5⟩ | go_keep)
    (first | (go_at_call 15; refine (SAME.out _ (below_drewN (Below.refl _ _) 1)).mono ?_; rintro e w4 ⟨rfl, hb4⟩; have B4 := Lib.hid (below_then (below_drewN (Below.refl V2.heap.size V2) 1) hb4); have v0 := cell_later B4.out a0; have v1 := cell_later B4.out a1; have v2 := cell_later B4.out a2; have v3 := cell_later B4.out a3; have v4 := cell_later B4.out a4; have v5 := cell_later B4.out a5; have Z6 := Lib.hid (row_keep B4.out R6.out); have Z7 := Lib.hid (row_keep B4.out R7.out); have y0 := (three_cells Z6.out).1; have y1 := (three_cells Z6.out).2.1; have y2 := (three_cells Z6.out).2.2.1; have y3 := (three_cells Z6.out).2.2.2.1; have y4 := (three_cells Z6.out).2.2.2.2.1; have y5 := (three_cells Z6.out).2.2.2.2.2; have z0 := (three_cells Z7.out).1; have z1 := (three_cells Z7.out).2.1; have z2 := (three_cells Z7.out).2.2.1; have z3 := (three_cells Z7.out).2.2.2.1; have z4 := (three_cells Z7.out).2.2.2.2.1; have z5 := (three_cells Z7.out).2.2.2.2.2; clear hb4))
  have HW4 := HB.out.trans (B4.out.mono HB.out.size)
  have HD := Lib.hid (both_done (B6 := B + 1 + 1 + 1) (B7 := B + 1 + 1 + 1 + 1) (cap := cap1) HW4 (by have := HBW.out; omega) (by have := HBW.out; omega) (by omega) Z6.out Z7.out (D1.out.keep B4.out) (⟨by have := HT1.out; omega, by have := HT1.out; omega⟩) (DR.out.keep B4.out) (fun b hb => by have := HA1.out b hb; omega) rfl)
  clear HW4 y0 y1 y2 y3 y4 y5 z0 z1 z2 z3 z4 z5
  go_wp2
  refine bodyPost_ret (v := .tuple #[.agg #[.int .i64 (L : Int), .int .i64 F, .pointer (some ⟨T1, 0, none⟩)], .agg #[.int .i64 (L : Int), .int .i64 F, .slice ao1 n1 cap1], .bool true]) (results_cell2_tmp Try.results16 _ _ (B + 1 + 1 + 1) (B + 1 + 1 + 1 + 1) 28 34 _ _ (0, 0) (0, 0) _ _ rfl HD.out.1 rfl HD.out.2.1 Try.underlying28 (by kernel_rfl) (by kernel_rfl) Try.underlying34 (by kernel_rfl) (by kernel_rfl)) rfl ?_
  exact ⟨T1, d, ao1, n1, cap1, rfl, HD.out.2.2.1, HD.out.2.2.2.1, HD.out.2.2.2.2, .inr (by have := HT1.out; have := HBW.out; omega), .inr (fun b hb => by have := HA1.out b hb; have := HBW.out; omega)⟩

theorem lawAdd (tb L : Nat) (F : Int) (c : Int → Int) (ao : Option Addr) (n cap : Nat) (v m : Int) (W : World) (hd : DigM W tb L F c) (hr : DocM W ao n L c) :
    Calls Try.prog 16 #[.agg #[.int .i64 (L : Int), .int .i64 F, .pointer (some ⟨tb, 0, none⟩)], .agg #[.int .i64 (L : Int), .int .i64 F, .slice ao n cap], .agg #[.int .i64 v, .int .i64 m]] W (BothPost L F tb ao W) := by
  by_cases hf : Fits L c v m
  · exact lawAdd_yes tb L F c ao n cap v m W hd hr hf
  · exact lawAdd_no tb L F c ao n cap v m W hd hr hf
end Go.Proofs.Ythjmiimkplhffaa
