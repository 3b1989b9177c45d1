/- Part 8 of the contracts: PBest1, PSort, PSortC, PIsort, POrder, PPerm, PEqS, PLeast, PClone. -/
import Derived.Deep.RegionHeld3
import Derived.OrdersHeld
import Derived.ChangeKeysEq
import Derived.Laws.AppendOwnNone
import Derived.Test.YtbidadkcdchomaaDoorPart7

/- package plan: the closure with which Best looks for starts. -/
set_option linter.unusedVariables false
set_option linter.unusedSimpArgs false
namespace Go.Proofs.YtbidadkcdchomaaDoor
open Go.RowKit

/-- what the closure of Best finds: the house and the batches in two cells of its own -/
structure EnvB (W : World) (p q : Nat) (va : Option Addr) (vl vc : Nat) (ba : Option Addr) (bl bc : Nat) (vn : List Nat) (bn : List BN) : Prop where
  cv : W.cell? ⟨p, 0, none⟩ = some (.slice va vl vc)
  cb : W.cell? ⟨q, 0, none⟩ = some (.slice ba bl bc)
  v : Il W va vl (vI vn)
  b : Bats W ba bl (bn.map bI)
  t : TaskN vn bn
  now : NowM W
theorem EnvB.keep {W W' : World} {p q : Nat} {va : Option Addr} {vl vc : Nat} {ba : Option Addr} {bl bc : Nat} {vn : List Nat} {bn : List BN} (h : EnvB W p q va vl vc ba bl bc vn bn) (hb : Below W.heap.size W W') : EnvB W' p q va vl vc ba bl bc vn bn :=
  ⟨cell_later hb h.cv, cell_later hb h.cb, h.v.keep hb, h.b.keep hb, h.t, h.now.keep hb⟩
/-- an order of batches in memory -/
structure OrdM (W : World) (oa : Option Addr) (ol oc : Nat) (os : List Nat) (bl : Nat) : Prop where
  il : Il W oa ol (vI os)
  lt : ∀ i, i < os.length → os[i]! < bl
  nd : os.Nodup
  len : os.length = bl
  cap : ol ≤ oc ∧ oc ≤ 1000
  old : ∀ a, oa = some a → a.block < W.heap.size
theorem OrdM.keep {W W' : World} {oa : Option Addr} {ol oc : Nat} {os : List Nat} {bl : Nat} (h : OrdM W oa ol oc os bl) (hb : Below W.heap.size W W') : OrdM W' oa ol oc os bl :=
  ⟨h.il.keep hb, h.lt, h.nd, h.len, h.cap, fun a e => Nat.lt_of_lt_of_le (h.old a e) hb.size⟩
def startsN (vn : List Nat) (bn : List BN) (en : Nat) (os : List Nat) : Option (List Nat) := placeN vn (bn.map (jobOf en)) os (List.replicate 24 0)
/-- five starts as found, or nowhere -/
def IsStarts (r : Option (List Nat)) (os : List Nat) (st : List Int) : Prop :=
  (∃ ss, r = some ss ∧ SetAt os ss st ∧ AgreeOut os [0, 0, 0, 0, 0] st) ∨ (r = none ∧ st = [-1, 0, 0, 0, 0])
def OutSt5 (r : Option (List Nat)) (os : List Nat) (W : World) (e : Ending) (w' : World) : Prop := ∃ z0 z1 z2 z3 z4 : Int, e = .returned (.agg #[.int .i64 z0, .int .i64 z1, .int .i64 z2, .int .i64 z3, .int .i64 z4]) ∧ IsStarts r os [z0, z1, z2, z3, z4] ∧ Below W.heap.size W w'

theorem found_any {W w1 : World} {va ja oa ba : Option Addr} {vl vc bl jc ol oc en : Nat} {vn os : List Nat} {bn : List BN} (hv : Il W va vl (vI vn)) (hb : Bats W ba bl (bn.map bI)) (hT : TaskN vn bn) (hN : NowM W) (hen : en ≤ 30) (hO : OrdM W oa ol oc os bl)
    (hw : Below W.heap.size W w1) (hm : SrM w1 W.heap.size (.slice va vl vc) (.slice ja bl jc) (.slice none 0 0) [0, 0, 0, 0, 0] (List.replicate 24 0)) (ho : w1.ownsRow (W.heap.size + 1) 70 5 (.slice ja bl jc) bl (flatJ (bn.map (jobOf en)))) :
    Calls Tryd.prog 25 #[.pointer (some ⟨W.heap.size, 0, none⟩), .slice oa ol oc] w1 (OutSt5 (startsN vn bn en os) os W) := by
  have h5 : bl ≤ 5 := by have := hT.few; have := hb.1; simp at this; omega
  rcases Nat.eq_zero_or_pos bl with h0 | h0
  · have ho0 : ol = 0 := by have := hO.len; have := hO.il.len; rw [vI_len] at this; omega
    have hos : os = [] := List.eq_nil_of_length_eq_zero (by rw [hO.len, h0])
    subst ho0 hos
    refine (find_none _ _ _ _ oa oc _ w1 hm).mono ?_
    rintro e w2 ⟨rfl, hg⟩
    exact ⟨0, 0, 0, 0, 0, rfl, .inl ⟨[], rfl, fun q hq => absurd hq (Nat.not_lt_zero _), AgreeOut.refl _ _⟩, below_grown hw hg hw.size (Nat.le_refl _)⟩
  · obtain ⟨gj, rfl, _, hR⟩ := new_srR (bc := 0) hv hb hT hen h0 hw hm ho
    refine (find_any _ va vl vc gj bl jc _ oa ol oc vn _ os _ _ w1 hR (hN.keep hw) (by have := block_lt_of_cell hN.c0; exact Nat.ne_of_gt this) (hO.il.keep hw) hO.lt hO.nd hO.cap.1 hO.cap.2 h5 (fun a e => Nat.ne_of_lt (hO.old a e))).mono ?_
    rintro e w2 ⟨hg, ⟨ss, st', h1, h2, h3, rfl⟩ | ⟨h1, rfl⟩⟩
    · obtain ⟨z0, z1, z2, z3, z4, rfl⟩ := uncons5 (l := st') (by rw [h3.1]; rfl)
      exact ⟨z0, z1, z2, z3, z4, rfl, .inl ⟨ss, h1, h2, h3⟩, below_grown hw hg hw.size (Nat.le_refl _)⟩
    · exact ⟨-1, 0, 0, 0, 0, rfl, .inr ⟨h1, rfl⟩, below_grown hw hg hw.size (Nat.le_refl _)⟩

set_option maxRecDepth 100000 in
set_option maxHeartbeats 4000000 in
theorem search_any {p q : Nat} {va : Option Addr} {vl vc : Nat} {ba : Option Addr} {bl bc : Nat} {vn : List Nat} {bn : List BN} {oa : Option Addr} {ol oc : Nat} {os : List Nat} (en : Nat) (W : World) (h : EnvB W p q va vl vc ba bl bc vn bn) (hO : OrdM W oa ol oc os bl) (hen : en ≤ 30) :
    Calls Tryd.prog 23 #[.slice oa ol oc, .int .i64 (en : Int), .pointer (some ⟨p, 0, none⟩), .pointer (some ⟨q, 0, none⟩)] W (OutSt5 (startsN vn bn en os) os W) := by
  obtain ⟨V, hV⟩ : ∃ V, V = W.alloc (.cells #[.int .i64 0, .int .i64 0, .int .i64 0, .int .i64 0, .int .i64 0] 45) := ⟨_, rfl⟩
  have HB : Hid (Below W.heap.size W V) := Lib.hid (by rw [hV]; exact box_below W _)
  have R : Hid (V.heap[W.heap.size]? = some (.cells #[.int .i64 0, .int .i64 0, .int .i64 0, .int .i64 0, .int .i64 0] 45 (0, 0))) := Lib.hid (by rw [hV]; exact new_row W _)
  have hE := h.keep HB.out
  have HO := Lib.hid (hO.keep HB.out)
  have c1 := hE.cv
  have c2 := hE.cb
  have HE := Lib.hid hE
  have HS := Lib.hid (show V.heap.size = W.heap.size + 1 by rw [hV, size_alloc])
  have HV := Lib.hid hV
  clear h hO hV hE
  go_enter Tryd.func23, Tryd.ntmps23
  go_upto_region 1 with fail
  rw [← HV.out]
  have P := Lib.hid (new_any va vl vc ba bl bc en vn bn V HE.out.v HE.out.b HE.out.t hen)
  go_wp2_with (first | (go_at_call 24; refine P.out.mono ?_; rintro e w1 ⟨rfl, hb1, ja, jc, hjc, hjm, hm1, ho1⟩; have HB1 := Lib.hid hb1; have F1 := Lib.hid (found_any HE.out.v HE.out.b HE.out.t HE.out.now hen HO.out hb1 hm1 ho1); clear hb1 hm1 ho1 hjc hjm) | (go_at_call 25; refine F1.out.mono ?_; rintro e w2 ⟨z0, z1, z2, z3, z4, rfl, hz, hb2⟩; have HZ := Lib.hid hz; have HB2 := Lib.hid hb2; have R2 := Lib.hid ((hb2.block W.heap.size (by have := HS.out; omega)).trans R.out); have r0 := cell_row R2.out 0; have r1 := cell_row R2.out 1; have r2 := cell_row R2.out 2; have r3 := cell_row R2.out 3; have r4 := cell_row R2.out 4; simp only [List.getElem?_toArray, List.getElem?_cons_zero, List.getElem?_cons_succ] at r0 r1 r2 r3 r4; have f0 := free_row R2.out 0; have f1 := free_row R2.out 1; have f2 := free_row R2.out 2; have f3 := free_row R2.out 3; have f4 := free_row R2.out 4; clear hz hb2))
  refine bodyPost_ret (v := arr5 [z0, z1, z2, z3, z4]) (results_cell_row Tryd.results23 _ _ W.heap.size 45 #[.int .i64 z0, .int .i64 z1, .int .i64 z2, .int .i64 z3, .int .i64 z4] (0, 0) _ rfl (set_five R2.out) Tryd.underlying45 (by kernel_rfl) (by kernel_rfl)) rfl ?_
  refine ⟨z0, z1, z2, z3, z4, rfl, HZ.out, ?_⟩
  have hh := HB.out.trans (HB2.out.mono HB.out.size)
  exact ⟨hh.os, hh.tape, hh.output, by simpa using hh.size, fun q hq => by
    have hqW : q ≠ W.heap.size := Nat.ne_of_lt hq
    rw [Below.heap_setCell _ _ _ _ hqW, Below.heap_setCell _ _ _ _ hqW, Below.heap_setCell _ _ _ _ hqW, Below.heap_setCell _ _ _ _ hqW, Below.heap_setCell _ _ _ _ hqW]
    exact hh.block q hq⟩
end Go.Proofs.YtbidadkcdchomaaDoor

/- package plan: orderBy's comparison; the insertion sort as a function. -/
set_option linter.unusedVariables false
set_option linter.unusedSimpArgs false
namespace Go.Proofs.YtbidadkcdchomaaDoor
open Go.RowKit

/-- what is asked of a key: in whatever world that came after W, but for block g, it returns K i and lays blocks at most -/
def KeyE (fk : Nat) (lb : Array Value) (K : Nat → Int) (n g : Nat) (W : World) : Prop :=
  ∀ (w : World) (i : Nat), i < n → W.grownBy w (some g) → Calls Tryd.prog fk (#[.int .i64 (i : Int)] ++ lb) w fun e w' => e = .returned (.int .i64 (K i)) ∧ Below w.heap.size w w'
def insN (K : Nat → Int) : Nat → List Nat → List Nat
  | 0, l => l
  | j + 1, l => if K l[j + 1]! < K l[j]! then insN K j ((l.set (j + 1) l[j]!).set j l[j + 1]!) else l
def sortTo (K : Nat → Int) (l : List Nat) : Nat → List Nat
  | 0 => l
  | i + 1 => insN K i (sortTo K l i)
theorem insN_len (K : Nat → Int) : ∀ (j : Nat) (l : List Nat), (insN K j l).length = l.length
  | 0, _ => rfl
  | j + 1, l => by
    unfold insN
    split
    · rw [insN_len K j]; simp
    · rfl
theorem sortTo_len (K : Nat → Int) (l : List Nat) : ∀ i, (sortTo K l i).length = l.length
  | 0 => rfl
  | i + 1 => by rw [sortTo, insN_len, sortTo_len K l i]
end Go.Proofs.YtbidadkcdchomaaDoor

/- package plan: orderBy's comparison. (By gen_psort.py.) -/
set_option linter.unusedVariables false
set_option linter.unusedSimpArgs false
namespace Go.Proofs.YtbidadkcdchomaaDoor
open Go.RowKit

set_option maxRecDepth 100000 in
set_option maxHeartbeats 4000000 in
theorem cmp_any {fk : Nat} {lb : Array Value} {K : Nat → Int} {n g : Nat} {W : World} (eg : ∀ args w, (callFunc fk args).run Tryd.prog w = .ok (.enter fk args) w) (hK : KeyE fk lb K n g W) (p : Nat) (hp : W.cell? ⟨p, 0, none⟩ = some (.func (.func fk) #[] lb)) (hpg : p ≠ g)
    (w : World) (x y : Nat) (hx : x < n) (hy : y < n) (hw : W.grownBy w (some g)) :
    Calls Tryd.prog 50 #[.int .i64 (x : Int), .int .i64 (y : Int), .pointer (some ⟨p, 0, none⟩)] w fun e w' => e = .returned (.int .i64 (cmpZ (K x) (K y))) ∧ Below w.heap.size w w' := by
  have hc := hw.cell hp (by simpa using hpg)
  have HK := Lib.hid hK
  have HG0 := Lib.hid (grownBy_trans hw (grownBy_of_below (row := some g) (drew_below w)))
  have HW0 := Lib.hid (drew_below w)
  clear hK hp hw
  go_enter Tryd.func50, Tryd.ntmps50
  go_wp2
  refine wp_region_held_drew (S := fun w' => w'.cell? ⟨p, 0, none⟩ = some (.func (.func fk) #[] lb)) (by kernel_rfl) hc (fun hS => ?_)
  clear hc
  refine wpAnyH_take (i := 0) (v := ?vc0) rfl (by kernel_rfl) (by kernel_rfl) (by kernel_rfl) (fun _ _ _ h => h) (Or.inl ⟨by rfl, ?hyc0⟩) hS ?restc0
  case hyc0 => (intro w hSw; (try dsimp only at hSw); (first | (go_simp; done) | (go_simp; with_reducible rfl)))
  try simp only [Act.put, List.getElem_toArray, List.getElem_cons_succ, List.getElem_cons_zero, List.setIfInBounds_toArray, List.set_cons_zero, List.set_cons_succ]
  refine wpAnyH_take (i := 1) (v := ?vc1) rfl (by kernel_rfl) (by kernel_rfl) (by kernel_rfl) (fun _ _ _ h => h) (Or.inl ⟨by rfl, ?hyc1⟩) hS ?restc1
  case hyc1 => (intro w hSw; (try dsimp only at hSw); (first | (go_simp; done) | (go_simp; with_reducible rfl)))
  try simp only [Act.put, List.getElem_toArray, List.getElem_cons_succ, List.getElem_cons_zero, List.setIfInBounds_toArray, List.set_cons_zero, List.set_cons_succ]
  refine wpAnyH_take (i := 3) (v := ?vc3) rfl (by kernel_rfl) (by kernel_rfl) (by kernel_rfl) (fun _ _ _ h => h) (Or.inl ⟨by rfl, ?hyc3⟩) hS ?restc3
  case hyc3 => (intro w hSw; (try dsimp only at hSw); (first | (go_simp; done) | (go_simp; with_reducible rfl)))
  try simp only [Act.put, List.getElem_toArray, List.getElem_cons_succ, List.getElem_cons_zero, List.setIfInBounds_toArray, List.set_cons_zero, List.set_cons_succ]
  refine wpAnyH_take (i := 4) (v := ?vc4) rfl (by kernel_rfl) (by kernel_rfl) (by kernel_rfl) (fun _ _ _ h => h) (Or.inl ⟨by rfl, ?hyc4⟩) hS ?restc4
  case hyc4 => (intro w hSw; (try dsimp only at hSw); (first | (go_simp; done) | (go_simp; with_reducible rfl)))
  try simp only [Act.put, List.getElem_toArray, List.getElem_cons_succ, List.getElem_cons_zero, List.setIfInBounds_toArray, List.set_cons_zero, List.set_cons_succ]
  refine wpAnyH_ready (rs := [2]) (by kernel_rfl) (by simp) ?_
  refine AllReadyH.cons rfl (fun K hK => ?_) AllReadyH.nil
  try go_simp
  refine (HK.out _ x hx HG0.out).mono ?_
  rintro e w1 ⟨rfl, hb⟩
  have HG1 := Lib.hid (grownBy_trans HG0.out (grownBy_of_below (row := some g) hb))
  have HW1 := Lib.hid (below_then HW0.out hb)
  have c1 := cell_later hb hS
  clear hb
  refine hK.out _ _ c1 (fun hS => ?_)
  clear hK K
  try simp only [Act.put, List.getElem_toArray, List.getElem_cons_succ, List.getElem_cons_zero, List.setIfInBounds_toArray, List.set_cons_zero, List.set_cons_succ]
  clear c1
  refine wpAnyH_ready (rs := [5]) (by kernel_rfl) (by simp) ?_
  refine AllReadyH.cons rfl (fun K hK => ?_) AllReadyH.nil
  try go_simp
  refine (HK.out _ y hy HG1.out).mono ?_
  rintro e w2 ⟨rfl, hb⟩
  have HG2 := Lib.hid (grownBy_trans HG1.out (grownBy_of_below (row := some g) hb))
  have HW2 := Lib.hid (below_then HW1.out hb)
  have c2 := cell_later hb hS
  clear hb
  refine hK.out _ _ c2 (fun hS => ?_)
  clear hK K
  try simp only [Act.put, List.getElem_toArray, List.getElem_cons_succ, List.getElem_cons_zero, List.setIfInBounds_toArray, List.set_cons_zero, List.set_cons_succ]
  clear c2
  refine wpAnyH_ready (rs := [6]) (by kernel_rfl) (by simp) ?_
  refine AllReadyH.cons rfl (fun K hK => ?_) AllReadyH.nil
  try go_simp
  go_at_call 51
  refine (compare_any _ _ _).mono ?_
  rintro e w9 ⟨rfl, rfl⟩
  refine hK.out _ _ hS (fun hS => ?_)
  clear hK K
  try simp only [Act.put, List.getElem_toArray, List.getElem_cons_succ, List.getElem_cons_zero, List.setIfInBounds_toArray, List.set_cons_zero, List.set_cons_succ]
  refine wpAnyH_take (i := 7) (v := ?vc7) rfl (by kernel_rfl) (by kernel_rfl) (by kernel_rfl) (fun _ _ _ h => h) (Or.inl ⟨by rfl, ?hyc7⟩) hS ?restc7
  case hyc7 => (intro w hSw; (try dsimp only at hSw); (first | (go_simp; done) | (go_simp; with_reducible rfl)))
  try simp only [Act.put, List.getElem_toArray, List.getElem_cons_succ, List.getElem_cons_zero, List.setIfInBounds_toArray, List.set_cons_zero, List.set_cons_succ]
  refine wpAnyH_done (by kernel_rfl) ?_ _
  all_goals go_wp2_with fail
  all_goals go_ret
  all_goals exact ⟨rfl, HW2.out⟩
end Go.Proofs.YtbidadkcdchomaaDoor

/- package plan: the insertion sort. (By gen_pisort.py.) -/
set_option linter.unusedVariables false
set_option linter.unusedSimpArgs false
namespace Go.Proofs.YtbidadkcdchomaaDoor
open Go.RowKit

theorem vI_set (l : List Nat) (i x : Nat) : (vI l).set i (x : Int) = vI (l.set i x) := by unfold vI; rw [List.map_set]
/-- all of them are below m -/
def AllLt (m : Nat) (l : List Nat) : Prop := ∀ i, i < l.length → l[i]! < m
theorem AllLt.swap {m : Nat} {l : List Nat} (h : AllLt m l) {q : Nat} (hq : q + 1 < l.length) : AllLt m ((l.set (q + 1) l[q]!).set q l[q + 1]!) := by
  intro i hi
  have hi' : i < l.length := by simpa using hi
  rw [getElem!_pos _ i hi, List.getElem_set, List.getElem_set]
  have h1 := h q (by omega)
  have h2 := h (q + 1) hq
  have h3 := h i hi'
  rw [getElem!_pos l i hi'] at h3
  split
  · exact h2
  · split
    · exact h1
    · exact h3
theorem insN_lt {K : Nat → Int} {m : Nat} : ∀ (j : Nat) (l : List Nat), j < l.length ∨ l = [] → AllLt m l → AllLt m (insN K j l)
  | 0, _, _, h => h
  | j + 1, l, hj, h => by
    unfold insN
    split
    · rcases hj with hj | rfl
      · exact insN_lt j _ (.inl (by simp; omega)) (h.swap hj)
      · exact insN_lt j _ (.inr (by simp)) (fun i hi => by simp at hi)
    · exact h
def OutSo (K : Nat → Int) (n g : Nat) (l : List Nat) (W : World) (e : Ending) (w' : World) : Prop := e = .returned (.tuple #[]) ∧ Blk w' g (vI (sortTo K l n)) ∧ W.grownBy w' (some g)

set_option maxRecDepth 100000 in
set_option maxHeartbeats 8000000 in
theorem isort_any {K : Nat → Int} {m g : Nat} {W : World} (p n c : Nat) (l : List Nat) (hl : l.length = n) (hm : AllLt m l) (hn : n ≤ 1000) (hB : Blk W g (vI l))
    (hK : ∀ w x y, x < m → y < m → W.grownBy w (some g) → Calls Tryd.prog 50 #[.int .i64 ((x : Nat) : Int), .int .i64 ((y : Nat) : Int), .pointer (some ⟨p, 0, none⟩)] w fun e w' => e = .returned (.int .i64 (cmpZ (K x) (K y))) ∧ Below w.heap.size w w') :
    Calls Tryd.prog 59 #[.slice (some ⟨g, 0, none⟩) n c, .int .i64 0, .int .i64 (n : Int), .func (.func 50) #[] #[.pointer (some ⟨p, 0, none⟩)]] W (OutSo K n g l W) := by
  have HK := Lib.hid hK
  have HL := Lib.hid hl
  have HB := Lib.hid hB
  have HML := Lib.hid hm
  clear hK hl hB hm
  go_enter Tryd.func59, Tryd.ntmps59
  go_wp2
  go_loopg [8] n (fun gg s8 wr => ∃ (u : Nat) (t : List Nat), s8 = .int .i64 ((u : Int) + 1) ∧ (u = 0 ∨ u + 1 ≤ n) ∧ n - u ≤ gg ∧ Hid (t = sortTo K l (u + 1)) ∧ Hid (AllLt m t ∧ t.length = n) ∧ Hid (Blk wr g (vI t)) ∧ Hid (W.grownBy wr (some g)))
  case atStart => exact ⟨0, l, rfl, .inl rfl, by omega, Lib.hid rfl, Lib.hid ⟨HML.out, HL.out⟩, HB, Lib.hid (grownBy_refl _ _)⟩
  case round =>
    obtain ⟨u, t, rfl, hu, hgg, HT, HA, HM0, HG⟩ := hrel
    by_cases h1 : u + 1 < n
    · have u1 : (u : Int) + 1 < (n : Int) := by omega
      have u2 : (0 : Int) ≤ (u : Int) + 1 := by omega
      obtain ⟨W1, hW1⟩ : ∃ W1, W1 = wr := ⟨_, rfl⟩
      go_wp2
      go_loopg [9] (u + 1) (fun gg s9 wq => ∃ (j : Nat) (v : List Nat), s9 = .int .i64 (j : Int) ∧ j ≤ u + 1 ∧ j ≤ gg ∧ Hid (insN K j v = insN K (u + 1) t) ∧ Hid (AllLt m v ∧ v.length = n) ∧ Hid (Blk wq g (vI v)) ∧ Hid (W.grownBy wq (some g)))
      case atStart => exact ⟨u + 1, t, by go_num, Nat.le_refl _, Nat.le_refl _, Lib.hid rfl, HA, HM0, HG⟩
      case round =>
        obtain ⟨j, v, rfl, hj, hgg2, HI, HA2, HM, HG2⟩ := hrel
        have HGr := Lib.hid (grownBy_trans HG2.out (grownBy_of_below (row := some g) (drew_below wr)))
        match j, hj, hgg2, HI with
        | 0, hj, hgg2, HI =>
          rw [show ((0 : Nat) : Int) = 0 from rfl]
          go_wp2_with fail
          go_quiet (fail)
          go_wp2_with fail
          go_roundg (n - (u + 1))
          case measure => omega
          case rel => exact ⟨u + 1, v, by go_num, by omega, Nat.le_refl _, Lib.hid (by rw [sortTo, ← HT.out, ← HI.out]; rfl), HA2, Lib.hid (HM.out.drewN _), Lib.hid (grownBy_trans HG2.out (grownBy_drewN _ _ _))⟩
        | q + 1, hj, hgg2, HI =>
          rw [show (((q + 1 : Nat)) : Int) = (q : Int) + 1 from by omega]
          have v0 : (0 : Int) < (q : Int) + 1 := by omega
          have v1 : (0 : Int) ≤ (q : Int) + 1 := by omega
          have v2 : (q : Int) + 1 < (n : Int) := by omega
          have v3 : (0 : Int) ≤ (q : Int) := by omega
          have v4 : (q : Int) < (n : Int) := by omega
          have v5 : IntKind.i64.wrap (q : Int) = (q : Int) := IntWalk.i64_in _ (by omega)
          have v6 : ((q : Int) + 1).toNat = q + 1 := by omega
          have lv : v.length = n := HA2.out.2
          have c1 := HM.out.cell (q + 1) (by rw [vI_len]; omega)
          have c0 := HM.out.cell q (by rw [vI_len]; omega)
          rw [vI_get] at c0 c1
          have ha := HA2.out.1 (q + 1) (by omega)
          have hb := HA2.out.1 q (by omega)
          obtain ⟨a, hae⟩ : ∃ a, a = v[q + 1]! := ⟨_, rfl⟩
          obtain ⟨b, hbe⟩ : ∃ b, b = v[q]! := ⟨_, rfl⟩
          rw [← hae] at c1 ha
          rw [← hbe] at c0 hb
          have HAE := Lib.hid hae
          have HBE := Lib.hid hbe
          have HLV := Lib.hid lv
          clear hae hbe lv
          by_cases hlt : K a < K b
          · have HCM := Lib.hid (show cmpZ (K a) (K b) = -1 by unfold cmpZ; rw [if_pos hlt])
            have HI2 : Hid (insN K q ((v.set (q + 1) b).set q a) = insN K (u + 1) t) := Lib.hid (by rw [← HI.out, insN, ← HAE.out, ← HBE.out, if_pos hlt])
            clear hlt
            go_wp2_with fail
            refine wp_region_held_drew (S := fun w' => w'.cell? ⟨g, q + 1, none⟩ = some (.int .i64 (a : Int)) ∧ w'.cell? ⟨g, q, none⟩ = some (.int .i64 (b : Int))) (by kernel_rfl) ⟨c1, c0⟩ (fun hS => ?_)
            clear c0 c1
            refine wpAnyH_take (i := 0) (v := ?vy0) rfl (by kernel_rfl) (by kernel_rfl) (by kernel_rfl) (fun _ _ _ h => h) (Or.inl ⟨by rfl, ?hyy0⟩) hS ?resty0
            case hyy0 => (intro w hSw; (try dsimp only at hSw); (first | (go_simp; done) | (go_simp; with_reducible rfl)))
            try simp only [Act.put, List.getElem_toArray, List.getElem_cons_succ, List.getElem_cons_zero, List.setIfInBounds_toArray, List.set_cons_zero, List.set_cons_succ]
            refine wpAnyH_take (i := 1) (v := ?vy1) rfl (by kernel_rfl) (by kernel_rfl) (by kernel_rfl) (fun _ _ _ h => h) (Or.inl ⟨by rfl, ?hyy1⟩) hS ?resty1
            case hyy1 => (intro w hSw; (try dsimp only at hSw); (first | (go_simp; done) | (go_simp; with_reducible rfl)))
            try simp only [Act.put, List.getElem_toArray, List.getElem_cons_succ, List.getElem_cons_zero, List.setIfInBounds_toArray, List.set_cons_zero, List.set_cons_succ]
            refine wpAnyH_take (i := 2) (v := ?vy2) rfl (by kernel_rfl) (by kernel_rfl) (by kernel_rfl) (fun _ _ _ h => h) (Or.inl ⟨by rfl, ?hyy2⟩) hS ?resty2
            case hyy2 => (intro w hSw; (try dsimp only at hSw); (first | (go_simp; done) | (go_simp; with_reducible rfl)))
            try simp only [Act.put, List.getElem_toArray, List.getElem_cons_succ, List.getElem_cons_zero, List.setIfInBounds_toArray, List.set_cons_zero, List.set_cons_succ]
            refine wpAnyH_take (i := 3) (v := ?vy3) rfl (by kernel_rfl) (by kernel_rfl) (by kernel_rfl) (fun _ _ _ h => h) (Or.inl ⟨by rfl, ?hyy3⟩) hS ?resty3
            case hyy3 => (intro w hSw; (try dsimp only at hSw); (first | (go_simp; done) | (go_simp; with_reducible rfl)))
            try simp only [Act.put, List.getElem_toArray, List.getElem_cons_succ, List.getElem_cons_zero, List.setIfInBounds_toArray, List.set_cons_zero, List.set_cons_succ]
            refine wpAnyH_take (i := 4) (v := ?vy4) rfl (by kernel_rfl) (by kernel_rfl) (by kernel_rfl) (fun _ _ _ h => h) (Or.inl ⟨by rfl, ?hyy4⟩) hS ?resty4
            case hyy4 => (intro w hSw; (try dsimp only at hSw); (first | (go_simp; done) | (go_simp; with_reducible rfl)))
            try simp only [Act.put, List.getElem_toArray, List.getElem_cons_succ, List.getElem_cons_zero, List.setIfInBounds_toArray, List.set_cons_zero, List.set_cons_succ]
            refine wpAnyH_take (i := 5) (v := ?vy5) rfl (by kernel_rfl) (by kernel_rfl) (by kernel_rfl) (fun _ _ _ h => h) (Or.inl ⟨by rfl, ?hyy5⟩) hS ?resty5
            case hyy5 => (intro w hSw; (try dsimp only at hSw); (first | (go_simp; done) | (go_simp; with_reducible rfl)))
            try simp only [Act.put, List.getElem_toArray, List.getElem_cons_succ, List.getElem_cons_zero, List.setIfInBounds_toArray, List.set_cons_zero, List.set_cons_succ]
            refine wpAnyH_take (i := 6) (v := ?vy6) rfl (by kernel_rfl) (by kernel_rfl) (by kernel_rfl) (fun _ _ _ h => h) (Or.inl ⟨by rfl, ?hyy6⟩) hS ?resty6
            case hyy6 => (intro w hSw; (try dsimp only at hSw); (first | (go_simp; done) | (go_simp; with_reducible rfl)))
            try simp only [Act.put, List.getElem_toArray, List.getElem_cons_succ, List.getElem_cons_zero, List.setIfInBounds_toArray, List.set_cons_zero, List.set_cons_succ]
            refine wpAnyH_take (i := 7) (v := ?vy7) rfl (by kernel_rfl) (by kernel_rfl) (by kernel_rfl) (fun _ _ _ h => h) (Or.inl ⟨by rfl, ?hyy7⟩) hS ?resty7
            case hyy7 => (intro w hSw; (try dsimp only at hSw); (first | (go_simp; done) | (go_simp; with_reducible rfl)))
            try simp only [Act.put, List.getElem_toArray, List.getElem_cons_succ, List.getElem_cons_zero, List.setIfInBounds_toArray, List.set_cons_zero, List.set_cons_succ]
            refine wpAnyH_take (i := 8) (v := ?vy8) rfl (by kernel_rfl) (by kernel_rfl) (by kernel_rfl) (fun _ _ _ h => h) (Or.inl ⟨by rfl, ?hyy8⟩) hS ?resty8
            case hyy8 => (intro w hSw; (try dsimp only at hSw); (first | (go_simp; done) | (go_simp; with_reducible rfl)))
            try simp only [Act.put, List.getElem_toArray, List.getElem_cons_succ, List.getElem_cons_zero, List.setIfInBounds_toArray, List.set_cons_zero, List.set_cons_succ]
            refine wpAnyH_take (i := 9) (v := ?vy9) rfl (by kernel_rfl) (by kernel_rfl) (by kernel_rfl) (fun _ _ _ h => h) (Or.inl ⟨by rfl, ?hyy9⟩) hS ?resty9
            case hyy9 => (intro w hSw; (try dsimp only at hSw); (first | (go_simp; done) | (go_simp; with_reducible rfl)))
            try simp only [Act.put, List.getElem_toArray, List.getElem_cons_succ, List.getElem_cons_zero, List.setIfInBounds_toArray, List.set_cons_zero, List.set_cons_succ]
            refine wpAnyH_take (i := 10) (v := ?vy10) rfl (by kernel_rfl) (by kernel_rfl) (by kernel_rfl) (fun _ _ _ h => h) (Or.inl ⟨by rfl, ?hyy10⟩) hS ?resty10
            case hyy10 => (intro w hSw; (try dsimp only at hSw); (first | (go_simp; done) | (go_simp; with_reducible rfl)))
            try simp only [Act.put, List.getElem_toArray, List.getElem_cons_succ, List.getElem_cons_zero, List.setIfInBounds_toArray, List.set_cons_zero, List.set_cons_succ]
            refine wpAnyH_take (i := 11) (v := ?vy11) rfl (by kernel_rfl) (by kernel_rfl) (by kernel_rfl) (fun _ _ _ h => h) (Or.inl ⟨by rfl, ?hyy11⟩) hS ?resty11
            case hyy11 => (intro w hSw; (try dsimp only at hSw); (first | (go_simp; done) | (go_simp; with_reducible rfl)))
            try simp only [Act.put, List.getElem_toArray, List.getElem_cons_succ, List.getElem_cons_zero, List.setIfInBounds_toArray, List.set_cons_zero, List.set_cons_succ]
            refine wpAnyH_take (i := 12) (v := ?vy12) rfl (by kernel_rfl) (by kernel_rfl) (by kernel_rfl) (fun _ _ _ h => h) (Or.inl ⟨by rfl, ?hyy12⟩) hS ?resty12
            case hyy12 => (intro w hSw; (try dsimp only at hSw); (first | (go_simp; done) | (go_simp; with_reducible rfl)))
            try simp only [Act.put, List.getElem_toArray, List.getElem_cons_succ, List.getElem_cons_zero, List.setIfInBounds_toArray, List.set_cons_zero, List.set_cons_succ]
            refine wpAnyH_take (i := 13) (v := ?vy13) rfl (by kernel_rfl) (by kernel_rfl) (by kernel_rfl) (fun _ _ _ h => h) (Or.inl ⟨by rfl, ?hyy13⟩) hS ?resty13
            case hyy13 => (intro w hSw; (try dsimp only at hSw); (first | (go_simp; done) | (go_simp; with_reducible rfl)))
            try simp only [Act.put, List.getElem_toArray, List.getElem_cons_succ, List.getElem_cons_zero, List.setIfInBounds_toArray, List.set_cons_zero, List.set_cons_succ]
            refine wpAnyH_ready (rs := [14]) (by kernel_rfl) (by simp) ?_
            refine AllReadyH.cons rfl (fun K hK => ?_) AllReadyH.nil
            try go_simp
            refine (HK.out _ a b ha hb HGr.out).mono ?_
            rw [HCM.out]; rintro e w3 ⟨rfl, hb3⟩
            have HG3 := Lib.hid (grownBy_trans HGr.out (grownBy_of_below (row := some g) hb3))
            have HB3 := Lib.hid (HM.out.below (below_then (drew_below wr) hb3) HM.out.lt)
            obtain ⟨z0, z1⟩ := hS
            have c0 := cell_later hb3 z0
            have c1 := cell_later hb3 z1
            clear hb3 z0 z1
            refine hK.out _ _ ⟨c0, c1⟩ (fun hS => ?_)
            clear hK K
            try simp only [Act.put, List.getElem_toArray, List.getElem_cons_succ, List.getElem_cons_zero, List.setIfInBounds_toArray, List.set_cons_zero, List.set_cons_succ]
            clear c0 c1
            refine wpAnyH_take (i := 15) (v := ?vy15) rfl (by kernel_rfl) (by kernel_rfl) (by kernel_rfl) (fun _ _ _ h => h) (Or.inl ⟨by rfl, ?hyy15⟩) hS ?resty15
            case hyy15 => (intro w hSw; (try dsimp only at hSw); (first | (go_simp; done) | (go_simp; with_reducible rfl)))
            try simp only [Act.put, List.getElem_toArray, List.getElem_cons_succ, List.getElem_cons_zero, List.setIfInBounds_toArray, List.set_cons_zero, List.set_cons_succ]
            refine wpAnyH_take (i := 16) (v := ?vy16) rfl (by kernel_rfl) (by kernel_rfl) (by kernel_rfl) (fun _ _ _ h => h) (Or.inl ⟨by rfl, ?hyy16⟩) hS ?resty16
            case hyy16 => (intro w hSw; (try dsimp only at hSw); (first | (go_simp; done) | (go_simp; with_reducible rfl)))
            try simp only [Act.put, List.getElem_toArray, List.getElem_cons_succ, List.getElem_cons_zero, List.setIfInBounds_toArray, List.set_cons_zero, List.set_cons_succ]
            refine wpAnyH_done (by kernel_rfl) ?_ _
            all_goals go_wp2_with fail
            have f0 := HB3.out.frozen q
            have f1 := HB3.out.frozen (q + 1)
            go_region
            all_goals go_wp2_with fail
            all_goals go_roundg q
            all_goals first
              | omega
              | exact ⟨q, (v.set (q + 1) b).set q a, by go_num, by omega, Nat.le_refl _, HI2, Lib.hid ⟨by have := HA2.out.1.swap (q := q) (by rw [HLV.out]; omega); rw [← HAE.out, ← HBE.out] at this; exact this, by simp; exact HLV.out⟩, Lib.hid (by rw [← vI_set, ← vI_set]; exact (HB3.out.set _ _).set _ _), Lib.hid (grownBy_trans HG3.out (grownBy_trans (grownBy_of_below (row := some g) (drew_below w3)) (grownBy_trans (grownBy_set _ _ _ _) (grownBy_set _ _ _ _))))⟩
          · obtain ⟨zc, hz, hz0⟩ : ∃ zc, cmpZ (K a) (K b) = zc ∧ ¬ zc < 0 := by
              unfold cmpZ
              rw [if_neg hlt]
              split
              · exact ⟨_, rfl, by omega⟩
              · exact ⟨_, rfl, by omega⟩
            have HCM := Lib.hid hz
            have HI2 : Hid (v = insN K (u + 1) t) := Lib.hid (by rw [← HI.out, insN, ← HAE.out, ← HBE.out, if_neg hlt])
            have z1 : decide (zc < 0) = false := decide_eq_false hz0
            clear hlt hz
            go_wp2_with fail
            refine wp_region_held_drew (S := fun w' => w'.cell? ⟨g, q + 1, none⟩ = some (.int .i64 (a : Int)) ∧ w'.cell? ⟨g, q, none⟩ = some (.int .i64 (b : Int))) (by kernel_rfl) ⟨c1, c0⟩ (fun hS => ?_)
            clear c0 c1
            refine wpAnyH_take (i := 0) (v := ?vn0) rfl (by kernel_rfl) (by kernel_rfl) (by kernel_rfl) (fun _ _ _ h => h) (Or.inl ⟨by rfl, ?hyn0⟩) hS ?restn0
            case hyn0 => (intro w hSw; (try dsimp only at hSw); (first | (go_simp; done) | (go_simp; with_reducible rfl)))
            try simp only [Act.put, List.getElem_toArray, List.getElem_cons_succ, List.getElem_cons_zero, List.setIfInBounds_toArray, List.set_cons_zero, List.set_cons_succ]
            refine wpAnyH_take (i := 1) (v := ?vn1) rfl (by kernel_rfl) (by kernel_rfl) (by kernel_rfl) (fun _ _ _ h => h) (Or.inl ⟨by rfl, ?hyn1⟩) hS ?restn1
            case hyn1 => (intro w hSw; (try dsimp only at hSw); (first | (go_simp; done) | (go_simp; with_reducible rfl)))
            try simp only [Act.put, List.getElem_toArray, List.getElem_cons_succ, List.getElem_cons_zero, List.setIfInBounds_toArray, List.set_cons_zero, List.set_cons_succ]
            refine wpAnyH_take (i := 2) (v := ?vn2) rfl (by kernel_rfl) (by kernel_rfl) (by kernel_rfl) (fun _ _ _ h => h) (Or.inl ⟨by rfl, ?hyn2⟩) hS ?restn2
            case hyn2 => (intro w hSw; (try dsimp only at hSw); (first | (go_simp; done) | (go_simp; with_reducible rfl)))
            try simp only [Act.put, List.getElem_toArray, List.getElem_cons_succ, List.getElem_cons_zero, List.setIfInBounds_toArray, List.set_cons_zero, List.set_cons_succ]
            refine wpAnyH_take (i := 3) (v := ?vn3) rfl (by kernel_rfl) (by kernel_rfl) (by kernel_rfl) (fun _ _ _ h => h) (Or.inl ⟨by rfl, ?hyn3⟩) hS ?restn3
            case hyn3 => (intro w hSw; (try dsimp only at hSw); (first | (go_simp; done) | (go_simp; with_reducible rfl)))
            try simp only [Act.put, List.getElem_toArray, List.getElem_cons_succ, List.getElem_cons_zero, List.setIfInBounds_toArray, List.set_cons_zero, List.set_cons_succ]
            refine wpAnyH_take (i := 4) (v := ?vn4) rfl (by kernel_rfl) (by kernel_rfl) (by kernel_rfl) (fun _ _ _ h => h) (Or.inl ⟨by rfl, ?hyn4⟩) hS ?restn4
            case hyn4 => (intro w hSw; (try dsimp only at hSw); (first | (go_simp; done) | (go_simp; with_reducible rfl)))
            try simp only [Act.put, List.getElem_toArray, List.getElem_cons_succ, List.getElem_cons_zero, List.setIfInBounds_toArray, List.set_cons_zero, List.set_cons_succ]
            refine wpAnyH_take (i := 5) (v := ?vn5) rfl (by kernel_rfl) (by kernel_rfl) (by kernel_rfl) (fun _ _ _ h => h) (Or.inl ⟨by rfl, ?hyn5⟩) hS ?restn5
            case hyn5 => (intro w hSw; (try dsimp only at hSw); (first | (go_simp; done) | (go_simp; with_reducible rfl)))
            try simp only [Act.put, List.getElem_toArray, List.getElem_cons_succ, List.getElem_cons_zero, List.setIfInBounds_toArray, List.set_cons_zero, List.set_cons_succ]
            refine wpAnyH_take (i := 6) (v := ?vn6) rfl (by kernel_rfl) (by kernel_rfl) (by kernel_rfl) (fun _ _ _ h => h) (Or.inl ⟨by rfl, ?hyn6⟩) hS ?restn6
            case hyn6 => (intro w hSw; (try dsimp only at hSw); (first | (go_simp; done) | (go_simp; with_reducible rfl)))
            try simp only [Act.put, List.getElem_toArray, List.getElem_cons_succ, List.getElem_cons_zero, List.setIfInBounds_toArray, List.set_cons_zero, List.set_cons_succ]
            refine wpAnyH_take (i := 7) (v := ?vn7) rfl (by kernel_rfl) (by kernel_rfl) (by kernel_rfl) (fun _ _ _ h => h) (Or.inl ⟨by rfl, ?hyn7⟩) hS ?restn7
            case hyn7 => (intro w hSw; (try dsimp only at hSw); (first | (go_simp; done) | (go_simp; with_reducible rfl)))
            try simp only [Act.put, List.getElem_toArray, List.getElem_cons_succ, List.getElem_cons_zero, List.setIfInBounds_toArray, List.set_cons_zero, List.set_cons_succ]
            refine wpAnyH_take (i := 8) (v := ?vn8) rfl (by kernel_rfl) (by kernel_rfl) (by kernel_rfl) (fun _ _ _ h => h) (Or.inl ⟨by rfl, ?hyn8⟩) hS ?restn8
            case hyn8 => (intro w hSw; (try dsimp only at hSw); (first | (go_simp; done) | (go_simp; with_reducible rfl)))
            try simp only [Act.put, List.getElem_toArray, List.getElem_cons_succ, List.getElem_cons_zero, List.setIfInBounds_toArray, List.set_cons_zero, List.set_cons_succ]
            refine wpAnyH_take (i := 9) (v := ?vn9) rfl (by kernel_rfl) (by kernel_rfl) (by kernel_rfl) (fun _ _ _ h => h) (Or.inl ⟨by rfl, ?hyn9⟩) hS ?restn9
            case hyn9 => (intro w hSw; (try dsimp only at hSw); (first | (go_simp; done) | (go_simp; with_reducible rfl)))
            try simp only [Act.put, List.getElem_toArray, List.getElem_cons_succ, List.getElem_cons_zero, List.setIfInBounds_toArray, List.set_cons_zero, List.set_cons_succ]
            refine wpAnyH_take (i := 10) (v := ?vn10) rfl (by kernel_rfl) (by kernel_rfl) (by kernel_rfl) (fun _ _ _ h => h) (Or.inl ⟨by rfl, ?hyn10⟩) hS ?restn10
            case hyn10 => (intro w hSw; (try dsimp only at hSw); (first | (go_simp; done) | (go_simp; with_reducible rfl)))
            try simp only [Act.put, List.getElem_toArray, List.getElem_cons_succ, List.getElem_cons_zero, List.setIfInBounds_toArray, List.set_cons_zero, List.set_cons_succ]
            refine wpAnyH_take (i := 11) (v := ?vn11) rfl (by kernel_rfl) (by kernel_rfl) (by kernel_rfl) (fun _ _ _ h => h) (Or.inl ⟨by rfl, ?hyn11⟩) hS ?restn11
            case hyn11 => (intro w hSw; (try dsimp only at hSw); (first | (go_simp; done) | (go_simp; with_reducible rfl)))
            try simp only [Act.put, List.getElem_toArray, List.getElem_cons_succ, List.getElem_cons_zero, List.setIfInBounds_toArray, List.set_cons_zero, List.set_cons_succ]
            refine wpAnyH_take (i := 12) (v := ?vn12) rfl (by kernel_rfl) (by kernel_rfl) (by kernel_rfl) (fun _ _ _ h => h) (Or.inl ⟨by rfl, ?hyn12⟩) hS ?restn12
            case hyn12 => (intro w hSw; (try dsimp only at hSw); (first | (go_simp; done) | (go_simp; with_reducible rfl)))
            try simp only [Act.put, List.getElem_toArray, List.getElem_cons_succ, List.getElem_cons_zero, List.setIfInBounds_toArray, List.set_cons_zero, List.set_cons_succ]
            refine wpAnyH_take (i := 13) (v := ?vn13) rfl (by kernel_rfl) (by kernel_rfl) (by kernel_rfl) (fun _ _ _ h => h) (Or.inl ⟨by rfl, ?hyn13⟩) hS ?restn13
            case hyn13 => (intro w hSw; (try dsimp only at hSw); (first | (go_simp; done) | (go_simp; with_reducible rfl)))
            try simp only [Act.put, List.getElem_toArray, List.getElem_cons_succ, List.getElem_cons_zero, List.setIfInBounds_toArray, List.set_cons_zero, List.set_cons_succ]
            refine wpAnyH_ready (rs := [14]) (by kernel_rfl) (by simp) ?_
            refine AllReadyH.cons rfl (fun K hK => ?_) AllReadyH.nil
            try go_simp
            refine (HK.out _ a b ha hb HGr.out).mono ?_
            rw [HCM.out]; rintro e w3 ⟨rfl, hb3⟩
            have HG3 := Lib.hid (grownBy_trans HGr.out (grownBy_of_below (row := some g) hb3))
            have HB3 := Lib.hid (HM.out.below (below_then (drew_below wr) hb3) HM.out.lt)
            obtain ⟨z0, z1⟩ := hS
            have c0 := cell_later hb3 z0
            have c1 := cell_later hb3 z1
            clear hb3 z0 z1
            refine hK.out _ _ ⟨c0, c1⟩ (fun hS => ?_)
            clear hK K
            try simp only [Act.put, List.getElem_toArray, List.getElem_cons_succ, List.getElem_cons_zero, List.setIfInBounds_toArray, List.set_cons_zero, List.set_cons_succ]
            clear c0 c1
            refine wpAnyH_take (i := 15) (v := ?vn15) rfl (by kernel_rfl) (by kernel_rfl) (by kernel_rfl) (fun _ _ _ h => h) (Or.inl ⟨by rfl, ?hyn15⟩) hS ?restn15
            case hyn15 => (intro w hSw; (try dsimp only at hSw); (first | (go_simp; done) | (go_simp; with_reducible rfl)))
            try simp only [Act.put, List.getElem_toArray, List.getElem_cons_succ, List.getElem_cons_zero, List.setIfInBounds_toArray, List.set_cons_zero, List.set_cons_succ]
            refine wpAnyH_take (i := 16) (v := ?vn16) rfl (by kernel_rfl) (by kernel_rfl) (by kernel_rfl) (fun _ _ _ h => h) (Or.inl ⟨by rfl, ?hyn16⟩) hS ?restn16
            case hyn16 => (intro w hSw; (try dsimp only at hSw); (first | (go_simp; done) | (go_simp; with_reducible rfl)))
            try simp only [Act.put, List.getElem_toArray, List.getElem_cons_succ, List.getElem_cons_zero, List.setIfInBounds_toArray, List.set_cons_zero, List.set_cons_succ]
            refine wpAnyH_done (by kernel_rfl) ?_ _
            all_goals go_wp2_with fail
            all_goals go_roundg (n - (u + 1))
            all_goals first
              | omega
              | exact ⟨u + 1, v, by go_num, by omega, Nat.le_refl _, Lib.hid (by rw [sortTo, ← HT.out, ← HI2.out]), HA2, HB3, HG3⟩
    · have u1 : ¬ (u : Int) + 1 < (n : Int) := by omega
      have HE : Hid (vI t = vI (sortTo K l n)) := Lib.hid (by
        rw [HT.out]
        rcases hu with rfl | hu
        · have hn0 : n = 0 ∨ n = 1 := by omega
          rcases hn0 with rfl | rfl <;> rfl
        · obtain rfl : n = u + 1 := by omega
          rfl)
      go_wp2
      go_end0
      exact ⟨rfl, by rw [← HE.out]; exact HM0.out, HG.out⟩
end Go.Proofs.YtbidadkcdchomaaDoor

/- package plan: stableCmpFunc, SortStableFunc (at most 20 elements), orderBy. -/
set_option linter.unusedVariables false
set_option linter.unusedSimpArgs false
namespace Go.Proofs.YtbidadkcdchomaaDoor
open Go.RowKit

/-- orderBy's comparison in whatever world that came after W, but for block g -/
def CmpH (K : Nat → Int) (m g p : Nat) (W : World) : Prop := ∀ w x y, x < m → y < m → W.grownBy w (some g) → Calls Tryd.prog 50 #[.int .i64 ((x : Nat) : Int), .int .i64 ((y : Nat) : Int), .pointer (some ⟨p, 0, none⟩)] w fun e w' => e = .returned (.int .i64 (cmpZ (K x) (K y))) ∧ Below w.heap.size w w'
set_option maxRecDepth 100000 in
set_option maxHeartbeats 2000000 in
theorem stable_any {K : Nat → Int} {m g : Nat} {W : World} (p n c : Nat) (l : List Nat) (hl : l.length = n) (hm : AllLt m l) (hn : n < 20) (hB : Blk W g (vI l)) (hK : CmpH K m g p W) :
    Calls Tryd.prog 57 #[.slice (some ⟨g, 0, none⟩) n c, .int .i64 (n : Int), .func (.func 50) #[] #[.pointer (some ⟨p, 0, none⟩)]] W (OutSo K n g l W) := by
  have P := Lib.hid (isort_any p n c l hl hm (by omega) hB hK)
  have n1 : ¬ (20 : Int) ≤ (n : Int) := by omega
  have n2 : ¬ (20 : Int) < (n : Int) := by omega
  clear hl hm hB hK
  go_enter Tryd.func57, Tryd.ntmps57
  go_wp2
  refine wp_loop_once ?_
  go_wp2_with (go_at_call 59; refine P.out.mono ?_; rintro e w1 ⟨rfl, hb1, hg1⟩; have HB1 := Lib.hid hb1; have HG1 := Lib.hid hg1; clear hb1 hg1)
  refine wp_loop_once ?_
  go_wp2
  go_end0
  exact ⟨rfl, HB1.out, HG1.out⟩
set_option maxHeartbeats 1000000 in
theorem sortStable_any {K : Nat → Int} {m g : Nat} {W : World} (p n c : Nat) (l : List Nat) (hl : l.length = n) (hm : AllLt m l) (hn : n < 20) (hB : Blk W g (vI l)) (hK : CmpH K m g p W) :
    Calls Tryd.prog 49 #[.slice (some ⟨g, 0, none⟩) n c, .func (.func 50) #[] #[.pointer (some ⟨p, 0, none⟩)]] W (OutSo K n g l W) := by
  have P := Lib.hid (stable_any p n c l hl hm hn hB hK)
  clear hl hm hB hK
  go_enter Tryd.func49, Tryd.ntmps49
  go_wp2_with (go_at_call 57; refine P.out.mono ?_; rintro e w1 ⟨rfl, hb1, hg1⟩; have HB1 := Lib.hid hb1; have HG1 := Lib.hid hg1; clear hb1 hg1)
  go_end0
  exact ⟨rfl, HB1.out, HG1.out⟩
set_option maxHeartbeats 1000000 in
theorem orderBy_any {fk : Nat} {lb : Array Value} {K : Nat → Int} {m g : Nat} {W : World} (eg : ∀ args w, (callFunc fk args).run Tryd.prog w = .ok (.enter fk args) w) (n c : Nat) (l : List Nat) (hl : l.length = n) (hm : AllLt m l) (hn : n < 20) (hB : Blk W g (vI l)) (hK : KeyE fk lb K m g W) :
    Calls Tryd.prog 39 #[.slice (some ⟨g, 0, none⟩) n c, .func (.func fk) #[] lb] W (OutSo K n g l W) := by
  obtain ⟨V, hV⟩ : ∃ V, V = W.alloc (.cells #[.func (.func fk) #[] lb] 77) := ⟨_, rfl⟩
  have HB : Hid (Below W.heap.size W V) := Lib.hid (by rw [hV]; exact box_below W _)
  have R : V.heap[W.heap.size]? = some (.cells #[.func (.func fk) #[] lb] 77 (0, 0)) := by rw [hV]; exact new_row W _
  have c0 : V.cell? ⟨W.heap.size, 0, none⟩ = some (.func (.func fk) #[] lb) := by rw [cell_row R 0]; rfl
  have hgW := hB.lt
  have hK2 : KeyE fk lb K m g V := fun w i hi hw => hK w i hi (grownBy_trans (grownBy_of_below HB.out) hw)
  have P := Lib.hid (sortStable_any W.heap.size n c l hl hm hn (hB.keep HB.out) (fun w x y hx hy hw => cmp_any eg hK2 W.heap.size c0 (by omega) w x y hx hy hw))
  have HV := Lib.hid hV
  clear hV hl hm hB hK hK2 R c0 hgW
  go_enter Tryd.func39, Tryd.ntmps39
  go_upto_region 1 with fail
  rw [← HV.out]
  go_wp2_with (go_at_call 49; refine P.out.mono ?_; rintro e w1 ⟨rfl, hb1, hg1⟩; have HB1 := Lib.hid hb1; have HG1 := Lib.hid hg1; clear hb1 hg1)
  go_end0
  exact ⟨rfl, HB1.out, grownBy_trans (grownBy_of_below HB.out) HG1.out⟩
end Go.Proofs.YtbidadkcdchomaaDoor

/- package plan: the stable sort only puts the indices in another order; the key of leastEnd. -/
set_option linter.unusedVariables false
set_option linter.unusedSimpArgs false
namespace Go.Proofs.YtbidadkcdchomaaDoor
open Go.RowKit

theorem insN_perm (K : Nat → Int) : ∀ (j : Nat) (l : List Nat), j < l.length → (insN K j l).Perm l
  | 0, l, _ => List.Perm.refl _
  | j + 1, l, h => by
    unfold insN
    split
    · have h1 : j < l.length := by omega
      have e : ((l.set (j + 1) l[j]!).set j l[j + 1]!).Perm l := by
        rw [getElem!_pos l j h1, getElem!_pos l (j + 1) h]
        exact List.set_set_perm (i := j + 1) (j := j) h h1
      exact (insN_perm K j _ (by simp; omega)).trans e
    · exact List.Perm.refl _
theorem sortTo_perm (K : Nat → Int) (l : List Nat) : ∀ n, n ≤ l.length → (sortTo K l n).Perm l
  | 0, _ => List.Perm.refl _
  | i + 1, h => by
    unfold sortTo
    exact (insN_perm K i _ (by rw [sortTo_len]; omega)).trans (sortTo_perm K l i (by omega))
/-- the batches in the order of their keys -/
def sortR (K : Nat → Int) (n : Nat) : List Nat := sortTo K (List.range n) n
theorem sortR_perm (K : Nat → Int) (n : Nat) : (sortR K n).Perm (List.range n) := sortTo_perm K _ n (by simp)
theorem sortR_len (K : Nat → Int) (n : Nat) : (sortR K n).length = n := by simpa using (sortR_perm K n).length_eq
theorem sortR_nodup (K : Nat → Int) (n : Nat) : (sortR K n).Nodup := (sortR_perm K n).nodup_iff.2 List.nodup_range
theorem sortR_mem (K : Nat → Int) (n i : Nat) : i ∈ sortR K n ↔ i < n := by rw [(sortR_perm K n).mem_iff, List.mem_range]
theorem sortR_lt (K : Nat → Int) (n i : Nat) (hi : i < (sortR K n).length) : (sortR K n)[i]! < n := by
  rw [getElem!_pos _ i hi]
  exact (sortR_mem K n _).1 (List.getElem_mem hi)
theorem range_lt (n : Nat) : AllLt n (List.range n) := fun i hi => by
  have h := hi
  rw [List.length_range] at h
  rw [getElem!_pos _ i hi, List.getElem_range]
  exact h
/-- the longest first -/
def durK (bn : List BN) (i : Nat) : Int := -((durN bn[i]! : Nat) : Int)

set_option maxRecDepth 100000 in
set_option maxHeartbeats 4000000 in
theorem key_any {p : Nat} {ba : Option Addr} {bl bc : Nat} {vn : List Nat} {bn : List BN} (W : World) (i : Nat) (hc : W.cell? ⟨p, 0, none⟩ = some (.slice ba bl bc)) (hb : Bats W ba bl (bn.map bI)) (hT : TaskN vn bn) (hi : i < bl) :
    Calls Tryd.prog 40 #[.int .i64 (i : Int), .pointer (some ⟨p, 0, none⟩)] W fun e w' => e = .returned (.int .i64 (durK bn i)) ∧ Below W.heap.size W w' := by
  have hlb : bn.length = bl := by have := hb.1; simpa using this
  have hib : i < bn.length := by omega
  obtain ⟨gB, ob, ta, tl, tc, rfl, hx⟩ := hb.at hi
  rw [bI_at hib] at hx
  have hlt := hT.len i hib
  have hl3 : (bn[i]!).tm.length ≤ 3 := by have := hT.house.few; omega
  have hmt : ∀ q, q < (bn[i]!).tm.length → (bn[i]!).tm[q]! ≤ 30 := fun q hq => (hT.tm i hib q (by omega)).2
  have hd := hT.dur hib
  obtain ⟨b, hbe⟩ : ∃ b, b = bn[i]! := ⟨_, rfl⟩
  have HK := Lib.hid (show durK bn i = -((durN b : Nat) : Int) by rw [hbe]; rfl)
  rw [← hbe] at hx hl3 hmt hd
  have c0 : W.cell? ⟨gB, ob + i * 2, none⟩ = some (.int .i64 (b.rdy : Int)) := hx.c0
  have c1 := hx.c1
  have P := Lib.hid (duration_any (b.rdy : Int) ta tl tc b.tm W hx.il hmt hl3)
  have u0 : (0 : Int) ≤ (i : Int) := by omega
  have u1 : (i : Int) < (bl : Int) := by omega
  obtain ⟨d, hdd⟩ : ∃ d, d = durN b := ⟨_, rfl⟩
  have hk : b.tm.sum = d := hdd.symm
  rw [← hdd] at hd HK
  rw [hk] at P
  have kw : IntKind.i64.wrap (-(d : Int)) = -(d : Int) := IntWalk.i64_in _ (by omega)
  clear hbe hlt hmt hx hb hT hlb hib hk hdd
  go_enter Tryd.func40, Tryd.ntmps40
  go_wp2_with (go_at_call 36; refine P.out.mono ?_; rintro e w1 ⟨rfl, hb1⟩; have HB1 := Lib.hid hb1; clear hb1)
  go_ret
  exact ⟨congrArg (fun z => Ending.returned (.int .i64 z)) HK.out.symm, HB1.out⟩
end Go.Proofs.YtbidadkcdchomaaDoor

/- package plan: two lists of starts compared. -/
set_option linter.unusedVariables false
set_option linter.unusedSimpArgs false
namespace Go.Proofs.YtbidadkcdchomaaDoor
open Go.RowKit

theorem part5 (a0 a1 a2 a3 a4 : Int) (w : World) (i : Nat) (v : Value) (hv : (#[Value.int .i64 a0, .int .i64 a1, .int .i64 a2, .int .i64 a3, .int .i64 a4] : Array Value)[i]? = some v) : (part 3 #[.int .i64 a0, .int .i64 a1, .int .i64 a2, .int .i64 a3, .int .i64 a4] (i * 1)).run Tryd.prog w = .ok v w := by
  rw [Nat.mul_one]
  simp [part, isAgg, run_underlying Tryd.underlying3, hv]
theorem eq_starts (a0 a1 a2 a3 a4 b0 b1 b2 b3 b4 : Int) (w : World) : (Op.equalIn 10000 45 (.agg #[.int .i64 a0, .int .i64 a1, .int .i64 a2, .int .i64 a3, .int .i64 a4]) (.agg #[.int .i64 b0, .int .i64 b1, .int .i64 b2, .int .i64 b3, .int .i64 b4])).run Tryd.prog w = .ok (a0 == b0 && (a1 == b1 && (a2 == b2 && (a3 == b3 && a4 == b4)))) w := by
  obtain ⟨i, hi, _⟩ : ∃ i, Tryd.prog.info? 3 = some i ∧ True := ⟨_, rfl, trivial⟩
  rw [run_equalIn_array w 9999 (n := 5) (e := 3) (i := i) _ _ Tryd.underlying45 hi]
  have hc : Tryd.prog.cellsOf 3 = 1 := by kernel_rfl
  rw [hc, show List.range 5 = [0, 1, 2, 3, 4] from rfl]
  have ei : ∀ (x y : Int) (w : World), (Op.equalIn 9999 3 (.int .i64 x) (.int .i64 y)).run Tryd.prog w = .ok (x == y) w := fun x y w => run_equalIn_int w 9998 _ .i64 .i64 x y Tryd.underlying3
  simp only [Op.eqItems, Sem.run_bind]
  rw [part5 a0 a1 a2 a3 a4 w 0 (.int .i64 a0) rfl, Result.andThen_ok, part5 b0 b1 b2 b3 b4 w 0 (.int .i64 b0) rfl, Result.andThen_ok, ei, Result.andThen_ok]
  cases h0 : (a0 == b0)
  · simp
  simp only [Bool.not_true, Bool.false_eq_true, if_false, Bool.true_and]
  rw [Sem.run_bind, part5 a0 a1 a2 a3 a4 w 1 (.int .i64 a1) rfl, Result.andThen_ok, Sem.run_bind, part5 b0 b1 b2 b3 b4 w 1 (.int .i64 b1) rfl, Result.andThen_ok, Sem.run_bind, ei, Result.andThen_ok]
  cases h1 : (a1 == b1)
  · simp
  simp only [Bool.not_true, Bool.false_eq_true, if_false, Bool.true_and]
  rw [Sem.run_bind, part5 a0 a1 a2 a3 a4 w 2 (.int .i64 a2) rfl, Result.andThen_ok, Sem.run_bind, part5 b0 b1 b2 b3 b4 w 2 (.int .i64 b2) rfl, Result.andThen_ok, Sem.run_bind, ei, Result.andThen_ok]
  cases h2 : (a2 == b2)
  · simp
  simp only [Bool.not_true, Bool.false_eq_true, if_false, Bool.true_and]
  rw [Sem.run_bind, part5 a0 a1 a2 a3 a4 w 3 (.int .i64 a3) rfl, Result.andThen_ok, Sem.run_bind, part5 b0 b1 b2 b3 b4 w 3 (.int .i64 b3) rfl, Result.andThen_ok, Sem.run_bind, ei, Result.andThen_ok]
  cases h3 : (a3 == b3)
  · simp
  simp only [Bool.not_true, Bool.false_eq_true, if_false, Bool.true_and]
  rw [Sem.run_bind, part5 a0 a1 a2 a3 a4 w 4 (.int .i64 a4) rfl, Result.andThen_ok, Sem.run_bind, part5 b0 b1 b2 b3 b4 w 4 (.int .i64 b4) rfl, Result.andThen_ok, Sem.run_bind, ei, Result.andThen_ok]
  cases h4 : (a4 == b4)
  · simp
  · simp
end Go.Proofs.YtbidadkcdchomaaDoor

/- package plan: leastEnd. -/
set_option linter.unusedVariables false
set_option linter.unusedSimpArgs false
namespace Go.Proofs.YtbidadkcdchomaaDoor
open Go.RowKit

theorem results_tmp_row {P : Program} {fn : Func} {p r : Tmp} {ty : TypeId} (h : fn.results = #[.tmp r, .cell p ty]) (tmps : Array Value) (w : World) (g : Nat) (t : TypeId) (cs : Array Value) (fr : Nat × Nat) (d : TypeDesc)
    (hp : tmps.getD p undef = .pointer (some ⟨g, 0, none⟩)) (hg : w.heap[g]? = some (.cells cs t fr))
    (hu : P.underlying ty = some d) (hd : (match d with | .struct _ | .array _ _ => true | _ => false) = true) (hi : (P.info? ty).map (·.size) = some cs.size) :
    (results fn tmps).run P w = .ok (.tuple #[tmps.getD r undef, .agg cs]) w := by
  have hp' : tmps[p]?.getD undef = .pointer (some ⟨g, 0, none⟩) := by simpa using hp
  simp [results, h, hp', asAddr, run_loadVar_row w g t ty cs fr d hg hu hd hi, Result.andThen]

def osN (bn : List BN) (bl : Nat) : List Nat := sortR (durK bn) bl
/-- the least end and the starts, or nowhere -/
def IsLeast (vn : List Nat) (bn : List BN) (bl : Nat) (en : Nat) (st : List Int) : Prop :=
  (en ≤ 30 ∧ (∀ j, j < en → startsN vn bn j (osN bn bl) = none) ∧ startsN vn bn en (osN bn bl) ≠ none ∧ IsStarts (startsN vn bn en (osN bn bl)) (osN bn bl) st) ∨ (en = 0 ∧ (∀ j, j ≤ 30 → startsN vn bn j (osN bn bl) = none) ∧ st = [-1, 0, 0, 0, 0])
def OutLE (vn : List Nat) (bn : List BN) (bl : Nat) (W : World) (e : Ending) (w' : World) : Prop := ∃ (en : Nat) (z0 z1 z2 z3 z4 : Int), e = .returned (.tuple #[.int .i64 (en : Int), .agg #[.int .i64 z0, .int .i64 z1, .int .i64 z2, .int .i64 z3, .int .i64 z4]]) ∧ IsLeast vn bn bl en [z0, z1, z2, z3, z4] ∧ Below W.heap.size W w'

theorem starts_pos {os ss : List Nat} {st : List Int} (hl : ss.length = os.length) (h1 : SetAt os ss st) (h2 : AgreeOut os [0, 0, 0, 0, 0] st) : (0 : Int) ≤ (st[0]?).getD 0 := by
  by_cases h : 0 ∈ os
  · obtain ⟨q, hq, e⟩ := List.mem_iff_getElem.1 h
    have := h1 q (by omega)
    rw [getElem!_pos os q hq, e] at this
    rw [this]
    omega
  · rw [h2.2 0 h]
    exact Int.le_refl _
theorem IsStarts.neg {os : List Nat} {vn : List Nat} {bn : List BN} {en : Nat} {z0 z1 z2 z3 z4 : Int} (h : IsStarts (startsN vn bn en os) os [z0, z1, z2, z3, z4]) :
    (startsN vn bn en os ≠ none ∧ 0 ≤ z0) ∨ (startsN vn bn en os = none ∧ z0 = -1 ∧ z1 = 0 ∧ z2 = 0 ∧ z3 = 0 ∧ z4 = 0) := by
  rcases h with ⟨ss, h1, h2, h3⟩ | ⟨h1, h2⟩
  · exact .inl ⟨by rw [h1]; simp, starts_pos (placeN_len _ _ _ _ _ h1) h2 h3⟩
  · simp at h2
    exact .inr ⟨h1, h2⟩
set_option maxRecDepth 100000 in
set_option maxHeartbeats 4000000 in
theorem least_any {p q : Nat} {va : Option Addr} {vl vc : Nat} {ba : Option Addr} {bl bc : Nat} {vn : List Nat} {bn : List BN} (W : World) (h : EnvB W p q va vl vc ba bl bc vn bn) :
    Calls Tryd.prog 26 #[.slice ba bl bc, .func (.func 23) #[] #[.pointer (some ⟨p, 0, none⟩), .pointer (some ⟨q, 0, none⟩)]] W (OutLE vn bn bl W) := by
  obtain ⟨V, hV⟩ : ∃ V, V = (W.alloc (.cells #[.slice ba bl bc] 23)).alloc (.cells #[.int .i64 0, .int .i64 0, .int .i64 0, .int .i64 0, .int .i64 0] 45) := ⟨_, rfl⟩
  have hb1 := box_below W (.cells #[.slice ba bl bc] 23)
  have hb2 := box_below (W.alloc (.cells #[.slice ba bl bc] 23)) (.cells #[.int .i64 0, .int .i64 0, .int .i64 0, .int .i64 0, .int .i64 0] 45)
  have HB : Hid (Below W.heap.size W V) := Lib.hid (by rw [hV]; exact hb1.trans (hb2.mono hb1.size))
  have HZ : Hid (V.heap.size = W.heap.size + 1 + 1) := Lib.hid (by rw [hV, size_alloc, size_alloc])
  have hsz : (W.alloc (.cells #[.slice ba bl bc] 23)).heap.size = W.heap.size + 1 := size_alloc _ _
  have R5 : Hid (V.heap[W.heap.size + 1]? = some (.cells #[.int .i64 0, .int .i64 0, .int .i64 0, .int .i64 0, .int .i64 0] 45 (0, 0))) := Lib.hid (by rw [hV, ← hsz]; exact new_row _ _)
  have R2 : V.heap[W.heap.size]? = some (.cells #[.slice ba bl bc] 23 (0, 0)) := by rw [hV]; exact row_keep hb2 (new_row W _)
  have c0 : V.cell? ⟨W.heap.size, 0, none⟩ = some (.slice ba bl bc) := by rw [cell_row R2]; rfl
  have hE := h.keep HB.out
  have h5 : bl ≤ 5 := by have := h.t.few; have := h.b.1; simp at this; omega
  have HE := Lib.hid hE
  have HV := Lib.hid hV
  clear h hV hE hb1 hb2 hsz R2
  go_enter Tryd.func26, Tryd.ntmps26
  go_upto_region 1 with fail
  rw [← HV.out]
  have P1 := Lib.hid (indices_any bl (by omega) V)
  go_wp2_with (first | (go_at_call 27; refine P1.out.mono ?_; rintro e w1 ⟨rfl, hi1, hb1, hz1⟩; have HI1 := Lib.hid hi1; have HB1 := Lib.hid hb1; have HC1 := Lib.hid (cell_later hb1 c0); clear hi1 hb1 hz1; have P2 := Lib.hid (orderBy_any (fk := 40) (lb := #[.pointer (some ⟨W.heap.size, 0, none⟩)]) (K := durK bn) (m := bl) (g := V.heap.size) (W := w1) (fun args w => rfl) bl bl (List.range bl) List.length_range (range_lt bl) (by omega) HI1.out (fun w i hi hg => key_any (vn := vn) w i (hg.cell HC1.out (by have := HZ.out; simp; omega)) ((HE.out.keep (below_grown HB1.out hg HB1.out.size (Nat.le_refl _))).b) HE.out.t hi))) | (go_at_call 39; refine P2.out.mono ?_; rintro e w2 ⟨rfl, hk2, hg2⟩; have HK2 := Lib.hid hk2; have HB2 := Lib.hid (below_grown HB1.out hg2 HB1.out.size (Nat.le_refl _)); clear hk2 hg2))
  have HEW := Lib.hid (HE.out.keep HB2.out)
  have HOW : Hid (OrdM w2 (some ⟨V.heap.size, 0, none⟩) bl bl (osN bn bl) bl) := Lib.hid ⟨HK2.out.il (by rw [vI_len]; exact sortR_len _ _), fun i hi => sortR_lt _ _ i hi, sortR_nodup _ _, sortR_len _ _, ⟨Nat.le_refl _, by omega⟩, fun a e => by cases e; exact HK2.out.lt⟩
  have R52 := Lib.hid (row_keep HB2.out R5.out)
  clear c0
  go_loopg [15] 31 (fun gg s15 wr => ∃ k : Nat, s15 = .int .i64 (k : Int) ∧ k ≤ 31 ∧ 31 - k ≤ gg ∧ Hid (∀ j, j < k → startsN vn bn j (osN bn bl) = none) ∧ Hid (Below w2.heap.size w2 wr))
  case atStart => exact ⟨0, rfl, by omega, by omega, Lib.hid (fun j hj => absurd hj (Nat.not_lt_zero _)), Lib.hid (Below.refl _ _)⟩
  case round =>
    obtain ⟨k, rfl, hk, hgg, HN, HWr⟩ := hrel
    by_cases h1 : k < 31
    · have u1 : (k : Int) < 31 := by omega
      have P3 := Lib.hid (search_any k wr (HEW.out.keep HWr.out) (HOW.out.keep HWr.out) (by omega))
      go_upto_region 7 with (go_at_call 23; refine P3.out.mono ?_; rintro e w3 ⟨z0, z1, z2, z3, z4, rfl, hz, hb3⟩; have HZ3 := Lib.hid hz; have HB3 := Lib.hid hb3; clear hz hb3)
      obtain ⟨w5, hw5⟩ : ∃ w5, w5 = w3.alloc (.cells #[.int .i64 z0, .int .i64 z1, .int .i64 z2, .int .i64 z3, .int .i64 z4] 45) := ⟨_, rfl⟩
      have HB5 : Hid (Below wr.heap.size wr w5) := Lib.hid (by rw [hw5]; exact below_then HB3.out (box_below w3 _))
      have R8 : w5.heap[w3.heap.size]? = some (.cells #[.int .i64 z0, .int .i64 z1, .int .i64 z2, .int .i64 z3, .int .i64 z4] 45 (0, 0)) := by rw [hw5]; exact new_row w3 _
      have HW5 := Lib.hid (HWr.out.trans (HB5.out.mono HWr.out.size))
      have r0 := cell_row R8 0; have r1 := cell_row R8 1; have r2 := cell_row R8 2; have r3 := cell_row R8 3; have r4 := cell_row R8 4
      simp only [List.getElem?_toArray, List.getElem?_cons_zero, List.getElem?_cons_succ] at r0 r1 r2 r3 r4
      have HN5 := (HEW.out.keep HW5.out).now
      have e0 := HN5.c0; have e1 := HN5.c1; have e2 := HN5.c2; have e3 := HN5.c3; have e4 := HN5.c4
      have RR := Lib.hid (row_keep HW5.out R52.out)
      rw [← hw5]
      clear hw5 R8 HN5
      rcases HZ3.out.neg with ⟨hs, h0⟩ | ⟨hs, rfl, rfl, rfl, rfl, rfl⟩
      · have hne : ∀ w, (Op.equalIn 10000 45 (.agg #[.int .i64 z0, .int .i64 z1, .int .i64 z2, .int .i64 z3, .int .i64 z4]) (.agg #[.int .i64 (-1), .int .i64 0, .int .i64 0, .int .i64 0, .int .i64 0])).run Tryd.prog w = .ok false w := fun w => by
          have : (z0 == -1) = false := by simp; omega
          rw [eq_starts, this]
          rfl
        have HSS := Lib.hid hs
        have s0 := cell_row RR.out 0; have s1 := cell_row RR.out 1; have s2 := cell_row RR.out 2; have s3 := cell_row RR.out 3; have s4 := cell_row RR.out 4
        simp only [List.getElem?_toArray, List.getElem?_cons_zero, List.getElem?_cons_succ] at s0 s1 s2 s3 s4
        have f0 := free_row RR.out 0; have f1 := free_row RR.out 1; have f2 := free_row RR.out 2; have f3 := free_row RR.out 3; have f4 := free_row RR.out 4
        clear hs
        go_wp2
        go_region
        go_wp2
        refine bodyPost_ret (v := .tuple #[.int .i64 (k : Int), .agg #[.int .i64 z0, .int .i64 z1, .int .i64 z2, .int .i64 z3, .int .i64 z4]]) (results_tmp_row Tryd.results26 _ _ (W.heap.size + 1) 45 #[.int .i64 z0, .int .i64 z1, .int .i64 z2, .int .i64 z3, .int .i64 z4] (0, 0) _ rfl (set_five RR.out) Tryd.underlying45 (by kernel_rfl) (by kernel_rfl)) rfl ?_
        have hh := below_set5 (.int .i64 z0) (.int .i64 z1) (.int .i64 z2) (.int .i64 z3) (.int .i64 z4) (HB.out.trans ((HB2.out.trans (HW5.out.mono HB2.out.size)).mono HB.out.size)) (T := W.heap.size + 1) (Nat.le_succ _)
        exact ⟨k, z0, z1, z2, z3, z4, rfl, .inl ⟨by omega, HN.out, HSS.out, HZ3.out⟩, hh.trans ((drew_below _).mono hh.size)⟩
      · have hne : ∀ w, (Op.equalIn 10000 45 (.agg #[.int .i64 (-1), .int .i64 0, .int .i64 0, .int .i64 0, .int .i64 0]) (.agg #[.int .i64 (-1), .int .i64 0, .int .i64 0, .int .i64 0, .int .i64 0])).run Tryd.prog w = .ok true w := fun w => by
          rw [eq_starts]
          rfl
        have HSS := Lib.hid hs
        clear hs
        go_wp2
        go_roundg (31 - (k + 1))
        case measure => omega
        case rel => exact ⟨k + 1, by go_num, by omega, Nat.le_refl _, Lib.hid (fun j hj => by
            rcases Nat.lt_succ_iff_lt_or_eq.1 hj with hj | rfl
            · exact HN.out j hj
            · exact HSS.out), HW5⟩
    · obtain rfl : k = 31 := by omega
      have RR := Lib.hid (row_keep HWr.out R52.out)
      have HN5 := (HEW.out.keep HWr.out).now
      have e0 := HN5.c0; have e1 := HN5.c1; have e2 := HN5.c2; have e3 := HN5.c3; have e4 := HN5.c4
      have s0 := cell_row RR.out 0; have s1 := cell_row RR.out 1; have s2 := cell_row RR.out 2; have s3 := cell_row RR.out 3; have s4 := cell_row RR.out 4
      simp only [List.getElem?_toArray, List.getElem?_cons_zero, List.getElem?_cons_succ] at s0 s1 s2 s3 s4
      have f0 := free_row RR.out 0; have f1 := free_row RR.out 1; have f2 := free_row RR.out 2; have f3 := free_row RR.out 3; have f4 := free_row RR.out 4
      clear HN5
      go_wp2
      go_region
      go_wp2
      refine bodyPost_ret (v := .tuple #[.int .i64 0, .agg #[.int .i64 (-1), .int .i64 0, .int .i64 0, .int .i64 0, .int .i64 0]]) (results_tmp_row Tryd.results26 _ _ (W.heap.size + 1) 45 #[.int .i64 (-1), .int .i64 0, .int .i64 0, .int .i64 0, .int .i64 0] (0, 0) _ rfl (set_five RR.out) Tryd.underlying45 (by kernel_rfl) (by kernel_rfl)) rfl ?_
      have hh := below_set5 (.int .i64 (-1)) (.int .i64 0) (.int .i64 0) (.int .i64 0) (.int .i64 0) (HB.out.trans ((HB2.out.trans (HWr.out.mono HB2.out.size)).mono HB.out.size)) (T := W.heap.size + 1) (Nat.le_succ _)
      exact ⟨0, -1, 0, 0, 0, 0, rfl, .inr ⟨rfl, fun j hj => HN.out j (by omega), rfl⟩, hh.trans ((drew_below _).mono hh.size)⟩
end Go.Proofs.YtbidadkcdchomaaDoor

/- slices.Clone of integers. -/
set_option linter.unusedVariables false
set_option linter.unusedSimpArgs false
namespace Go.Proofs.YtbidadkcdchomaaDoor
open Go.RowKit

theorem own_empty (w : World) : OwnI (w.alloc (.cells #[] 3)) w.heap.size 3 (.slice (some ⟨w.heap.size, 0, none⟩) 0 0) 0 [] :=
  ⟨rfl, .inr ⟨w.heap.size, 0, #[], rfl, Nat.le_refl _, heap_alloc_new w _, Nat.le_refl _, Nat.zero_le _, rfl, rfl⟩⟩
/-- 'append(s, xs...)' of nothing -/
theorem wpList_appNil {P : Program} {w : World} {ops : Array Oper} {rest : List Oper} {o : Oper} {a : Act} {Q : Exit → Act → World → Prop} (hgd : o.guard = none) (s x : Operand) (t : TypeId)
    (ho : o.op = .call { callee := .builtin .append, args := #[s, x], argTypes := #[t, t] }) (base e : Nat) (bytes : Nat)
    (h1 : P.underlying t = some (.slice e)) (h2 : (P.info? e).map (fun i => (i.zero, i.size, i.bytes)) = some (some (.int .i64 0), 1, bytes))
    (v : Value) (n : Nat) (xs : List Int) (hs : a.eval s = v) (hown : OwnI w base e v n xs) (ao : Option Addr) (c : Nat) (hx : a.eval x = .slice ao 0 c) (hn0 : ao = none → c = 0)
    (hn : n ≤ 9000000000000) (hby : bytes ≤ 8) (hbase : base ≤ w.heap.size)
    (h : ∀ v' w', OwnI w' base e v' n xs → Below base w w' → wpList P ops Q rest (a.put o.dst v') w') :
    wpList P ops Q (o :: rest) a w := by
  obtain ⟨i0, hi, hz0, hz1, hz2⟩ := info_parts h2
  cases ao with
  | none =>
    obtain rfl := hn0 rfl
    exact wpList_append_own_none hgd s x t ho base e i0 1 h1 hi v n _ hs hown hx (h v w hown (Below.refl _ _))
  | some ad =>
    have hb : (n + 0) * bytes ≤ 140737488355328 := by
      have : n * bytes ≤ n * 8 := Nat.mul_le_mul_left _ hby
      rw [Nat.add_zero]
      omega
    refine wpList_append_own _ hgd s x t ho base e i0 (.int .i64 0) 1 bytes h1 hi hz0 hz1 hz2 rfl (by decide) v n _ hs hown ad 0 c [] hx rfl (by intro j u hj; simp at hj) (by intro u hu; simp at hu) (by unfold maxLen; omega) hb hbase ?_
    intro v' w' hr hg _
    refine h v' w' ?_ ((Below.refl base w).grown hg hbase hown.ge)
    rw [List.append_nil] at hr
    exact hr
/-- a list of integers of the call's own is returned -/
def OutLF (W : World) (zs : List Int) (e : Ending) (w' : World) : Prop := ∃ ao cap, e = .returned (.slice ao zs.length cap) ∧ Il w' ao zs.length zs ∧ Below W.heap.size W w' ∧ ∀ a, ao = some a → W.heap.size ≤ a.block
theorem OwnI.outLF {W w : World} {v : Value} {xs : List Int} {e : Nat} (h : OwnI w W.heap.size e v xs.length xs) (hb : Below W.heap.size W w) : OutLF W xs (.returned v) w ∧ ∃ oo cap, v = .slice oo xs.length cap := by
  have hg := h.ge
  obtain ⟨oo, cap, rfl, h1, h2, h3⟩ := h.il
  refine ⟨⟨oo, cap, rfl, h3, hb, fun a e => ?_⟩, oo, cap, rfl⟩
  subst e
  exact hg _ rfl
theorem OwnI.outL {W w : World} {v : Value} {xs : List Int} {B e : Nat} (h : OwnI w B e v xs.length xs) (hb : Below W.heap.size W w) : ∃ oo cap, v = .slice oo xs.length cap ∧ xs.length ≤ cap ∧ cap ≤ maxLen ∧ Il w oo xs.length xs ∧ Below W.heap.size W w := by
  obtain ⟨oo, cap, rfl, h1, h2, h3⟩ := h.il
  exact ⟨oo, cap, rfl, h1, h2, h3, hb⟩

set_option maxHeartbeats 1000000 in
theorem cloneI_any (g o n c : Nat) (xs : List Int) (W : World) (h : Il W (some ⟨g, o, none⟩) n xs) (hn : n ≤ 1000) :
    Calls Tryd.prog 28 #[.slice (some ⟨g, o, none⟩) n c] W (OutLF W xs) := by
  have hl := h.len
  have hq := fun w => Lib.run_eql_slice_nil (P := Tryd.prog) w 22 3 (some ⟨g, o, none⟩) n c 0 0 Tryd.underlying22
  have hbe : Below W.heap.size W (W.alloc (.cells #[] 3)) := (Below.refl _ _).alloc (Nat.le_refl _) _
  have GB := Lib.hid hbe
  have HI := Lib.hid (h.keep hbe)
  clear hbe h
  by_cases h0 : 0 < n
  · have HL := Lib.hid hl
    clear hl
    go_enter Tryd.func28, Tryd.ntmps28
    go_wp2_with (at_builtin; refine wpList_appRow rfl _ _ 22 rfl W.heap.size 3 8 Tryd.underlying22 (by kernel_rfl) _ 0 [] rfl (own_empty W) _ n c xs rfl HI.out h0 (by omega) (by omega) GB.out.size ?_; intro v' w2 hown' hbel'; rw [List.nil_append, Nat.zero_add, ← HL.out] at hown'; obtain ⟨hq1, oo, cap, rfl⟩ := hown'.outLF (GB.out.trans hbel'); have HQ := Lib.hid hq1; clear hq1 hown' hbel')
    go_ret
    exact HQ.out
  · obtain rfl : n = 0 := by omega
    obtain rfl := List.eq_nil_of_length_eq_zero hl
    clear h0 hl
    go_enter Tryd.func28, Tryd.ntmps28
    go_wp2_with (at_builtin; refine wpList_appNil rfl _ _ 22 rfl W.heap.size 3 8 Tryd.underlying22 (by kernel_rfl) _ 0 [] rfl (own_empty W) _ _ rfl (fun e => by cases e) (by omega) (by omega) GB.out.size ?_; intro v' w2 hown' hbel'; obtain ⟨hq1, oo, cap, rfl⟩ := OwnI.outLF (xs := []) hown' (GB.out.trans hbel'); have HQ := Lib.hid hq1; clear hq1 hown' hbel')
    go_ret
    exact HQ.out
end Go.Proofs.YtbidadkcdchomaaDoor
