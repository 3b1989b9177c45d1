/- Part 5 of the contracts: SActs, SShort, STabs, STables. -/
import Derived.Deep.Slices
import Derived.Deep.Fields
import Derived.ChangeSame
import Derived.IntWalk
import Derived.Test.YtkdbdocipijncaaPart4

/- Lists of acts and of deeds in memory; arguments that are such lists. -/
set_option linter.unusedVariables false
set_option linter.unusedSimpArgs false
namespace Go.Proofs.Ytkdbdocipijncaa
open Go.ChangeShapes Go.WideShapes Go.RowKit Go.Joins Go.Deep

/-- one field of a struct whose fields are single cells, out of the struct's reading at address a -/
theorem field_read {H : Type} {enc : TypeId × Value → H} {P : Program} {w : World} {base : Nat} {spare : Nat → Bool} {held : Bool} {e : TypeId} {fs : Array Field} {a : Addr} {cs : List Value} {n : Nat} {x : DataW H × List MemPlace}
    (he : P.underlying e = some (.struct fs)) (h1 : oneCellFields P fs = true) (hc : w.cells? base a (P.cellsOf e) = some cs) (ht : DataW.trod enc P w base spare held n e cs = some x) (hC : P.cellsOf e = fs.size) (j : Nat) (tj : TypeId) (hjt : fs[j]?.map (·.type) = some tj) :
    ∃ (v : Value) (y : DataW H × List MemPlace) (m : Nat), w.cell? (a.add j) = some v ∧ DataW.trod enc P w base spare held m tj [v] = some y := by
  obtain ⟨f, hj, rfl⟩ := Option.map_eq_some_iff.1 hjt
  obtain ⟨ys, m, _, _, hl, hyl, hf⟩ := DataW.trod_struct he ht
  obtain ⟨_, hcl, hat⟩ := World.cells?_some hc
  have hjs : j < fs.size := (Array.getElem?_eq_some_iff.1 hj).1
  have hjc : j < cs.length := by omega
  obtain ⟨o1, o2⟩ := Go.Deep.hone_of h1 j f hj
  have hr := hf j f hj
  rw [o1, o2, List.drop_eq_getElem_cons hjc] at hr
  have hy : ys[j]? = some (ys[j]'(by omega)) := List.getElem?_eq_getElem (by omega)
  refine ⟨cs[j], ys[j]'(by omega), m, ?_, ?_⟩
  · rw [hat j (by omega), List.getElem?_eq_getElem hjc]
  · rw [← hy, ← hr]; rfl

/-! ### acts -/
structure ActD where
  kind : Nat
  a : Nat
  b : Nat
  site : Int
  key : ByteArray
  val : ByteArray
instance : Inhabited ActD := ⟨⟨0, 0, 0, 0, ByteArray.empty, ByteArray.empty⟩⟩
def ActD.fine (x : ActD) : Prop := x.kind ≤ 255 ∧ x.a ≤ 255 ∧ x.b ≤ 255 ∧ InWord x.site
/-- the six cells of an act -/
def ActAt (w : World) (g o : Nat) (x : ActD) : Prop :=
  w.cell? ⟨g, o, none⟩ = some (.int .u8 (x.kind : Int)) ∧ w.cell? ⟨g, o + 1, none⟩ = some (.int .u8 (x.a : Int)) ∧ w.cell? ⟨g, o + 2, none⟩ = some (.int .u8 (x.b : Int)) ∧ w.cell? ⟨g, o + 3, none⟩ = some (.int .i64 x.site) ∧ w.cell? ⟨g, o + 4, none⟩ = some (.string x.key) ∧ w.cell? ⟨g, o + 5, none⟩ = some (.string x.val)
theorem ActAt.keep {w w' : World} {g o : Nat} {x : ActD} (h : ActAt w g o x) (hb : Below w.heap.size w w') : ActAt w' g o x := by
  obtain ⟨a, b, c, d, e, f⟩ := h
  exact ⟨cell_later hb a, cell_later hb b, cell_later hb c, cell_later hb d, cell_later hb e, cell_later hb f⟩
/-- a slice of acts -/
def Acts (w : World) (ao : Option Addr) (len : Nat) (xs : List ActD) : Prop :=
  xs.length = len ∧ (∀ x ∈ xs, x.fine) ∧ ∃ g o, (0 < len → ao = some ⟨g, o, none⟩) ∧ ∀ i, i < len → ActAt w g (o + i * 6) xs[i]!
theorem Acts.keep {w w' : World} {ao : Option Addr} {len : Nat} {xs : List ActD} (h : Acts w ao len xs) (hb : Below w.heap.size w w') : Acts w' ao len xs := by
  obtain ⟨h1, h0, g, o, h2, h3⟩ := h
  exact ⟨h1, h0, g, o, h2, fun i hi => (h3 i hi).keep hb⟩
theorem Acts.at {w : World} {ao : Option Addr} {len : Nat} {xs : List ActD} (h : Acts w ao len xs) {i : Nat} (hi : i < len) : ∃ g o, ao = some ⟨g, o, none⟩ ∧ ActAt w g (o + i * 6) xs[i]! ∧ xs[i]!.fine := by
  obtain ⟨h1, h0, g, o, h2, h3⟩ := h
  exact ⟨g, o, h2 (by omega), h3 i hi, h0 _ (by rw [getElem!_pos xs i (by omega)]; exact List.getElem_mem _)⟩

theorem u8_nat {n : Int} (h : (Lit.int .u8 n).wf = true) : ∃ m : Nat, (m : Int) = n ∧ m ≤ 255 := by
  have := bounds_u8 h
  exact ⟨n.toNat, Int.toNat_of_nonneg this.1, by omega⟩
set_option maxRecDepth 100000 in
theorem open_acts {H : Type} {enc : TypeId × Value → H} {W : World} {v : Value} {d : DataW H} {p : List MemPlace} {base : Nat}
    (hv : Value.okWide Try.prog W .any base 22 v) (h : DataW.Trod enc Try.prog W 0 (fun _ => true) true 22 v d p) :
    ∃ ao la ca xs, v = .slice ao la ca ∧ Acts W ao la xs ∧ la ≤ 9223372036854775807 := by
  obtain ⟨ao, la, ca, rfl⟩ := okWide_slice Try.underlying22 hv
  obtain ⟨fuel, hf⟩ := h
  have hC : Try.prog.cellsOf 83 = 6 := by kernel_rfl
  rcases Go.Deep.open_slice Try.underlying22 hf with ⟨e1, _⟩ | ⟨a, len, cap, m, n, D, Pl, e1, _, hlc, hcm, hm, _, hi⟩
  · simp [Value.cells] at e1
    obtain ⟨rfl, rfl, rfl⟩ := e1
    exact ⟨none, 0, 0, [], rfl, ⟨rfl, fun x hx => by (cases hx), 0, 0, fun h => by omega, fun i hi => by omega⟩, by omega⟩
  · simp [Value.cells] at e1
    obtain ⟨rfl, rfl, rfl⟩ := e1
    have hm2 : la ≤ m := by rw [hm]; split <;> omega
    have key : ∀ i, i < la → ∃ x : ActD, x.fine ∧ W.cell? (a.add (i * 6)) = some (.int .u8 (x.kind : Int)) ∧ W.cell? (a.add (i * 6 + 1)) = some (.int .u8 (x.a : Int)) ∧ W.cell? (a.add (i * 6 + 2)) = some (.int .u8 (x.b : Int)) ∧ W.cell? (a.add (i * 6 + 3)) = some (.int .i64 x.site) ∧ W.cell? (a.add (i * 6 + 4)) = some (.string x.key) ∧ W.cell? (a.add (i * 6 + 5)) = some (.string x.val) := fun i hil => by
      obtain ⟨cs', hc, ht⟩ := hi i (by omega)
      rw [hC] at hc
      have h1 : oneCellFields Try.prog _ = true := (by kernel_rfl : oneCellFields Try.prog (Try.prog.fieldsOf 83) = true)
      have he : Try.prog.underlying 83 = some (.struct (Try.prog.fieldsOf 83)) := by kernel_rfl
      have hs : Try.prog.cellsOf 83 = (Try.prog.fieldsOf 83).size := by kernel_rfl
      rw [← hC] at hc
      have rd := field_read he h1 hc ht hs
      obtain ⟨v0, y0, m0, c0, t0⟩ := rd 0 5 (by kernel_rfl)
      obtain ⟨v1, y1, m1, c1, t1⟩ := rd 1 5 (by kernel_rfl)
      obtain ⟨v2, y2, m2, c2, t2⟩ := rd 2 5 (by kernel_rfl)
      obtain ⟨v3, y3, m3, c3, t3⟩ := rd 3 3 (by kernel_rfl)
      obtain ⟨v4, y4, m4, c4, t4⟩ := rd 4 9 (by kernel_rfl)
      obtain ⟨v5, y5, m5, c5, t5⟩ := rd 5 9 (by kernel_rfl)
      obtain ⟨z0, e0, _, w0⟩ := DataW.trod_int Try.underlying5 t0
      obtain ⟨z1, e1, _, w1⟩ := DataW.trod_int Try.underlying5 t1
      obtain ⟨z2, e2, _, w2⟩ := DataW.trod_int Try.underlying5 t2
      obtain ⟨z3, e3, _, w3⟩ := DataW.trod_int Try.underlying3 t3
      obtain ⟨z4, e4, _, w4⟩ := DataW.trod_string Try.underlying9 t4
      obtain ⟨z5, e5, _, w5⟩ := DataW.trod_string Try.underlying9 t5
      obtain ⟨n0, rfl, b0⟩ := u8_nat w0
      obtain ⟨n1, rfl, b1⟩ := u8_nat w1
      obtain ⟨n2, rfl, b2⟩ := u8_nat w2
      simp only [List.cons.injEq, and_true] at e0 e1 e2 e3 e4 e5
      subst e0 e1 e2 e3 e4 e5
      simp only [Go.Deep.add_add] at c0 c1 c2 c3 c4 c5
      exact ⟨⟨n0, n1, n2, z3, z4, z5⟩, ⟨b0, b1, b2, bounds_i64 w3⟩, c0, c1, c2, c3, c4, c5⟩
    obtain ⟨f, hf2⟩ : ∃ f : Nat → ActD, ∀ i, i < la → (f i).fine ∧ W.cell? (a.add (i * 6)) = some (.int .u8 ((f i).kind : Int)) ∧ W.cell? (a.add (i * 6 + 1)) = some (.int .u8 ((f i).a : Int)) ∧ W.cell? (a.add (i * 6 + 2)) = some (.int .u8 ((f i).b : Int)) ∧ W.cell? (a.add (i * 6 + 3)) = some (.int .i64 (f i).site) ∧ W.cell? (a.add (i * 6 + 4)) = some (.string (f i).key) ∧ W.cell? (a.add (i * 6 + 5)) = some (.string (f i).val) := by
      refine ⟨fun i => if h : i < la then Classical.choose (key i h) else default, fun i hi => ?_⟩
      simp only [dif_pos hi]
      exact Classical.choose_spec (key i hi)
    refine ⟨some a, la, ca, (List.range la).map f, rfl, ⟨by simp, fun x hx => ?_, ?_⟩, by unfold maxLen at hcm; omega⟩
    · obtain ⟨i, hi, rfl⟩ := List.mem_map.1 hx
      exact (hf2 i (by simpa using hi)).1
    · by_cases h0 : 0 < la
      · obtain ⟨b, off, spot⟩ := a
        have hspot : spot = none := by simpa [Addr.add] using World.cell?_spot (hf2 0 (by omega)).2.1
        subst hspot
        refine ⟨b, off, fun _ => rfl, fun i hi => ?_⟩
        have h1 := (hf2 i hi).2
        have e : ((List.range la).map f)[i]! = f i := by rw [getElem!_pos _ i (by simpa using hi)]; simp
        rw [e]
        simp only [add_off] at h1
        exact h1
      · exact ⟨0, 0, fun h => by omega, fun i hi => by omega⟩
end Go.Proofs.Ytkdbdocipijncaa

/- The law's short. -/
set_option linter.unusedVariables false
set_option linter.unusedSimpArgs false
namespace Go.Proofs.Ytkdbdocipijncaa
open Go.RowKit Go.Shelf Go.Sort

/-- may the act stand? -/
def ActD.brief (x : ActD) : Prop := x.key.size ≤ 200 ∧ x.val.size ≤ 200
open Classical in
noncomputable def firstBad (xs : List ActD) (q : Nat) : Bool := decide (∀ j, j < q → xs[j]!.brief)
def shortB (xs : List ActD) (len : Nat) (most : Nat) : Prop := (∀ j, j < len → j < most → xs[j]!.brief)
open Classical in
noncomputable def isShort (xs : List ActD) (len most : Nat) : Bool := decide (shortB xs len most) && decide (len ≤ most)

theorem least_bad {p : Nat → Prop} : ∀ n, (∃ j, j < n ∧ ¬ p j) → ∃ k, k < n ∧ ¬ p k ∧ ∀ j, j < k → p j
  | 0, ⟨j, hj, _⟩ => absurd hj (Nat.not_lt_zero _)
  | n + 1, ⟨j, hj, hp⟩ => by
    by_cases h : ∃ j, j < n ∧ ¬ p j
    · obtain ⟨k, hk, h1, h2⟩ := least_bad n h
      exact ⟨k, by omega, h1, h2⟩
    · refine ⟨n, Nat.lt_succ_self n, ?_, fun i hi => Classical.byContradiction fun k => h ⟨i, hi, k⟩⟩
      have : j = n := Classical.byContradiction fun k => h ⟨j, by omega, hp⟩
      rwa [← this]

set_option maxRecDepth 100000 in
set_option maxHeartbeats 4000000 in
theorem short_any (ao : Option Addr) (la ca most : Nat) (xs : List ActD) (W : World) (h : Acts W ao la xs) (hla : la ≤ 9223372036854775807) (hm : most ≤ 1000) :
    Calls Try.prog 13 #[.slice ao la ca, .int .i64 (most : Int)] W fun e w' => e = .returned (.bool (isShort xs la most)) ∧ W = w' := by
  have HA := Lib.hid h
  have pm : (most : Int) ≤ 1000 := by omega
  have pl : (la : Int) ≤ 9223372036854775807 := by omega
  clear h
  by_cases hall : shortB xs la most
  · have e : isShort xs la most = decide (la ≤ most) := by unfold isShort; simp [hall]
    rw [e]
    have HS := Lib.hid hall
    clear e hall
    go_enter Try.func13, Try.ntmps13
    go_wp2
    go_loopg [5] la (fun gg s5 wr => ∃ j : Nat, s5 = .int .i64 (j : Int) ∧ j ≤ la ∧ la - j ≤ gg ∧ wr = W)
    case atStart => exact ⟨0, rfl, Nat.zero_le _, by omega, rfl⟩
    case round =>
      obtain ⟨j, rfl, hj, hgg, rfl⟩ := hrel
      by_cases h1 : j < la
      · have t1 : decide ((j : Int) < (la : Int)) = true := by simp; omega
        by_cases h2 : j < most
        · have t2 : decide ((j : Int) < (most : Int)) = true := by simp; omega
          have t3 : (j : Int) < (la : Int) := by omega
          have t4 : (0 : Int) ≤ (j : Int) := by omega
          obtain ⟨g, o, hg, hc, _⟩ := HA.out.at h1
          have hb := HS.out j h1 h2
          generalize xs[j]! = x at hc hb
          obtain ⟨c0, c1, c2, c3, c4, c5⟩ := hc
          subst hg
          have t5 : decide ((200 : Int) < (x.key.size : Int)) = false := by have := hb.1; simp; omega
          have t6 : decide ((200 : Int) < (x.val.size : Int)) = false := by have := hb.2; simp; omega
          clear hb
          go_wp2
          go_roundg (la - (j + 1))
          case measure => omega
          case rel => exact ⟨j + 1, by go_num, by omega, Nat.le_refl _, rfl⟩
        · have t2 : decide ((j : Int) < (most : Int)) = false := by simp; omega
          go_wp2
          go_ret
          exact ⟨by simp, rfl⟩
      · have t1 : decide ((j : Int) < (la : Int)) = false := by simp; omega
        go_wp2
        go_ret
        exact ⟨by simp, rfl⟩
  · have e : isShort xs la most = false := by unfold isShort; simp [hall]
    rw [e]
    obtain ⟨k, hk, hbad, hgood⟩ : ∃ k, k < la ∧ k < most ∧ ¬ xs[k]!.brief ∧ ∀ j, j < k → xs[j]!.brief := by
      have : ∃ j, j < min la most ∧ ¬ xs[j]!.brief := Classical.byContradiction fun c => hall fun j h1 h2 => Classical.byContradiction fun c' => c ⟨j, by omega, c'⟩
      obtain ⟨k, hk, h1, h2⟩ := least_bad (p := fun j => xs[j]!.brief) _ this
      exact ⟨k, by omega, by omega, h1, h2⟩
    have HK := Lib.hid hgood.1
    have HG := Lib.hid hgood.2
    clear e hall hgood
    go_enter Try.func13, Try.ntmps13
    go_wp2
    go_loopg [5] la (fun gg s5 wr => ∃ j : Nat, s5 = .int .i64 (j : Int) ∧ j ≤ k ∧ la - j ≤ gg ∧ wr = W)
    case atStart => exact ⟨0, rfl, Nat.zero_le _, by omega, rfl⟩
    case round =>
      obtain ⟨j, rfl, hj, hgg, rfl⟩ := hrel
      have h1 : j < la := by omega
      have t1 : decide ((j : Int) < (la : Int)) = true := by simp; omega
      have t2 : decide ((j : Int) < (most : Int)) = true := by simp; omega
      have t3 : (j : Int) < (la : Int) := by omega
      have t4 : (0 : Int) ≤ (j : Int) := by omega
      obtain ⟨g, o, hg, hc, _⟩ := HA.out.at h1
      by_cases hjk : j < k
      · have hb := HG.out j hjk
        generalize xs[j]! = x at hc hb
        obtain ⟨c0, c1, c2, c3, c4, c5⟩ := hc
        subst hg
        have t5 : decide ((200 : Int) < (x.key.size : Int)) = false := by have := hb.1; simp; omega
        have t6 : decide ((200 : Int) < (x.val.size : Int)) = false := by have := hb.2; simp; omega
        clear hb
        go_wp2
        go_roundg (la - (j + 1))
        case measure => omega
        case rel => exact ⟨j + 1, by go_num, by omega, by omega, rfl⟩
      · obtain rfl : j = k := by omega
        have hb := HK.out
        generalize xs[j]! = x at hc hb
        obtain ⟨c0, c1, c2, c3, c4, c5⟩ := hc
        subst hg
        by_cases h5 : 200 < x.key.size
        · have t5 : decide ((200 : Int) < (x.key.size : Int)) = true := by simp; omega
          clear hb
          go_wp2
          go_ret
          exact ⟨rfl, rfl⟩
        · have t5 : decide ((200 : Int) < (x.key.size : Int)) = false := by simp; omega
          have t6 : decide ((200 : Int) < (x.val.size : Int)) = true := by
            have : ¬ (x.key.size ≤ 200 ∧ x.val.size ≤ 200) := hb
            simp; omega
          clear hb
          go_wp2
          go_ret
          exact ⟨rfl, rfl⟩
end Go.Proofs.Ytkdbdocipijncaa

/- Rows of tables that are appended to. No function of the program is walked here. (By gen_tabs.py.) -/
set_option linter.unusedVariables false
set_option linter.unusedSimpArgs false
namespace Go.Proofs.Ytkdbdocipijncaa
open Go.RowKit Go.Shelf Go.Sort

/-- a table in a row -/
structure Slot where
  T : Tab
  ao : Option Addr
  n : Nat
  c : Nat
instance : Inhabited Slot := ⟨⟨Tab.none, none, 0, 0⟩⟩
def slotC (x : Slot) : List Value := [.int .i64 (x.T.seen 0 : Int), .int .i64 (x.T.seen 1 : Int), .int .i64 (x.T.seen 2 : Int), .int .i64 (x.T.seen 3 : Int), .int .i64 (x.T.seen 4 : Int), .int .i64 (x.T.seen 5 : Int), .int .i64 (x.T.seen 6 : Int), .int .i64 (x.T.seen 7 : Int), .slice x.ao x.n x.c]
def flatT (l : List Slot) : List Value := l.flatMap slotC
theorem slotC_len (x : Slot) : (slotC x).length = 9 := rfl
theorem flatT_len : ∀ l : List Slot, (flatT l).length = l.length * 9
  | [] => rfl
  | x :: l => by
    have := flatT_len l
    unfold flatT at *
    rw [List.flatMap_cons, List.length_append, this, slotC_len, List.length_cons]; omega
theorem flatT_get : ∀ (l : List Slot) (i c : Nat), c < 9 → (flatT l)[i * 9 + c]? = (l[i]?).bind fun x => (slotC x)[c]?
  | [], i, c, _ => by simp [flatT]
  | x :: l, 0, c, hc => by
    unfold flatT
    rw [List.flatMap_cons, Nat.zero_mul, Nat.zero_add, List.getElem?_append_left (by rw [slotC_len]; exact hc)]
    rfl
  | x :: l, i + 1, c, hc => by
    have := flatT_get l i c hc
    unfold flatT at *
    rw [List.flatMap_cons, List.getElem?_append_right (by rw [slotC_len]; omega), List.getElem?_cons_succ, ← this]
    congr 1
    rw [slotC_len]; omega
theorem flatT_app (l k : List Slot) : flatT (l ++ k) = flatT l ++ flatT k := by unfold flatT; simp
theorem slotC_one (x : Slot) : ∀ u ∈ slotC x, u.oneCell' = true := by
  intro u hu
  simp only [slotC, List.mem_cons, List.not_mem_nil, or_false] at hu
  rcases hu with rfl | rfl | rfl | rfl | rfl | rfl | rfl | rfl | rfl <;> rfl
/-- the nine cells of a table -/
def SlotAt (w : World) (g o : Nat) (x : Slot) : Prop := w.cell? ⟨g, o, none⟩ = some (.int .i64 (x.T.seen 0 : Int)) ∧ w.cell? ⟨g, o + 1, none⟩ = some (.int .i64 (x.T.seen 1 : Int)) ∧ w.cell? ⟨g, o + 2, none⟩ = some (.int .i64 (x.T.seen 2 : Int)) ∧ w.cell? ⟨g, o + 3, none⟩ = some (.int .i64 (x.T.seen 3 : Int)) ∧ w.cell? ⟨g, o + 4, none⟩ = some (.int .i64 (x.T.seen 4 : Int)) ∧ w.cell? ⟨g, o + 5, none⟩ = some (.int .i64 (x.T.seen 5 : Int)) ∧ w.cell? ⟨g, o + 6, none⟩ = some (.int .i64 (x.T.seen 6 : Int)) ∧ w.cell? ⟨g, o + 7, none⟩ = some (.int .i64 (x.T.seen 7 : Int)) ∧ w.cell? ⟨g, o + 8, none⟩ = some (.slice x.ao x.n x.c)
/-- what of a slice's block a reader sees: other blocks may differ -/
theorem RowE.far {w w' : World} {g T : Nat} {z : Int} {xs : List Ent} (h : RowE w g xs) (hT : w.cell? ⟨T, 0, none⟩ = some (.int .i64 z)) (hk : ∀ b o, b < w.heap.size → b ≠ T → w'.cell? ⟨b, o, none⟩ = w.cell? ⟨b, o, none⟩) (hs : w.heap.size ≤ w'.heap.size) : RowE w' g xs := by
  refine ⟨Nat.lt_of_lt_of_le h.1 hs, fun i hi => ?_⟩
  have hg : g ≠ T := by
    intro e
    subst e
    have := (h.2 0 (by omega)).1
    rw [Nat.zero_mul, hT] at this
    cases this
  obtain ⟨a, b, c, d⟩ := h.2 i hi
  exact ⟨(hk g _ h.1 hg).trans a, (hk g _ h.1 hg).trans b, (hk g _ h.1 hg).trans c, (hk g _ h.1 hg).trans d⟩
theorem El.far {w w' : World} {ao : Option Addr} {n T : Nat} {z : Int} {xs : List Ent} (h : El w ao n xs) (hT : w.cell? ⟨T, 0, none⟩ = some (.int .i64 z)) (hk : ∀ b o, b < w.heap.size → b ≠ T → w'.cell? ⟨b, o, none⟩ = w.cell? ⟨b, o, none⟩) (hs : w.heap.size ≤ w'.heap.size) : El w' ao n xs := by
  obtain ⟨h1, h2⟩ := h
  refine ⟨h1, ?_⟩
  rcases h2 with h2 | ⟨g, h2, h3⟩
  · exact .inl h2
  · exact .inr ⟨g, h2, h3.far hT hk hs⟩

/-- an own row of n ≥ 1 tables, each made with at most m writes -/
structure Tabs (w : World) (base m g n cap : Nat) (l : List Slot) : Prop where
  len : l.length = n
  pos : 1 ≤ n
  own : w.ownsRow base 34 9 (.slice (some ⟨g, 0, none⟩) n cap) n (flatT l)
  held : ∀ x ∈ l, Held w m x.T x.ao x.n
theorem Tabs.more {w : World} {base m q g n cap : Nat} {l : List Slot} (h : Tabs w base m g n cap l) (hq : m ≤ q) : Tabs w base q g n cap l := ⟨h.len, h.pos, h.own, fun x hx => (h.held x hx).more hq⟩
theorem Tabs.keep {w w' : World} {base m g n cap : Nat} {l : List Slot} (h : Tabs w base m g n cap l) (hb : Below w.heap.size w w') : Tabs w' base m g n cap l := by
  refine ⟨h.len, h.pos, ⟨h.own.1, ?_⟩, fun x hx => (h.held x hx).keep hb⟩
  rcases h.own.2 with h2 | ⟨g', cap', cur, h3, h4, h5, h6⟩
  · exact .inl h2
  · exact .inr ⟨g', cap', cur, h3, h4, (hb.block g' (Array.getElem?_eq_some_iff.1 h5).1).trans h5, h6⟩
theorem Tabs.cell {w : World} {base m g n cap : Nat} {l : List Slot} (h : Tabs w base m g n cap l) (o : Nat) (v : Value) (hv : (flatT l)[o]? = some v) : w.cell? ⟨g, o, none⟩ = some v := by
  rcases h.own.2 with ⟨h2, _⟩ | ⟨g', cap', cur, h2, hb, hg, hnc, hcm, hcs, ht⟩
  · cases h2
  · cases h2
    rw [← ht, List.getElem?_take] at hv
    split at hv
    · simp only [World.cell?, hg]
      simpa using hv
    · cases hv
theorem Tabs.at {w : World} {base m g n cap : Nat} {l : List Slot} (h : Tabs w base m g n cap l) {i : Nat} (hi : i < n) : SlotAt w g (i * 9) l[i]! ∧ Held w m l[i]!.T l[i]!.ao l[i]!.n ∧ l[i]! ∈ l := by
  have hil : i < l.length := by rw [h.len]; exact hi
  have hm : l[i]! ∈ l := by rw [getElem!_pos l i hil]; exact List.getElem_mem hil
  refine ⟨?_, h.held _ hm, hm⟩
  have hc : ∀ c v, c < 9 → (slotC l[i]!)[c]? = some v → w.cell? ⟨g, i * 9 + c, none⟩ = some v := fun c v hc hv => h.cell _ _ (by rw [flatT_get _ _ _ hc, List.getElem?_eq_getElem hil, ← getElem!_pos l i hil]; exact hv)
  exact ⟨hc 0 _ (by omega) rfl, hc 1 _ (by omega) rfl, hc 2 _ (by omega) rfl, hc 3 _ (by omega) rfl, hc 4 _ (by omega) rfl, hc 5 _ (by omega) rfl, hc 6 _ (by omega) rfl, hc 7 _ (by omega) rfl, hc 8 _ (by omega) rfl⟩
theorem infoT : (Try.prog.info? 34).map (fun i => (i.zero, i.size, i.bytes)) = some (some (.agg #[.int .i64 0, .int .i64 0, .int .i64 0, .int .i64 0, .int .i64 0, .int .i64 0, .int .i64 0, .int .i64 0, .slice none 0 0]), 9, 88) := by kernel_rfl

/-- a table is appended -/
theorem wpList_appT {w1 : World} {ops : Array Oper} {rest : List Oper} {o : Oper} {a : Act} {Q : Exit → Act → World → Prop} (hgd : o.guard = none) (s x : Operand)
    (ho : o.op = .call { callee := .builtin .append, args := #[s, x], argTypes := #[25, 25] }) (w : World) (t : TypeId) (base m g n cap : Nat) (l : List Slot) (z : Slot) (H : Nat) (hH : w.heap.size = H) (hw : w1 = w.alloc (.cells (slotC z).toArray t)) (hs : a.eval s = .slice (some ⟨g, 0, none⟩) n cap) (hown : Tabs w base m g n cap l) (hz : Held w m z.T z.ao z.n)
    (hx : a.eval x = .slice (some ⟨H, 0, none⟩) 1 1) (hn : n ≤ 1000000) (hbase : base ≤ w.heap.size)
    (h : ∀ g' cap' w', Tabs w' base m g' (n + 1) cap' (l ++ [z]) → Below base w w' → wpList Try.prog ops Q rest (a.put o.dst (.slice (some ⟨g', 0, none⟩) (n + 1) cap')) w') :
    wpList Try.prog ops Q (o :: rest) a w1 := by
  subst hw hH
  obtain ⟨i0, hi, hz0, hz1, hz2⟩ := info_parts infoT
  have hb0 := box_below w (.cells (slotC z).toArray t)
  have hT := (hown.keep hb0)
  have hZ := hz.keep hb0
  have c0 : ∃ y, (w.alloc (.cells (slotC z).toArray t)).cell? ⟨g, 0, none⟩ = some (.int .i64 y) := by
    have := (hT.at (i := 0) (by have := hown.pos; omega)).1.1
    exact ⟨_, by simpa using this⟩
  obtain ⟨y, c0⟩ := c0
  refine wpList_append_lies _ hgd s x 25 ho base 34 i0 _ 9 88 Try.underlying25 hi hz0 hz1 hz2 rfl (by decide) _ n (flatT l) hs hT.own ⟨w.heap.size, 0, none⟩ 1 1 (slotC z) hx (by rw [slotC_len]) ?_ (slotC_one z) (by omega) (by unfold maxLen; omega) (by omega) (by simp; omega) _ rfl ?_
  · intro j u hj
    rw [add_off, Nat.zero_add]
    simp only [World.cell?]
    rw [heap_alloc_new]
    simpa using hj
  · intro g' cap' w' hr hg _ _
    have hk : ∀ b o, b < (w.alloc (.cells (slotC z).toArray t)).heap.size → b ≠ g → w'.cell? ⟨b, o, none⟩ = (w.alloc (.cells (slotC z).toArray t)).cell? ⟨b, o, none⟩ := fun b o hb hne => World.cell?_of_block (a := ⟨b, o, none⟩) (hg.block b hb (fun e => hne (by simpa [Value.ownBlock] using e)))
    refine h g' cap' w' ⟨by rw [List.length_append, hown.len]; rfl, by omega, by rw [flatT_app]; simpa [flatT] using hr, fun u hu => ?_⟩ (((Below.refl base w).alloc hbase _).grown hg (by simp; omega) (fun j hj => (World.ownsRow.lt hT.own j hj).1))
    rcases List.mem_append.1 hu with hu | hu
    · exact ⟨(hT.held u hu).el.far c0 hk hg.size, (hT.held u hu).ok⟩
    · rw [List.mem_singleton] at hu
      subst hu
      exact ⟨hZ.el.far c0 hk hg.size, hZ.ok⟩

/-- .. at a step of a region that draws its order -/
theorem step_appT {w : World} {ops : Array Oper} {o : Oper} {a : Act} {K : Act → World → Prop} {Q : Exit → Act → World → Prop} {E : Prop} (hgd : o.guard = none) (s x : Operand)
    (ho : o.op = .call { callee := .builtin .append, args := #[s, x], argTypes := #[25, 25] }) (base m g n cap : Nat) (l : List Slot) (z : Slot) (H : Nat) (t : TypeId) (hH : w.heap[H]? = some (.cells (slotC z).toArray t (0, 0))) (hs : a.eval s = .slice (some ⟨g, 0, none⟩) n cap) (hown : Tabs w base m g n cap l) (hz : Held w m z.T z.ao z.n)
    (hx : a.eval x = .slice (some ⟨H, 0, none⟩) 1 1) (hn : n ≤ 1000000) (hbase : base ≤ w.heap.size)
    (h : ∀ g' cap' w', Tabs w' base m g' (n + 1) cap' (l ++ [z]) → Below base w w' → K (a.put o.dst (.slice (some ⟨g', 0, none⟩) (n + 1) cap')) w') :
    if Region.wanted o (yielded ops a.tmps) = true then Oper.wp Try.prog o a w K Q else E := by
  obtain ⟨i0, hi, hz0, hz1, hz2⟩ := info_parts infoT
  have c0 : ∃ y, w.cell? ⟨g, 0, none⟩ = some (.int .i64 y) := by
    have := (hown.at (i := 0) (by have := hown.pos; omega)).1.1
    exact ⟨_, by simpa using this⟩
  obtain ⟨y, c0⟩ := c0
  refine step_append_lies _ hgd s x 25 ho base 34 i0 _ 9 88 Try.underlying25 hi hz0 hz1 hz2 rfl (by decide) _ n (flatT l) hs hown.own ⟨H, 0, none⟩ 1 1 (slotC z) hx (by rw [slotC_len]) ?_ (slotC_one z) (by omega) (by unfold maxLen; omega) (by omega) hbase _ rfl ?_
  · intro j u hj
    rw [add_off, Nat.zero_add]
    simp only [World.cell?]
    rw [hH]
    simpa using hj
  · intro g' cap' w' hr hg _ _
    have hk : ∀ b o, b < w.heap.size → b ≠ g → w'.cell? ⟨b, o, none⟩ = w.cell? ⟨b, o, none⟩ := fun b o hb hne => World.cell?_of_block (a := ⟨b, o, none⟩) (hg.block b hb (fun e => hne (by simpa [Value.ownBlock] using e)))
    refine h g' cap' w' ⟨by rw [List.length_append, hown.len]; rfl, by omega, by rw [flatT_app]; simpa [flatT] using hr, fun u hu => ?_⟩ ((Below.refl base w).grown hg hbase (fun j hj => (World.ownsRow.lt hown.own j hj).1))
    rcases List.mem_append.1 hu with hu | hu
    · exact ⟨(hown.held u hu).el.far c0 hk hg.size, (hown.held u hu).ok⟩
    · rw [List.mem_singleton] at hu
      subst hu
      exact ⟨hz.el.far c0 hk hg.size, hz.ok⟩
end Go.Proofs.Ytkdbdocipijncaa

/- The law's tables. (By gen_tables.py.) -/
set_option linter.unusedVariables false
set_option linter.unusedSimpArgs false
namespace Go.Proofs.Ytkdbdocipijncaa
open Go.RowKit Go.Shelf Go.Sort

/-- block B holds the table of a slot -/
def BoxAt (w : World) (B : Nat) (x : Slot) : Prop := w.heap[B]? = some (.cells #[.int .i64 (x.T.seen 0 : Int), .int .i64 (x.T.seen 1 : Int), .int .i64 (x.T.seen 2 : Int), .int .i64 (x.T.seen 3 : Int), .int .i64 (x.T.seen 4 : Int), .int .i64 (x.T.seen 5 : Int), .int .i64 (x.T.seen 6 : Int), .int .i64 (x.T.seen 7 : Int), .slice x.ao x.n x.c] 34 (0, 0))
theorem BoxAt.keep {w w' : World} {B : Nat} {x : Slot} (h : BoxAt w B x) (hb : Below w.heap.size w w') : BoxAt w' B x := row_keep hb h
theorem tabs_one (w : World) (g : Nat) (hg : w.heap[g]? = some (.cells #[.int .i64 0, .int .i64 0, .int .i64 0, .int .i64 0, .int .i64 0, .int .i64 0, .int .i64 0, .int .i64 0, .slice none 0 0] 34 (0, 0))) (base : Nat) (hb : base ≤ g) : Tabs w base 0 g 1 1 [⟨Tab.none, none, 0, 0⟩] :=
  ⟨rfl, Nat.le_refl _, ⟨rfl, .inr ⟨g, 1, _, rfl, hb, hg, Nat.le_refl _, by unfold maxLen; omega, rfl, rfl⟩⟩, fun x hx => by
    rw [List.mem_singleton] at hx
    subst hx
    exact Held.none w⟩

/-- Put, whatever it is given -/
theorem putCase {W : World} {m : Nat} {T : Tab} {ao : Option Addr} {n : Nat} (c : Nat) (h : Held W m T ao n) (hm : m ≤ 40000) (site : Int) (k v : ByteArray) :
    ∃ er : Int, ∀ w, Below W.heap.size W w → Calls Try.prog 29 #[.agg #[.int .i64 (T.seen 0 : Int), .int .i64 (T.seen 1 : Int), .int .i64 (T.seen 2 : Int), .int .i64 (T.seen 3 : Int), .int .i64 (T.seen 4 : Int), .int .i64 (T.seen 5 : Int), .int .i64 (T.seen 6 : Int), .int .i64 (T.seen 7 : Int), .slice ao n c], .int .i64 site, .string k, .string v] w fun e w' => ∃ T4 a4 n4 c4, e = .returned (.tuple #[.agg #[.int .i64 (T4.seen 0 : Int), .int .i64 (T4.seen 1 : Int), .int .i64 (T4.seen 2 : Int), .int .i64 (T4.seen 3 : Int), .int .i64 (T4.seen 4 : Int), .int .i64 (T4.seen 5 : Int), .int .i64 (T4.seen 6 : Int), .int .i64 (T4.seen 7 : Int), .slice a4 n4 c4], .int .i64 er]) ∧ Held w' (m + 1) T4 a4 n4 ∧ Below w.heap.size w w' := by
  have err : ∀ er : Int, (∀ w, Below W.heap.size W w → Calls Try.prog 29 #[.agg #[.int .i64 (T.seen 0 : Int), .int .i64 (T.seen 1 : Int), .int .i64 (T.seen 2 : Int), .int .i64 (T.seen 3 : Int), .int .i64 (T.seen 4 : Int), .int .i64 (T.seen 5 : Int), .int .i64 (T.seen 6 : Int), .int .i64 (T.seen 7 : Int), .slice ao n c], .int .i64 site, .string k, .string v] w fun e w' => e = .returned (.tuple #[zeroT, .int .i64 er]) ∧ Below w.heap.size w w') → ∀ w, Below W.heap.size W w → Calls Try.prog 29 #[.agg #[.int .i64 (T.seen 0 : Int), .int .i64 (T.seen 1 : Int), .int .i64 (T.seen 2 : Int), .int .i64 (T.seen 3 : Int), .int .i64 (T.seen 4 : Int), .int .i64 (T.seen 5 : Int), .int .i64 (T.seen 6 : Int), .int .i64 (T.seen 7 : Int), .slice ao n c], .int .i64 site, .string k, .string v] w fun e w' => ∃ T4 a4 n4 c4, e = .returned (.tuple #[.agg #[.int .i64 (T4.seen 0 : Int), .int .i64 (T4.seen 1 : Int), .int .i64 (T4.seen 2 : Int), .int .i64 (T4.seen 3 : Int), .int .i64 (T4.seen 4 : Int), .int .i64 (T4.seen 5 : Int), .int .i64 (T4.seen 6 : Int), .int .i64 (T4.seen 7 : Int), .slice a4 n4 c4], .int .i64 er]) ∧ Held w' (m + 1) T4 a4 n4 ∧ Below w.heap.size w w' := fun er hw w hb =>
    (hw w hb).mono fun e w' ⟨he, hb'⟩ => ⟨Tab.none, none, 0, 0, he, (Held.none w').more (Nat.zero_le _), hb'⟩
  by_cases hs : site < 0 ∨ 8 ≤ site
  · exact ⟨80, err 80 fun w _ => put_site T.seen ao n c site k v w hs⟩
  · by_cases hk : (1 ≤ k.size ∧ k.size ≤ 64) ∧ v.size ≤ 64
    · obtain ⟨i, rfl⟩ := Int.eq_ofNat_of_zero_le (show 0 ≤ site by omega)
      have hi : i < 8 := by omega
      cases hr : room T.L k
      · exact ⟨5, err 5 fun w hb => putA_full c (h.keep hb) hm i hi k v hk.1 hk.2 hr⟩
      · exact ⟨0, fun w hb => (putA c (h.keep hb) hm i hi k v hk.1 hk.2 hr).mono fun e w' ⟨T4, a4, n4, c4, he, _, hh, hb'⟩ => ⟨T4, a4, n4, c4, he, hh, hb'⟩⟩
    · exact ⟨2, err 2 fun w _ => put_arg T.seen ao n c site k v w (by omega) hk⟩
theorem box_new {W w : World} {m : Nat} {T : Tab} {ao : Option Addr} {n c : Nat} {ty : TypeId} (hb : Below W.heap.size W w) (h : Held w m T ao n) : (w.alloc (.cells #[.int .i64 ((Slot.mk T ao n c).T.seen 0 : Int), .int .i64 ((Slot.mk T ao n c).T.seen 1 : Int), .int .i64 ((Slot.mk T ao n c).T.seen 2 : Int), .int .i64 ((Slot.mk T ao n c).T.seen 3 : Int), .int .i64 ((Slot.mk T ao n c).T.seen 4 : Int), .int .i64 ((Slot.mk T ao n c).T.seen 5 : Int), .int .i64 ((Slot.mk T ao n c).T.seen 6 : Int), .int .i64 ((Slot.mk T ao n c).T.seen 7 : Int), .slice (Slot.mk T ao n c).ao (Slot.mk T ao n c).n (Slot.mk T ao n c).c] ty)).heap[w.heap.size]? = some (.cells #[.int .i64 ((Slot.mk T ao n c).T.seen 0 : Int), .int .i64 ((Slot.mk T ao n c).T.seen 1 : Int), .int .i64 ((Slot.mk T ao n c).T.seen 2 : Int), .int .i64 ((Slot.mk T ao n c).T.seen 3 : Int), .int .i64 ((Slot.mk T ao n c).T.seen 4 : Int), .int .i64 ((Slot.mk T ao n c).T.seen 5 : Int), .int .i64 ((Slot.mk T ao n c).T.seen 6 : Int), .int .i64 ((Slot.mk T ao n c).T.seen 7 : Int), .slice (Slot.mk T ao n c).ao (Slot.mk T ao n c).n (Slot.mk T ao n c).c] ty (0, 0)) ∧ Held (w.alloc (.cells #[.int .i64 ((Slot.mk T ao n c).T.seen 0 : Int), .int .i64 ((Slot.mk T ao n c).T.seen 1 : Int), .int .i64 ((Slot.mk T ao n c).T.seen 2 : Int), .int .i64 ((Slot.mk T ao n c).T.seen 3 : Int), .int .i64 ((Slot.mk T ao n c).T.seen 4 : Int), .int .i64 ((Slot.mk T ao n c).T.seen 5 : Int), .int .i64 ((Slot.mk T ao n c).T.seen 6 : Int), .int .i64 ((Slot.mk T ao n c).T.seen 7 : Int), .slice (Slot.mk T ao n c).ao (Slot.mk T ao n c).n (Slot.mk T ao n c).c] ty)) m T ao n ∧ Below W.heap.size W (w.alloc (.cells #[.int .i64 ((Slot.mk T ao n c).T.seen 0 : Int), .int .i64 ((Slot.mk T ao n c).T.seen 1 : Int), .int .i64 ((Slot.mk T ao n c).T.seen 2 : Int), .int .i64 ((Slot.mk T ao n c).T.seen 3 : Int), .int .i64 ((Slot.mk T ao n c).T.seen 4 : Int), .int .i64 ((Slot.mk T ao n c).T.seen 5 : Int), .int .i64 ((Slot.mk T ao n c).T.seen 6 : Int), .int .i64 ((Slot.mk T ao n c).T.seen 7 : Int), .slice (Slot.mk T ao n c).ao (Slot.mk T ao n c).n (Slot.mk T ao n c).c] ty)) :=
  ⟨heap_alloc_new _ _, h.keep (box_below _ _), below_then hb (box_below _ _)⟩
theorem held_set9 {w : World} {m D : Nat} {T : Tab} {ao : Option Addr} {n : Nat} {ty : TypeId} {x0 x1 x2 x3 x4 x5 x6 x7 x8 : Value} (h : Held w m T ao n) (hD : w.heap[D]? = some (.cells #[.int .i64 0, .int .i64 0, .int .i64 0, .int .i64 0, .int .i64 0, .int .i64 0, .int .i64 0, .int .i64 0, .slice none 0 0] ty (0, 0))) : Held (((((((((w.setCell ⟨D, 0, none⟩ x0).setCell ⟨D, 1, none⟩ x1).setCell ⟨D, 2, none⟩ x2).setCell ⟨D, 3, none⟩ x3).setCell ⟨D, 4, none⟩ x4).setCell ⟨D, 5, none⟩ x5).setCell ⟨D, 6, none⟩ x6).setCell ⟨D, 7, none⟩ x7).setCell ⟨D, 8, none⟩ x8) m T ao n :=
  ⟨El.only h.el (cell_nine hD).1 (fun b o hb => cell_set9 _ _ _ _ _ _ _ _ _ _ _ _ _ hb) (by simp), h.ok⟩
theorem boxNew {W w : World} {m : Nat} (T : Tab) (ao : Option Addr) (n c : Nat) (hb : Below W.heap.size W w) (h : Held w m T ao n) : BoxAt (w.alloc (.cells #[.int .i64 (T.seen 0 : Int), .int .i64 (T.seen 1 : Int), .int .i64 (T.seen 2 : Int), .int .i64 (T.seen 3 : Int), .int .i64 (T.seen 4 : Int), .int .i64 (T.seen 5 : Int), .int .i64 (T.seen 6 : Int), .int .i64 (T.seen 7 : Int), .slice ao n c] 34)) w.heap.size ⟨T, ao, n, c⟩ ∧ Held (w.alloc (.cells #[.int .i64 (T.seen 0 : Int), .int .i64 (T.seen 1 : Int), .int .i64 (T.seen 2 : Int), .int .i64 (T.seen 3 : Int), .int .i64 (T.seen 4 : Int), .int .i64 (T.seen 5 : Int), .int .i64 (T.seen 6 : Int), .int .i64 (T.seen 7 : Int), .slice ao n c] 34)) m T ao n ∧ Below W.heap.size W (w.alloc (.cells #[.int .i64 (T.seen 0 : Int), .int .i64 (T.seen 1 : Int), .int .i64 (T.seen 2 : Int), .int .i64 (T.seen 3 : Int), .int .i64 (T.seen 4 : Int), .int .i64 (T.seen 5 : Int), .int .i64 (T.seen 6 : Int), .int .i64 (T.seen 7 : Int), .slice ao n c] 34)) :=
  ⟨heap_alloc_new _ _, h.keep (box_below _ _), below_then hb (box_below _ _)⟩
theorem boxSet {W w : World} {m : Nat} (T : Tab) (ao : Option Addr) (n c D : Nat) (hb : Below W.heap.size W w) (h : Held w m T ao n) (hr : w.heap[D]? = some (.cells #[.int .i64 0, .int .i64 0, .int .i64 0, .int .i64 0, .int .i64 0, .int .i64 0, .int .i64 0, .int .i64 0, .slice none 0 0] 34 (0, 0))) (hD : W.heap.size ≤ D) : BoxAt (((((((((w.setCell ⟨D, 0, none⟩ (.int .i64 (T.seen 0 : Int))).setCell ⟨D, 1, none⟩ (.int .i64 (T.seen 1 : Int))).setCell ⟨D, 2, none⟩ (.int .i64 (T.seen 2 : Int))).setCell ⟨D, 3, none⟩ (.int .i64 (T.seen 3 : Int))).setCell ⟨D, 4, none⟩ (.int .i64 (T.seen 4 : Int))).setCell ⟨D, 5, none⟩ (.int .i64 (T.seen 5 : Int))).setCell ⟨D, 6, none⟩ (.int .i64 (T.seen 6 : Int))).setCell ⟨D, 7, none⟩ (.int .i64 (T.seen 7 : Int))).setCell ⟨D, 8, none⟩ (.slice ao n c)) D ⟨T, ao, n, c⟩ ∧ Held (((((((((w.setCell ⟨D, 0, none⟩ (.int .i64 (T.seen 0 : Int))).setCell ⟨D, 1, none⟩ (.int .i64 (T.seen 1 : Int))).setCell ⟨D, 2, none⟩ (.int .i64 (T.seen 2 : Int))).setCell ⟨D, 3, none⟩ (.int .i64 (T.seen 3 : Int))).setCell ⟨D, 4, none⟩ (.int .i64 (T.seen 4 : Int))).setCell ⟨D, 5, none⟩ (.int .i64 (T.seen 5 : Int))).setCell ⟨D, 6, none⟩ (.int .i64 (T.seen 6 : Int))).setCell ⟨D, 7, none⟩ (.int .i64 (T.seen 7 : Int))).setCell ⟨D, 8, none⟩ (.slice ao n c)) m T ao n ∧ Below W.heap.size W (((((((((w.setCell ⟨D, 0, none⟩ (.int .i64 (T.seen 0 : Int))).setCell ⟨D, 1, none⟩ (.int .i64 (T.seen 1 : Int))).setCell ⟨D, 2, none⟩ (.int .i64 (T.seen 2 : Int))).setCell ⟨D, 3, none⟩ (.int .i64 (T.seen 3 : Int))).setCell ⟨D, 4, none⟩ (.int .i64 (T.seen 4 : Int))).setCell ⟨D, 5, none⟩ (.int .i64 (T.seen 5 : Int))).setCell ⟨D, 6, none⟩ (.int .i64 (T.seen 6 : Int))).setCell ⟨D, 7, none⟩ (.int .i64 (T.seen 7 : Int))).setCell ⟨D, 8, none⟩ (.slice ao n c)) :=
  ⟨set_nine hr, held_set9 h hr, below_set9 _ _ _ _ _ _ _ _ _ hb hD⟩
theorem keep_far9 {w : World} {T b o : Nat} {v x0 x1 x2 x3 x4 x5 x6 x7 x8 : Value} (h : w.cell? ⟨b, o, none⟩ = some v) (hb : b ≠ T) : (((((((((w.setCell ⟨T, 0, none⟩ x0).setCell ⟨T, 1, none⟩ x1).setCell ⟨T, 2, none⟩ x2).setCell ⟨T, 3, none⟩ x3).setCell ⟨T, 4, none⟩ x4).setCell ⟨T, 5, none⟩ x5).setCell ⟨T, 6, none⟩ x6).setCell ⟨T, 7, none⟩ x7).setCell ⟨T, 8, none⟩ x8).cell? ⟨b, o, none⟩ = some v := (cell_set9 w T b o x0 x1 x2 x3 x4 x5 x6 x7 x8 hb).trans h
theorem two_boxes (w : World) (x y : Slot) : BoxAt ((w.alloc (.cells #[.int .i64 (x.T.seen 0 : Int), .int .i64 (x.T.seen 1 : Int), .int .i64 (x.T.seen 2 : Int), .int .i64 (x.T.seen 3 : Int), .int .i64 (x.T.seen 4 : Int), .int .i64 (x.T.seen 5 : Int), .int .i64 (x.T.seen 6 : Int), .int .i64 (x.T.seen 7 : Int), .slice x.ao x.n x.c] 34)).alloc (.cells #[.int .i64 (y.T.seen 0 : Int), .int .i64 (y.T.seen 1 : Int), .int .i64 (y.T.seen 2 : Int), .int .i64 (y.T.seen 3 : Int), .int .i64 (y.T.seen 4 : Int), .int .i64 (y.T.seen 5 : Int), .int .i64 (y.T.seen 6 : Int), .int .i64 (y.T.seen 7 : Int), .slice y.ao y.n y.c] 34)).drew w.heap.size x ∧ BoxAt ((w.alloc (.cells #[.int .i64 (x.T.seen 0 : Int), .int .i64 (x.T.seen 1 : Int), .int .i64 (x.T.seen 2 : Int), .int .i64 (x.T.seen 3 : Int), .int .i64 (x.T.seen 4 : Int), .int .i64 (x.T.seen 5 : Int), .int .i64 (x.T.seen 6 : Int), .int .i64 (x.T.seen 7 : Int), .slice x.ao x.n x.c] 34)).alloc (.cells #[.int .i64 (y.T.seen 0 : Int), .int .i64 (y.T.seen 1 : Int), .int .i64 (y.T.seen 2 : Int), .int .i64 (y.T.seen 3 : Int), .int .i64 (y.T.seen 4 : Int), .int .i64 (y.T.seen 5 : Int), .int .i64 (y.T.seen 6 : Int), .int .i64 (y.T.seen 7 : Int), .slice y.ao y.n y.c] 34)).drew (w.heap.size + 1) y ∧ Below w.heap.size w ((w.alloc (.cells #[.int .i64 (x.T.seen 0 : Int), .int .i64 (x.T.seen 1 : Int), .int .i64 (x.T.seen 2 : Int), .int .i64 (x.T.seen 3 : Int), .int .i64 (x.T.seen 4 : Int), .int .i64 (x.T.seen 5 : Int), .int .i64 (x.T.seen 6 : Int), .int .i64 (x.T.seen 7 : Int), .slice x.ao x.n x.c] 34)).alloc (.cells #[.int .i64 (y.T.seen 0 : Int), .int .i64 (y.T.seen 1 : Int), .int .i64 (y.T.seen 2 : Int), .int .i64 (y.T.seen 3 : Int), .int .i64 (y.T.seen 4 : Int), .int .i64 (y.T.seen 5 : Int), .int .i64 (y.T.seen 6 : Int), .int .i64 (y.T.seen 7 : Int), .slice y.ao y.n y.c] 34)).drew :=
  ⟨block1 w _ _, block2 w _ _, (below2 w _ _).drew⟩
theorem two_boxes' (w : World) (x y : Slot) : BoxAt ((w.alloc (.cells #[.int .i64 (y.T.seen 0 : Int), .int .i64 (y.T.seen 1 : Int), .int .i64 (y.T.seen 2 : Int), .int .i64 (y.T.seen 3 : Int), .int .i64 (y.T.seen 4 : Int), .int .i64 (y.T.seen 5 : Int), .int .i64 (y.T.seen 6 : Int), .int .i64 (y.T.seen 7 : Int), .slice y.ao y.n y.c] 34)).alloc (.cells #[.int .i64 (x.T.seen 0 : Int), .int .i64 (x.T.seen 1 : Int), .int .i64 (x.T.seen 2 : Int), .int .i64 (x.T.seen 3 : Int), .int .i64 (x.T.seen 4 : Int), .int .i64 (x.T.seen 5 : Int), .int .i64 (x.T.seen 6 : Int), .int .i64 (x.T.seen 7 : Int), .slice x.ao x.n x.c] 34)).drew (w.heap.size + 1) x ∧ BoxAt ((w.alloc (.cells #[.int .i64 (y.T.seen 0 : Int), .int .i64 (y.T.seen 1 : Int), .int .i64 (y.T.seen 2 : Int), .int .i64 (y.T.seen 3 : Int), .int .i64 (y.T.seen 4 : Int), .int .i64 (y.T.seen 5 : Int), .int .i64 (y.T.seen 6 : Int), .int .i64 (y.T.seen 7 : Int), .slice y.ao y.n y.c] 34)).alloc (.cells #[.int .i64 (x.T.seen 0 : Int), .int .i64 (x.T.seen 1 : Int), .int .i64 (x.T.seen 2 : Int), .int .i64 (x.T.seen 3 : Int), .int .i64 (x.T.seen 4 : Int), .int .i64 (x.T.seen 5 : Int), .int .i64 (x.T.seen 6 : Int), .int .i64 (x.T.seen 7 : Int), .slice x.ao x.n x.c] 34)).drew w.heap.size y ∧ Below w.heap.size w ((w.alloc (.cells #[.int .i64 (y.T.seen 0 : Int), .int .i64 (y.T.seen 1 : Int), .int .i64 (y.T.seen 2 : Int), .int .i64 (y.T.seen 3 : Int), .int .i64 (y.T.seen 4 : Int), .int .i64 (y.T.seen 5 : Int), .int .i64 (y.T.seen 6 : Int), .int .i64 (y.T.seen 7 : Int), .slice y.ao y.n y.c] 34)).alloc (.cells #[.int .i64 (x.T.seen 0 : Int), .int .i64 (x.T.seen 1 : Int), .int .i64 (x.T.seen 2 : Int), .int .i64 (x.T.seen 3 : Int), .int .i64 (x.T.seen 4 : Int), .int .i64 (x.T.seen 5 : Int), .int .i64 (x.T.seen 6 : Int), .int .i64 (x.T.seen 7 : Int), .slice x.ao x.n x.c] 34)).drew :=
  ⟨block2 w _ _, block1 w _ _, (below2 w _ _).drew⟩

set_option maxRecDepth 100000 in
set_option maxHeartbeats 16000000 in
theorem tables_any (ao : Option Addr) (la ca : Nat) (xs : List ActD) (W : World) (h : Acts W ao la xs) (hla : la ≤ 1000) :
    Calls Try.prog 42 #[.slice ao la ca] W fun e w' => ∃ g n cap l, e = .returned (.slice (some ⟨g, 0, none⟩) n cap) ∧ Tabs w' W.heap.size la g n cap l ∧ n ≤ la + 1 ∧ Below W.heap.size W w' := by
  have HA := Lib.hid h
  have pl : (la : Int) ≤ 1000 := by omega
  have hmk : ∀ w : World, (Instr.makeSlice 25 (.int .i64 1) (.int .i64 1)).run Try.prog w = .ok (.slice (some ⟨w.heap.size, 0, none⟩) 1 1) (w.alloc (.cells #[.int .i64 0, .int .i64 0, .int .i64 0, .int .i64 0, .int .i64 0, .int .i64 0, .int .i64 0, .int .i64 0, .slice none 0 0] 34)) := fun _ => by kernel_rfl
  clear h
  go_enter Try.func42, Try.ntmps42
  go_upto_region 2 with fail
  obtain ⟨V, hV⟩ : ∃ V, V = W.alloc (.cells #[.int .i64 0, .int .i64 0, .int .i64 0, .int .i64 0, .int .i64 0, .int .i64 0, .int .i64 0, .int .i64 0, .slice none 0 0] 34) := ⟨_, rfl⟩
  have HBV : Hid (Below W.heap.size W V) := Lib.hid (by rw [hV]; exact box_below W _)
  have T0 : Hid (Tabs V W.heap.size 0 W.heap.size 1 1 [⟨Tab.none, none, 0, 0⟩]) := Lib.hid (tabs_one V W.heap.size (by rw [hV]; exact heap_alloc_new _ _) W.heap.size (Nat.le_refl _))
  rw [← hV]
  clear hV hmk
  go_wp2
  go_loopg [3, 4, 5, 6, 7, 8] la (fun gg s3 s4 _ _ _ _ wr => ∃ (i g n cap : Nat) (l : List Slot), s4 = .int .i64 (i : Int) ∧ i ≤ la ∧ la - i ≤ gg ∧ s3 = .slice (some ⟨g, 0, none⟩) n cap ∧ n ≤ i + 1 ∧ Hid (Tabs wr W.heap.size i g n cap l) ∧ Hid (Below W.heap.size W wr))
  case atStart => exact ⟨0, W.heap.size, 1, 1, _, rfl, Nat.zero_le _, by omega, rfl, Nat.le_refl _, T0, HBV⟩
  case round =>
    obtain ⟨i, g, n, cap, l, rfl, hi, hgg, rfl, hn, HT, HB⟩ := hrel
    by_cases hlt : i < la
    · have t1 : (i : Int) < (la : Int) := by omega
      have t0 : (0 : Int) ≤ (i : Int) := by omega
      obtain ⟨ga, oa, hga, hact, hfine⟩ := (HA.out.keep HB.out).at hlt
      obtain ⟨x, hx⟩ : ∃ x, x = xs[i]! := ⟨_, rfl⟩
      rw [← hx] at hact hfine
      clear hx
      subst hga
      have hpos := HT.out.pos
      have HX := Lib.hid hact
      have HF := Lib.hid hfine
      obtain ⟨pa, hpa⟩ : ∃ pa, pa = x.a % n := ⟨_, rfl⟩
      obtain ⟨pb, hpb⟩ : ∃ pb, pb = x.b % n := ⟨_, rfl⟩
      have hpan : pa < n := by rw [hpa]; exact Nat.mod_lt _ (by omega)
      have hpbn : pb < n := by rw [hpb]; exact Nat.mod_lt _ (by omega)
      obtain ⟨ta, hla1⟩ : ∃ ta, ta = l[pa]! := ⟨_, rfl⟩
      obtain ⟨tb, hlb1⟩ : ∃ tb, tb = l[pb]! := ⟨_, rfl⟩
      have A1 := HT.out.at hpan
      have A2 := HT.out.at hpbn
      rw [← hla1] at A1
      rw [← hlb1] at A2
      have HH1 := Lib.hid A1.2.1
      have HH2 := Lib.hid A2.2.1
      obtain ⟨p0, p1, p2, p3, p4, p5, p6, p7, p8⟩ := A1.1
      obtain ⟨r0, r1, r2, r3, r4, r5, r6, r7, r8⟩ := A2.1
      obtain ⟨d0, d1, d2, d3, d4, d5⟩ := hact
      have f1 := hfine.2.1
      have f2 := hfine.2.2.1
      have k1 : (x.a : Int).tmod (n : Int) = (pa : Int) := by rw [hpa, Int.tmod_eq_emod_of_nonneg (by omega)]; rfl
      have k2 : (x.b : Int).tmod (n : Int) = (pb : Int) := by rw [hpb, Int.tmod_eq_emod_of_nonneg (by omega)]; rfl
      have k3 : IntKind.i64.wrap (pa : Int) = (pa : Int) := IntWalk.i64_in _ (by omega)
      have k4 : IntKind.i64.wrap (pb : Int) = (pb : Int) := IntWalk.i64_in _ (by omega)
      have k5 : (pa : Int) < (n : Int) := by omega
      have k6 : (pb : Int) < (n : Int) := by omega
      have k7 : (0 : Int) ≤ (pa : Int) := by omega
      have k8 : (0 : Int) ≤ (pb : Int) := by omega
      have k9 : ¬ (n : Int) = 0 := by omega
      have k9c : ¬ n = 0 := by omega
      have k10 : IntKind.i64.wrap (x.a : Int) = (x.a : Int) := IntWalk.i64_in _ (by omega)
      have k11 : IntKind.i64.wrap (x.b : Int) = (x.b : Int) := IntWalk.i64_in _ (by omega)
      clear hpa hpb hla1 hlb1 A1 A2 hfine
      go_upto_region 5 with fail
      go_cut [5, 6] (fun v5 v6 wx => ∃ B5 B6, v5 = .pointer (some ⟨B5, 0, none⟩) ∧ v6 = .pointer (some ⟨B6, 0, none⟩) ∧ Hid (BoxAt wx B5 ta ∧ BoxAt wx B6 tb ∧ Below wr.heap.size wr wx))
      · go_region_held3 (fun w' => w'.cell? ⟨ga, oa + i * 6 + 1, none⟩ = some (.int .u8 (x.a : Int)) ∧ w'.cell? ⟨ga, oa + i * 6 + 2, none⟩ = some (.int .u8 (x.b : Int)) ∧ w'.cell? ⟨g, pa * 9, none⟩ = some (.int .i64 (ta.T.seen 0 : Int)) ∧ w'.cell? ⟨g, pa * 9 + 1, none⟩ = some (.int .i64 (ta.T.seen 1 : Int)) ∧ w'.cell? ⟨g, pa * 9 + 2, none⟩ = some (.int .i64 (ta.T.seen 2 : Int)) ∧ w'.cell? ⟨g, pa * 9 + 3, none⟩ = some (.int .i64 (ta.T.seen 3 : Int)) ∧ w'.cell? ⟨g, pa * 9 + 4, none⟩ = some (.int .i64 (ta.T.seen 4 : Int)) ∧ w'.cell? ⟨g, pa * 9 + 5, none⟩ = some (.int .i64 (ta.T.seen 5 : Int)) ∧ w'.cell? ⟨g, pa * 9 + 6, none⟩ = some (.int .i64 (ta.T.seen 6 : Int)) ∧ w'.cell? ⟨g, pa * 9 + 7, none⟩ = some (.int .i64 (ta.T.seen 7 : Int)) ∧ w'.cell? ⟨g, pa * 9 + 8, none⟩ = some (.slice ta.ao ta.n ta.c) ∧ w'.cell? ⟨g, pb * 9, none⟩ = some (.int .i64 (tb.T.seen 0 : Int)) ∧ w'.cell? ⟨g, pb * 9 + 1, none⟩ = some (.int .i64 (tb.T.seen 1 : Int)) ∧ w'.cell? ⟨g, pb * 9 + 2, none⟩ = some (.int .i64 (tb.T.seen 2 : Int)) ∧ w'.cell? ⟨g, pb * 9 + 3, none⟩ = some (.int .i64 (tb.T.seen 3 : Int)) ∧ w'.cell? ⟨g, pb * 9 + 4, none⟩ = some (.int .i64 (tb.T.seen 4 : Int)) ∧ w'.cell? ⟨g, pb * 9 + 5, none⟩ = some (.int .i64 (tb.T.seen 5 : Int)) ∧ w'.cell? ⟨g, pb * 9 + 6, none⟩ = some (.int .i64 (tb.T.seen 6 : Int)) ∧ w'.cell? ⟨g, pb * 9 + 7, none⟩ = some (.int .i64 (tb.T.seen 7 : Int)) ∧ w'.cell? ⟨g, pb * 9 + 8, none⟩ = some (.slice tb.ao tb.n tb.c)) (go_keep) (fail)
        all_goals go_wp2_with fail
        all_goals go_meet
        all_goals first | exact ⟨_, _, rfl, rfl, Lib.hid (two_boxes wr ta tb)⟩ | exact ⟨_, _, rfl, rfl, Lib.hid (two_boxes' wr ta tb)⟩
      · obtain ⟨B5, B6, rfl, rfl, HBX⟩ := hcut
        have HW := Lib.hid HBX.out.2.2
        have BX5 := Lib.hid HBX.out.1
        have BX6 := Lib.hid HBX.out.2.1
        have J1 := Lib.hid (HH1.out.keep HW.out)
        have J2 := Lib.hid (HH2.out.keep HW.out)
        have HT2 := Lib.hid (HT.out.keep HW.out)
        have HX2 := Lib.hid (HX.out.keep HW.out)
        have HB2 := Lib.hid (HB.out.trans (HW.out.mono HB.out.size))
        have hkd := HF.out.1
        have hkd2 : (x.kind : Int) ≤ 255 := by omega
        have hkd3 : (0 : Int) ≤ (x.kind : Int) := by omega
        clear HBX HW HH1 HH2 HT HX HB p0 r0 p1 r1 p2 r2 p3 r3 p4 r4 p5 r5 p6 r6 p7 r7 p8 r8 d0 d1 d2 d3 d4 d5 k1 k2 k3 k4 k5 k6 k7 k8 k9 k9c k10 k11
        obtain ⟨d0, d1, d2, d3, d4, d5⟩ := HX2.out
        obtain ⟨p0, p1, p2, p3, p4, p5, p6, p7, p8⟩ := cell_nine BX5.out
        obtain ⟨r0, r1, r2, r3, r4, r5, r6, r7, r8⟩ := cell_nine BX6.out
        by_cases hk2 : x.kind % 4 = 2
        · have m1 : (((x.kind : Int) % 4) == 2) = true := by simp; omega
          go_upto_region 11 with fail
          have JD := Lib.hid (J1.out.keep (below_drewN (Below.refl wc.heap.size wc) 1))
          go_region_law ((first | ((try go_simp); go_at_call 43; refine (removeA ta.c JD.out (by omega) x.key).mono ?_; rintro e w4 ⟨T4, a4, n4, c4, he, HT4, hh, hb⟩; subst he; have B4 := Lib.hid (below_then (below_drewN (Below.refl wc.heap.size wc) 1) hb); have HH4 := Lib.hid hh; clear hb hh) | (refine step_appT (w := w4.alloc (.cells #[.int .i64 ((Slot.mk T4 a4 n4 c4).T.seen 0 : Int), .int .i64 ((Slot.mk T4 a4 n4 c4).T.seen 1 : Int), .int .i64 ((Slot.mk T4 a4 n4 c4).T.seen 2 : Int), .int .i64 ((Slot.mk T4 a4 n4 c4).T.seen 3 : Int), .int .i64 ((Slot.mk T4 a4 n4 c4).T.seen 4 : Int), .int .i64 ((Slot.mk T4 a4 n4 c4).T.seen 5 : Int), .int .i64 ((Slot.mk T4 a4 n4 c4).T.seen 6 : Int), .int .i64 ((Slot.mk T4 a4 n4 c4).T.seen 7 : Int), .slice (Slot.mk T4 a4 n4 c4).ao (Slot.mk T4 a4 n4 c4).n (Slot.mk T4 a4 n4 c4).c] 34)) (by rfl) (.tmp 74) (.tmp 82) (by rfl) W.heap.size i g n cap l ⟨T4, a4, n4, c4⟩ w4.heap.size 34 (heap_alloc_new _ _) (by rfl) ((HT2.out.keep B4.out).keep (box_below _ _)) (HH4.out.keep (box_below _ _)) (by rfl) (by omega) (Nat.le_trans HB2.out.size (Nat.le_trans B4.out.size (box_below w4 _).size)) ?_; intro g5 cap5 w5 hT5 hb5; have HT5 := Lib.hid hT5; have HB5 := Lib.hid ((HB2.out.trans ((B4.out.trans ((box_below w4 _).mono B4.out.size)).mono HB2.out.size)).trans hb5); clear hT5 hb5)))
          all_goals go_wp2
          all_goals go_roundg (la - (i + 1))
          all_goals first | exact ⟨i + 1, g5, n + 1, cap5, _, by go_num, by omega, Nat.le_refl _, rfl, by omega, Lib.hid (HT5.out.more (Nat.le_succ i)), HB5⟩ | omega
        · by_cases hk3 : x.kind % 4 = 3
          · have m1 : (((x.kind : Int) % 4) == 2) = false := by simp; omega
            have m2 : (((x.kind : Int) % 4) == 3) = true := by simp; omega
            go_wp2_with (first | (go_at_call 31; refine (mergeA ta.c tb.c J1.out J2.out (by omega)).mono ?_; rintro e w4 ⟨T4, a4, n4, c4, rfl, HT4, hh, hb⟩; have B4 := Lib.hid hb; have HH4 := Lib.hid hh; clear hb hh) | (at_builtin; refine wpList_appT rfl _ _ rfl w4 34 W.heap.size i g n cap l ⟨T4, a4, n4, c4⟩ w4.heap.size rfl rfl rfl (HT2.out.keep B4.out) HH4.out rfl (by omega) (Nat.le_trans HB2.out.size B4.out.size) ?_; intro g5 cap5 w5 hT5 hb5; have HT5 := Lib.hid hT5; have HB5 := Lib.hid ((HB2.out.trans (B4.out.mono HB2.out.size)).trans hb5); clear hT5 hb5))
            go_roundg (la - (i + 1))
            case measure => omega
            case rel => exact ⟨i + 1, g5, n + 1, cap5, _, by go_num, by omega, Nat.le_refl _, rfl, by omega, Lib.hid (HT5.out.more (Nat.le_succ i)), HB5⟩
          · have m1 : (((x.kind : Int) % 4) == 2) = false := by simp; omega
            have m2 : (((x.kind : Int) % 4) == 3) = false := by simp; omega
            obtain ⟨er, hput⟩ := putCase ta.c J1.out (by omega) x.site x.key x.val
            have HP := Lib.hid hput
            clear hput
            go_upto_region 7 with fail
            have hB5 : B5 < wc.heap.size := block_lt_of_cell p0
            have hga : ga < wc.heap.size := block_lt_of_cell d3
            go_cut [7, 8] (fun v7 v8 wx => ∃ B7 T4 a4 n4 c4, v7 = .pointer (some ⟨B7, 0, none⟩) ∧ v8 = .int .i64 er ∧ Hid (BoxAt wx B7 ⟨T4, a4, n4, c4⟩ ∧ Held wx (i + 1) T4 a4 n4 ∧ Below wc.heap.size wc wx))
            · have ZB := Lib.hid ((box_below wc (.cells #[.int .i64 0, .int .i64 0, .int .i64 0, .int .i64 0, .int .i64 0, .int .i64 0, .int .i64 0, .int .i64 0, .slice none 0 0] 34)).drew)
              go_region_held3 (fun w' => w'.cell? ⟨B5, 0, none⟩ = some (.int .i64 (ta.T.seen 0 : Int)) ∧ w'.cell? ⟨B5, 1, none⟩ = some (.int .i64 (ta.T.seen 1 : Int)) ∧ w'.cell? ⟨B5, 2, none⟩ = some (.int .i64 (ta.T.seen 2 : Int)) ∧ w'.cell? ⟨B5, 3, none⟩ = some (.int .i64 (ta.T.seen 3 : Int)) ∧ w'.cell? ⟨B5, 4, none⟩ = some (.int .i64 (ta.T.seen 4 : Int)) ∧ w'.cell? ⟨B5, 5, none⟩ = some (.int .i64 (ta.T.seen 5 : Int)) ∧ w'.cell? ⟨B5, 6, none⟩ = some (.int .i64 (ta.T.seen 6 : Int)) ∧ w'.cell? ⟨B5, 7, none⟩ = some (.int .i64 (ta.T.seen 7 : Int)) ∧ w'.cell? ⟨B5, 8, none⟩ = some (.slice ta.ao ta.n ta.c) ∧ w'.cell? ⟨ga, oa + i * 6 + 3, none⟩ = some (.int .i64 x.site) ∧ w'.cell? ⟨ga, oa + i * 6 + 4, none⟩ = some (.string x.key) ∧ w'.cell? ⟨ga, oa + i * 6 + 5, none⟩ = some (.string x.val)) (first | go_keep | (with_reducible exact ⟨keep_far9 (by assumption) (by omega), keep_far9 (by assumption) (by omega), keep_far9 (by assumption) (by omega), keep_far9 (by assumption) (by omega), keep_far9 (by assumption) (by omega), keep_far9 (by assumption) (by omega), keep_far9 (by assumption) (by omega), keep_far9 (by assumption) (by omega), keep_far9 (by assumption) (by omega), keep_far9 (by assumption) (by omega), keep_far9 (by assumption) (by omega), keep_far9 (by assumption) (by omega)⟩))
                (first | (go_at_call 29; refine (HP.out wc.drew (below_drewN (Below.refl _ _) 1)).mono ?_; rintro e w4 ⟨T4, a4, n4, c4, rfl, hh, hb⟩; have B4 := Lib.hid (below_then (below_drewN (Below.refl wc.heap.size wc) 1) hb); have HH4 := Lib.hid hh; have y0 := cell_later B4.out p0; have y1 := cell_later B4.out p1; have y2 := cell_later B4.out p2; have y3 := cell_later B4.out p3; have y4 := cell_later B4.out p4; have y5 := cell_later B4.out p5; have y6 := cell_later B4.out p6; have y7 := cell_later B4.out p7; have y8 := cell_later B4.out p8; have z3 := cell_later B4.out d3; have z4 := cell_later B4.out d4; have z5 := cell_later B4.out d5; clear hb hh) | (go_at_call 29; refine (HP.out (wc.alloc (.cells #[.int .i64 0, .int .i64 0, .int .i64 0, .int .i64 0, .int .i64 0, .int .i64 0, .int .i64 0, .int .i64 0, .slice none 0 0] 34)).drew ZB.out).mono ?_; rintro e w4 ⟨T4, a4, n4, c4, rfl, hh, hb⟩; have B4 := Lib.hid (below_then ZB.out hb); have HH4 := Lib.hid hh; have y0 := cell_later B4.out p0; have y1 := cell_later B4.out p1; have y2 := cell_later B4.out p2; have y3 := cell_later B4.out p3; have y4 := cell_later B4.out p4; have y5 := cell_later B4.out p5; have y6 := cell_later B4.out p6; have y7 := cell_later B4.out p7; have y8 := cell_later B4.out p8; have z3 := cell_later B4.out d3; have z4 := cell_later B4.out d4; have z5 := cell_later B4.out d5; have RR := Lib.hid (row_keep hb (heap_alloc_new wc (.cells #[.int .i64 0, .int .i64 0, .int .i64 0, .int .i64 0, .int .i64 0, .int .i64 0, .int .i64 0, .int .i64 0, .slice none 0 0] 34))); obtain ⟨q0, q1, q2, q3, q4, q5, q6, q7, q8⟩ := cell_nine RR.out; have f0 := free_nine RR.out 0; have f1 := free_nine RR.out 1; have f2 := free_nine RR.out 2; have f3 := free_nine RR.out 3; have f4 := free_nine RR.out 4; have f5 := free_nine RR.out 5; have f6 := free_nine RR.out 6; have f7 := free_nine RR.out 7; have f8 := free_nine RR.out 8; clear hb hh))
              all_goals go_wp2_with fail
              all_goals go_meet
              · exact ⟨_, T4, a4, n4, c4, rfl, rfl, Lib.hid (boxNew T4 a4 n4 c4 B4.out HH4.out)⟩
              · exact ⟨_, T4, a4, n4, c4, rfl, rfl, Lib.hid (boxSet T4 a4 n4 c4 _ B4.out HH4.out RR.out (Nat.le_refl _))⟩
            · obtain ⟨B7, T4, a4, n4, c4, rfl, rfl, H7⟩ := hcut
              have BX7 := Lib.hid H7.out.1
              have J7 := Lib.hid H7.out.2.1
              have B8 := Lib.hid H7.out.2.2
              clear H7
              have HT3 := Lib.hid (HT2.out.keep B8.out)
              have HB3 := Lib.hid (HB2.out.trans (B8.out.mono HB2.out.size))
              clear p0 r0 p1 r1 p2 r2 p3 r3 p4 r4 p5 r5 p6 r6 p7 r7 p8 r8 d0 d1 d2 d3 d4 d5
              by_cases her : er = 0
              · subst her
                obtain ⟨p0, p1, p2, p3, p4, p5, p6, p7, p8⟩ := cell_nine BX7.out
                go_wp2_with (at_builtin; refine wpList_appT rfl _ _ rfl _ 34 W.heap.size (i + 1) g n cap l ⟨T4, a4, n4, c4⟩ _ rfl rfl rfl (HT3.out.more (Nat.le_succ i)) J7.out rfl (by omega) HB3.out.size ?_; intro g5 cap5 w5 hT5 hb5; have HT5 := Lib.hid hT5; have HB5 := Lib.hid (HB3.out.trans hb5); clear hT5 hb5)
                go_roundg (la - (i + 1))
                case measure => omega
                case rel => exact ⟨i + 1, g5, n + 1, cap5, _, by go_num, by omega, Nat.le_refl _, rfl, by omega, HT5, HB5⟩
              · have her0 : (er == 0) = false := beq_eq_false_iff_ne.2 her
                go_wp2
                go_roundg (la - (i + 1))
                case measure => omega
                case rel => exact ⟨i + 1, g, n, cap, l, by go_num, by omega, Nat.le_refl _, rfl, by omega, Lib.hid (HT3.out.more (Nat.le_succ i)), HB3⟩
    · obtain rfl : i = la := by omega
      have t1 : ¬ (i : Int) < (i : Int) := by omega
      go_wp2
      go_ret
      exact ⟨g, n, cap, rfl, ⟨l, HT.out⟩, hn, HB.out⟩
end Go.Proofs.Ytkdbdocipijncaa
