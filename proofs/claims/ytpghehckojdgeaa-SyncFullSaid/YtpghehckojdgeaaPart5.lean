/- Part 5 of the contracts: SLaw, SActs, SShort, STabs, STables, NMath, NMem. -/
import Derived.Carry
import Derived.Lib.SmallJoins
import Derived.ProofKit
import Derived.OpenShut
import Derived.ChangeMaps5
import Derived.Deep.Slices
import Derived.Deep.Fields
import Derived.ChangeSame
import Derived.IntWalk
import Derived.Test.YtpghehckojdgeaaPart4

/- An argument that is an integer; a law's end. -/
set_option linter.unusedVariables false
set_option linter.unusedSimpArgs false
namespace Go.Proofs.Ytpghehckojdgeaa
open Go.ChangeShapes Go.WideShapes Go.RowKit Go.Joins

def InWord (z : Int) : Prop := -9223372036854775808 ≤ z ∧ z ≤ 9223372036854775807

set_option maxRecDepth 100000 in
theorem open_int {H : Type} {enc : TypeId × Value → H} {W : World} {v : Value} {d : DataW H} {p : List MemPlace} {base : Nat}
    (hv : Value.okWide Try.prog W .any base 3 v) (h : DataW.Trod enc Try.prog W 0 (fun _ => true) true 3 v d p) : ∃ n, v = .int .i64 n ∧ InWord n := by
  obtain ⟨n, rfl⟩ := okWide_int Try.underlying3 hv
  obtain ⟨fuel, hf⟩ := h
  obtain ⟨m, e0, _, w0⟩ := DataW.trod_int Try.underlying3 hf
  simp [Value.cells] at e0
  subst e0
  exact ⟨n, rfl, bounds_i64 w0⟩

/-- the arguments read on as they did -/
theorem trodAll_below {H : Type} {enc : TypeId × Value → H} {P : Program} (hl : laidOutB P = true) {W W' : World} (hb : Below W.heap.size W W') :
    ∀ {ts : List TypeId} {vs : List Value} {ds : List (DataW H)} {ps : List MemPlace}, (∀ t ∈ ts, P.readableRec t = true ∧ t < P.types.size) →
      DataW.TrodAll enc P W 0 (fun _ => true) true ts vs ds ps → (∀ x ∈ ps, x.block < W.heap.size) → DataW.TrodAll enc P W' 0 (fun b => decide (b < W.heap.size)) true ts vs ds ps
  | [], [], [], _, _, h, _ => h
  | t :: ts, v :: vs, d :: ds, _, ht, ⟨p, q, h1, h2, e⟩, hlt => by
    have h3 := ht t List.mem_cons_self
    exact ⟨p, q, Below.trod hl h3.1 h3.2 h1 hb (fun x hx => hlt x (by rw [e]; exact List.mem_append_left _ hx)),
      trodAll_below hl hb (fun t' ht' => ht t' (List.mem_cons_of_mem _ ht')) h2 (fun x hx => hlt x (by rw [e]; exact List.mem_append_right _ hx)), e⟩
  | [], _ :: _, _, _, _, h, _ => by simp [DataW.TrodAll] at h
  | [], [], _ :: _, _, _, h, _ => by simp [DataW.TrodAll] at h
  | _ :: _, [], _, _, _, h, _ => by simp [DataW.TrodAll] at h
  | _ :: _, _ :: _, [], _, _, h, _ => by simp [DataW.TrodAll] at h

/-- a law's end -/
theorem post_law {P : Program} {H : Type} {enc : TypeId × Value → H} {f : Func} {s : ChangeSpec} {apart fresh handsOn : Bool} {W W' : World} {args : Array Value} {ds : List (DataW H)} {before : List MemPlace} {t : TypeId}
    (hl : laidOutB P = true) (hts : ∀ t ∈ f.params.toList, P.readableRec t = true ∧ t < P.types.size)
    (hW : DataW.Whole enc P f.params.toList s.vars apart W args.toList ds [] before) (hvs : s.vars = []) (hrt : f.resultTypes = #[t]) (hub : P.underlying t = some .bool)
    (hA : DataW.TrodAll enc P W 0 (fun _ => true) true f.params.toList args.toList ds before)
    (hr : (s.fn H ds).results = [.lit (.bool true)]) (ha : (s.fn H ds).args = ds) (hv : (s.fn H ds).vars = []) (hb : Below W.heap.size W W') :
    s.post enc P f apart fresh handsOn false W args (.bool true) W' := by
  have hlt := hW.lt
  refine ⟨ds, [], before, [], before, [], hW, ?_, ?_, ?_, World.keptBut_mono (fun p hp => ⟨hp, ?_⟩) (hb.frame _), fun h => by cases h⟩
  · rw [List.append_nil, hr, hrt]
    exact trodAll_cons_mk (shut_bool hub _) trodAll_mk0
  · rw [List.append_nil, ha]
    exact trodAll_below hl hb hts hA (fun x hx => by simpa using hlt x hx)
  · rw [List.append_nil, hv, hvs]
    rfl
  · exact Or.inr (by simpa using hp)

set_option maxRecDepth 100000 in
theorem open_u8 {H : Type} {enc : TypeId × Value → H} {W : World} {v : Value} {d : DataW H} {p : List MemPlace} {base : Nat}
    (hv : Value.okWide Try.prog W .any base 5 v) (h : DataW.Trod enc Try.prog W 0 (fun _ => true) true 5 v d p) : ∃ n : Nat, v = .int .u8 (n : Int) ∧ n ≤ 255 := by
  obtain ⟨n, rfl⟩ := okWide_int Try.underlying5 hv
  obtain ⟨fuel, hf⟩ := h
  obtain ⟨m, e0, _, w0⟩ := DataW.trod_int Try.underlying5 hf
  simp [Value.cells] at e0
  subst e0
  have := bounds_u8 w0
  exact ⟨n.toNat, by rw [Int.toNat_of_nonneg this.1], by omega⟩
set_option maxRecDepth 100000 in
theorem open_str {H : Type} {enc : TypeId × Value → H} {W : World} {v : Value} {d : DataW H} {p : List MemPlace} {base : Nat}
    (hv : Value.okWide Try.prog W .any base 9 v) (h : DataW.Trod enc Try.prog W 0 (fun _ => true) true 9 v d p) : ∃ s : ByteArray, v = .string s := by
  obtain ⟨a0, rfl, _, _, w0⟩ := Go.ChangeMaps.open_string Try.underlying9 hv h
  exact ⟨a0, rfl⟩
end Go.Proofs.Ytpghehckojdgeaa

/- Lists of acts and of deeds in memory; arguments that are such lists. -/
set_option linter.unusedVariables false
set_option linter.unusedSimpArgs false
namespace Go.Proofs.Ytpghehckojdgeaa
open Go.ChangeShapes Go.WideShapes Go.RowKit Go.Joins Go.Deep

/-- one field of a struct whose fields are single cells, out of the struct's reading at address a -/
theorem field_read {H : Type} {enc : TypeId × Value → H} {P : Program} {w : World} {base : Nat} {spare : Nat → Bool} {held : Bool} {e : TypeId} {fs : Array Field} {a : Addr} {cs : List Value} {n : Nat} {x : DataW H × List MemPlace}
    (he : P.underlying e = some (.struct fs)) (h1 : oneCellFields P fs = true) (hc : w.cells? base a (P.cellsOf e) = some cs) (ht : DataW.trod enc P w base spare held n e cs = some x) (hC : P.cellsOf e = fs.size) (j : Nat) (tj : TypeId) (hjt : fs[j]?.map (·.type) = some tj) :
    ∃ (v : Value) (y : DataW H × List MemPlace) (m : Nat), w.cell? (a.add j) = some v ∧ DataW.trod enc P w base spare held m tj [v] = some y := by
  obtain ⟨f, hj, rfl⟩ := Option.map_eq_some_iff.1 hjt
  obtain ⟨ys, m, _, _, hl, hyl, hf⟩ := DataW.trod_struct he ht
  obtain ⟨_, hcl, hat⟩ := World.cells?_some hc
  have hjs : j < fs.size := (Array.getElem?_eq_some_iff.1 hj).1
  have hjc : j < cs.length := by omega
  obtain ⟨o1, o2⟩ := Go.Deep.hone_of h1 j f hj
  have hr := hf j f hj
  rw [o1, o2, List.drop_eq_getElem_cons hjc] at hr
  have hy : ys[j]? = some (ys[j]'(by omega)) := List.getElem?_eq_getElem (by omega)
  refine ⟨cs[j], ys[j]'(by omega), m, ?_, ?_⟩
  · rw [hat j (by omega), List.getElem?_eq_getElem hjc]
  · rw [← hy, ← hr]; rfl

/-! ### acts -/
structure ActD where
  kind : Nat
  a : Nat
  b : Nat
  site : Int
  key : ByteArray
  val : ByteArray
instance : Inhabited ActD := ⟨⟨0, 0, 0, 0, ByteArray.empty, ByteArray.empty⟩⟩
def ActD.fine (x : ActD) : Prop := x.kind ≤ 255 ∧ x.a ≤ 255 ∧ x.b ≤ 255 ∧ InWord x.site
/-- the six cells of an act -/
def ActAt (w : World) (g o : Nat) (x : ActD) : Prop :=
  w.cell? ⟨g, o, none⟩ = some (.int .u8 (x.kind : Int)) ∧ w.cell? ⟨g, o + 1, none⟩ = some (.int .u8 (x.a : Int)) ∧ w.cell? ⟨g, o + 2, none⟩ = some (.int .u8 (x.b : Int)) ∧ w.cell? ⟨g, o + 3, none⟩ = some (.int .i64 x.site) ∧ w.cell? ⟨g, o + 4, none⟩ = some (.string x.key) ∧ w.cell? ⟨g, o + 5, none⟩ = some (.string x.val)
theorem ActAt.keep {w w' : World} {g o : Nat} {x : ActD} (h : ActAt w g o x) (hb : Below w.heap.size w w') : ActAt w' g o x := by
  obtain ⟨a, b, c, d, e, f⟩ := h
  exact ⟨cell_later hb a, cell_later hb b, cell_later hb c, cell_later hb d, cell_later hb e, cell_later hb f⟩
/-- a slice of acts -/
def Acts (w : World) (ao : Option Addr) (len : Nat) (xs : List ActD) : Prop :=
  xs.length = len ∧ (∀ x ∈ xs, x.fine) ∧ ∃ g o, (0 < len → ao = some ⟨g, o, none⟩) ∧ ∀ i, i < len → ActAt w g (o + i * 6) xs[i]!
theorem Acts.keep {w w' : World} {ao : Option Addr} {len : Nat} {xs : List ActD} (h : Acts w ao len xs) (hb : Below w.heap.size w w') : Acts w' ao len xs := by
  obtain ⟨h1, h0, g, o, h2, h3⟩ := h
  exact ⟨h1, h0, g, o, h2, fun i hi => (h3 i hi).keep hb⟩
theorem Acts.at {w : World} {ao : Option Addr} {len : Nat} {xs : List ActD} (h : Acts w ao len xs) {i : Nat} (hi : i < len) : ∃ g o, ao = some ⟨g, o, none⟩ ∧ ActAt w g (o + i * 6) xs[i]! ∧ xs[i]!.fine := by
  obtain ⟨h1, h0, g, o, h2, h3⟩ := h
  exact ⟨g, o, h2 (by omega), h3 i hi, h0 _ (by rw [getElem!_pos xs i (by omega)]; exact List.getElem_mem _)⟩

theorem u8_nat {n : Int} (h : (Lit.int .u8 n).wf = true) : ∃ m : Nat, (m : Int) = n ∧ m ≤ 255 := by
  have := bounds_u8 h
  exact ⟨n.toNat, Int.toNat_of_nonneg this.1, by omega⟩
set_option maxRecDepth 100000 in
theorem open_acts {H : Type} {enc : TypeId × Value → H} {W : World} {v : Value} {d : DataW H} {p : List MemPlace} {base : Nat}
    (hv : Value.okWide Try.prog W .any base 22 v) (h : DataW.Trod enc Try.prog W 0 (fun _ => true) true 22 v d p) :
    ∃ ao la ca xs, v = .slice ao la ca ∧ Acts W ao la xs ∧ la ≤ 9223372036854775807 := by
  obtain ⟨ao, la, ca, rfl⟩ := okWide_slice Try.underlying22 hv
  obtain ⟨fuel, hf⟩ := h
  have hC : Try.prog.cellsOf 74 = 6 := by kernel_rfl
  rcases Go.Deep.open_slice Try.underlying22 hf with ⟨e1, _⟩ | ⟨a, len, cap, m, n, D, Pl, e1, _, hlc, hcm, hm, _, hi⟩
  · simp [Value.cells] at e1
    obtain ⟨rfl, rfl, rfl⟩ := e1
    exact ⟨none, 0, 0, [], rfl, ⟨rfl, fun x hx => by (cases hx), 0, 0, fun h => by omega, fun i hi => by omega⟩, by omega⟩
  · simp [Value.cells] at e1
    obtain ⟨rfl, rfl, rfl⟩ := e1
    have hm2 : la ≤ m := by rw [hm]; split <;> omega
    have key : ∀ i, i < la → ∃ x : ActD, x.fine ∧ W.cell? (a.add (i * 6)) = some (.int .u8 (x.kind : Int)) ∧ W.cell? (a.add (i * 6 + 1)) = some (.int .u8 (x.a : Int)) ∧ W.cell? (a.add (i * 6 + 2)) = some (.int .u8 (x.b : Int)) ∧ W.cell? (a.add (i * 6 + 3)) = some (.int .i64 x.site) ∧ W.cell? (a.add (i * 6 + 4)) = some (.string x.key) ∧ W.cell? (a.add (i * 6 + 5)) = some (.string x.val) := fun i hil => by
      obtain ⟨cs', hc, ht⟩ := hi i (by omega)
      rw [hC] at hc
      have h1 : oneCellFields Try.prog _ = true := (by kernel_rfl : oneCellFields Try.prog (Try.prog.fieldsOf 74) = true)
      have he : Try.prog.underlying 74 = some (.struct (Try.prog.fieldsOf 74)) := by kernel_rfl
      have hs : Try.prog.cellsOf 74 = (Try.prog.fieldsOf 74).size := by kernel_rfl
      rw [← hC] at hc
      have rd := field_read he h1 hc ht hs
      obtain ⟨v0, y0, m0, c0, t0⟩ := rd 0 5 (by kernel_rfl)
      obtain ⟨v1, y1, m1, c1, t1⟩ := rd 1 5 (by kernel_rfl)
      obtain ⟨v2, y2, m2, c2, t2⟩ := rd 2 5 (by kernel_rfl)
      obtain ⟨v3, y3, m3, c3, t3⟩ := rd 3 3 (by kernel_rfl)
      obtain ⟨v4, y4, m4, c4, t4⟩ := rd 4 9 (by kernel_rfl)
      obtain ⟨v5, y5, m5, c5, t5⟩ := rd 5 9 (by kernel_rfl)
      obtain ⟨z0, e0, _, w0⟩ := DataW.trod_int Try.underlying5 t0
      obtain ⟨z1, e1, _, w1⟩ := DataW.trod_int Try.underlying5 t1
      obtain ⟨z2, e2, _, w2⟩ := DataW.trod_int Try.underlying5 t2
      obtain ⟨z3, e3, _, w3⟩ := DataW.trod_int Try.underlying3 t3
      obtain ⟨z4, e4, _, w4⟩ := DataW.trod_string Try.underlying9 t4
      obtain ⟨z5, e5, _, w5⟩ := DataW.trod_string Try.underlying9 t5
      obtain ⟨n0, rfl, b0⟩ := u8_nat w0
      obtain ⟨n1, rfl, b1⟩ := u8_nat w1
      obtain ⟨n2, rfl, b2⟩ := u8_nat w2
      simp only [List.cons.injEq, and_true] at e0 e1 e2 e3 e4 e5
      subst e0 e1 e2 e3 e4 e5
      simp only [Go.Deep.add_add] at c0 c1 c2 c3 c4 c5
      exact ⟨⟨n0, n1, n2, z3, z4, z5⟩, ⟨b0, b1, b2, bounds_i64 w3⟩, c0, c1, c2, c3, c4, c5⟩
    obtain ⟨f, hf2⟩ : ∃ f : Nat → ActD, ∀ i, i < la → (f i).fine ∧ W.cell? (a.add (i * 6)) = some (.int .u8 ((f i).kind : Int)) ∧ W.cell? (a.add (i * 6 + 1)) = some (.int .u8 ((f i).a : Int)) ∧ W.cell? (a.add (i * 6 + 2)) = some (.int .u8 ((f i).b : Int)) ∧ W.cell? (a.add (i * 6 + 3)) = some (.int .i64 (f i).site) ∧ W.cell? (a.add (i * 6 + 4)) = some (.string (f i).key) ∧ W.cell? (a.add (i * 6 + 5)) = some (.string (f i).val) := by
      refine ⟨fun i => if h : i < la then Classical.choose (key i h) else default, fun i hi => ?_⟩
      simp only [dif_pos hi]
      exact Classical.choose_spec (key i hi)
    refine ⟨some a, la, ca, (List.range la).map f, rfl, ⟨by simp, fun x hx => ?_, ?_⟩, by unfold maxLen at hcm; omega⟩
    · obtain ⟨i, hi, rfl⟩ := List.mem_map.1 hx
      exact (hf2 i (by simpa using hi)).1
    · by_cases h0 : 0 < la
      · obtain ⟨b, off, spot⟩ := a
        have hspot : spot = none := by simpa [Addr.add] using World.cell?_spot (hf2 0 (by omega)).2.1
        subst hspot
        refine ⟨b, off, fun _ => rfl, fun i hi => ?_⟩
        have h1 := (hf2 i hi).2
        have e : ((List.range la).map f)[i]! = f i := by rw [getElem!_pos _ i (by simpa using hi)]; simp
        rw [e]
        simp only [add_off] at h1
        exact h1
      · exact ⟨0, 0, fun h => by omega, fun i hi => by omega⟩
end Go.Proofs.Ytpghehckojdgeaa

/- The law's short. -/
set_option linter.unusedVariables false
set_option linter.unusedSimpArgs false
namespace Go.Proofs.Ytpghehckojdgeaa
open Go.RowKit Go.Shelf Go.Sort

/-- may the act stand? -/
def ActD.brief (x : ActD) : Prop := x.key.size ≤ 200 ∧ x.val.size ≤ 200
open Classical in
noncomputable def firstBad (xs : List ActD) (q : Nat) : Bool := decide (∀ j, j < q → xs[j]!.brief)
def shortB (xs : List ActD) (len : Nat) (most : Nat) : Prop := (∀ j, j < len → j < most → xs[j]!.brief)
open Classical in
noncomputable def isShort (xs : List ActD) (len most : Nat) : Bool := decide (shortB xs len most) && decide (len ≤ most)

theorem least_bad {p : Nat → Prop} : ∀ n, (∃ j, j < n ∧ ¬ p j) → ∃ k, k < n ∧ ¬ p k ∧ ∀ j, j < k → p j
  | 0, ⟨j, hj, _⟩ => absurd hj (Nat.not_lt_zero _)
  | n + 1, ⟨j, hj, hp⟩ => by
    by_cases h : ∃ j, j < n ∧ ¬ p j
    · obtain ⟨k, hk, h1, h2⟩ := least_bad n h
      exact ⟨k, by omega, h1, h2⟩
    · refine ⟨n, Nat.lt_succ_self n, ?_, fun i hi => Classical.byContradiction fun k => h ⟨i, hi, k⟩⟩
      have : j = n := Classical.byContradiction fun k => h ⟨j, by omega, hp⟩
      rwa [← this]

set_option maxRecDepth 100000 in
set_option maxHeartbeats 4000000 in
theorem short_any (ao : Option Addr) (la ca most : Nat) (xs : List ActD) (W : World) (h : Acts W ao la xs) (hla : la ≤ 9223372036854775807) (hm : most ≤ 1000) :
    Calls Try.prog 7 #[.slice ao la ca, .int .i64 (most : Int)] W fun e w' => e = .returned (.bool (isShort xs la most)) ∧ W = w' := by
  have HA := Lib.hid h
  have pm : (most : Int) ≤ 1000 := by omega
  have pl : (la : Int) ≤ 9223372036854775807 := by omega
  clear h
  by_cases hall : shortB xs la most
  · have e : isShort xs la most = decide (la ≤ most) := by unfold isShort; simp [hall]
    rw [e]
    have HS := Lib.hid hall
    clear e hall
    go_enter Try.func7, Try.ntmps7
    go_wp2
    go_loopg [5] la (fun gg s5 wr => ∃ j : Nat, s5 = .int .i64 (j : Int) ∧ j ≤ la ∧ la - j ≤ gg ∧ wr = W)
    case atStart => exact ⟨0, rfl, Nat.zero_le _, by omega, rfl⟩
    case round =>
      obtain ⟨j, rfl, hj, hgg, rfl⟩ := hrel
      by_cases h1 : j < la
      · have t1 : decide ((j : Int) < (la : Int)) = true := by simp; omega
        by_cases h2 : j < most
        · have t2 : decide ((j : Int) < (most : Int)) = true := by simp; omega
          have t3 : (j : Int) < (la : Int) := by omega
          have t4 : (0 : Int) ≤ (j : Int) := by omega
          obtain ⟨g, o, hg, hc, _⟩ := HA.out.at h1
          have hb := HS.out j h1 h2
          generalize xs[j]! = x at hc hb
          obtain ⟨c0, c1, c2, c3, c4, c5⟩ := hc
          subst hg
          have t5 : decide ((200 : Int) < (x.key.size : Int)) = false := by have := hb.1; simp; omega
          have t6 : decide ((200 : Int) < (x.val.size : Int)) = false := by have := hb.2; simp; omega
          clear hb
          go_wp2
          go_roundg (la - (j + 1))
          case measure => omega
          case rel => exact ⟨j + 1, by go_num, by omega, Nat.le_refl _, rfl⟩
        · have t2 : decide ((j : Int) < (most : Int)) = false := by simp; omega
          go_wp2
          go_ret
          exact ⟨by simp, rfl⟩
      · have t1 : decide ((j : Int) < (la : Int)) = false := by simp; omega
        go_wp2
        go_ret
        exact ⟨by simp, rfl⟩
  · have e : isShort xs la most = false := by unfold isShort; simp [hall]
    rw [e]
    obtain ⟨k, hk, hbad, hgood⟩ : ∃ k, k < la ∧ k < most ∧ ¬ xs[k]!.brief ∧ ∀ j, j < k → xs[j]!.brief := by
      have : ∃ j, j < min la most ∧ ¬ xs[j]!.brief := Classical.byContradiction fun c => hall fun j h1 h2 => Classical.byContradiction fun c' => c ⟨j, by omega, c'⟩
      obtain ⟨k, hk, h1, h2⟩ := least_bad (p := fun j => xs[j]!.brief) _ this
      exact ⟨k, by omega, by omega, h1, h2⟩
    have HK := Lib.hid hgood.1
    have HG := Lib.hid hgood.2
    clear e hall hgood
    go_enter Try.func7, Try.ntmps7
    go_wp2
    go_loopg [5] la (fun gg s5 wr => ∃ j : Nat, s5 = .int .i64 (j : Int) ∧ j ≤ k ∧ la - j ≤ gg ∧ wr = W)
    case atStart => exact ⟨0, rfl, Nat.zero_le _, by omega, rfl⟩
    case round =>
      obtain ⟨j, rfl, hj, hgg, rfl⟩ := hrel
      have h1 : j < la := by omega
      have t1 : decide ((j : Int) < (la : Int)) = true := by simp; omega
      have t2 : decide ((j : Int) < (most : Int)) = true := by simp; omega
      have t3 : (j : Int) < (la : Int) := by omega
      have t4 : (0 : Int) ≤ (j : Int) := by omega
      obtain ⟨g, o, hg, hc, _⟩ := HA.out.at h1
      by_cases hjk : j < k
      · have hb := HG.out j hjk
        generalize xs[j]! = x at hc hb
        obtain ⟨c0, c1, c2, c3, c4, c5⟩ := hc
        subst hg
        have t5 : decide ((200 : Int) < (x.key.size : Int)) = false := by have := hb.1; simp; omega
        have t6 : decide ((200 : Int) < (x.val.size : Int)) = false := by have := hb.2; simp; omega
        clear hb
        go_wp2
        go_roundg (la - (j + 1))
        case measure => omega
        case rel => exact ⟨j + 1, by go_num, by omega, by omega, rfl⟩
      · obtain rfl : j = k := by omega
        have hb := HK.out
        generalize xs[j]! = x at hc hb
        obtain ⟨c0, c1, c2, c3, c4, c5⟩ := hc
        subst hg
        by_cases h5 : 200 < x.key.size
        · have t5 : decide ((200 : Int) < (x.key.size : Int)) = true := by simp; omega
          clear hb
          go_wp2
          go_ret
          exact ⟨rfl, rfl⟩
        · have t5 : decide ((200 : Int) < (x.key.size : Int)) = false := by simp; omega
          have t6 : decide ((200 : Int) < (x.val.size : Int)) = true := by
            have : ¬ (x.key.size ≤ 200 ∧ x.val.size ≤ 200) := hb
            simp; omega
          clear hb
          go_wp2
          go_ret
          exact ⟨rfl, rfl⟩
end Go.Proofs.Ytpghehckojdgeaa

/- Rows of tables that are appended to. No function of the program is walked here. (By gen_tabs.py.) -/
set_option linter.unusedVariables false
set_option linter.unusedSimpArgs false
namespace Go.Proofs.Ytpghehckojdgeaa
open Go.RowKit Go.Shelf Go.Sort

/-- a table in a row -/
structure Slot where
  T : Tab
  ao : Option Addr
  n : Nat
  c : Nat
instance : Inhabited Slot := ⟨⟨Tab.none, none, 0, 0⟩⟩
def slotC (x : Slot) : List Value := [.int .i64 (x.T.seen 0 : Int), .int .i64 (x.T.seen 1 : Int), .int .i64 (x.T.seen 2 : Int), .int .i64 (x.T.seen 3 : Int), .int .i64 (x.T.seen 4 : Int), .int .i64 (x.T.seen 5 : Int), .int .i64 (x.T.seen 6 : Int), .int .i64 (x.T.seen 7 : Int), .slice x.ao x.n x.c]
def flatT (l : List Slot) : List Value := l.flatMap slotC
theorem slotC_len (x : Slot) : (slotC x).length = 9 := rfl
theorem flatT_len : ∀ l : List Slot, (flatT l).length = l.length * 9
  | [] => rfl
  | x :: l => by
    have := flatT_len l
    unfold flatT at *
    rw [List.flatMap_cons, List.length_append, this, slotC_len, List.length_cons]; omega
theorem flatT_get : ∀ (l : List Slot) (i c : Nat), c < 9 → (flatT l)[i * 9 + c]? = (l[i]?).bind fun x => (slotC x)[c]?
  | [], i, c, _ => by simp [flatT]
  | x :: l, 0, c, hc => by
    unfold flatT
    rw [List.flatMap_cons, Nat.zero_mul, Nat.zero_add, List.getElem?_append_left (by rw [slotC_len]; exact hc)]
    rfl
  | x :: l, i + 1, c, hc => by
    have := flatT_get l i c hc
    unfold flatT at *
    rw [List.flatMap_cons, List.getElem?_append_right (by rw [slotC_len]; omega), List.getElem?_cons_succ, ← this]
    congr 1
    rw [slotC_len]; omega
theorem flatT_app (l k : List Slot) : flatT (l ++ k) = flatT l ++ flatT k := by unfold flatT; simp
theorem slotC_one (x : Slot) : ∀ u ∈ slotC x, u.oneCell' = true := by
  intro u hu
  simp only [slotC, List.mem_cons, List.not_mem_nil, or_false] at hu
  rcases hu with rfl | rfl | rfl | rfl | rfl | rfl | rfl | rfl | rfl <;> rfl
/-- the nine cells of a table -/
def SlotAt (w : World) (g o : Nat) (x : Slot) : Prop := w.cell? ⟨g, o, none⟩ = some (.int .i64 (x.T.seen 0 : Int)) ∧ w.cell? ⟨g, o + 1, none⟩ = some (.int .i64 (x.T.seen 1 : Int)) ∧ w.cell? ⟨g, o + 2, none⟩ = some (.int .i64 (x.T.seen 2 : Int)) ∧ w.cell? ⟨g, o + 3, none⟩ = some (.int .i64 (x.T.seen 3 : Int)) ∧ w.cell? ⟨g, o + 4, none⟩ = some (.int .i64 (x.T.seen 4 : Int)) ∧ w.cell? ⟨g, o + 5, none⟩ = some (.int .i64 (x.T.seen 5 : Int)) ∧ w.cell? ⟨g, o + 6, none⟩ = some (.int .i64 (x.T.seen 6 : Int)) ∧ w.cell? ⟨g, o + 7, none⟩ = some (.int .i64 (x.T.seen 7 : Int)) ∧ w.cell? ⟨g, o + 8, none⟩ = some (.slice x.ao x.n x.c)
/-- what of a slice's block a reader sees: other blocks may differ -/
theorem RowE.far {w w' : World} {g T : Nat} {z : Int} {xs : List Ent} (h : RowE w g xs) (hT : w.cell? ⟨T, 0, none⟩ = some (.int .i64 z)) (hk : ∀ b o, b < w.heap.size → b ≠ T → w'.cell? ⟨b, o, none⟩ = w.cell? ⟨b, o, none⟩) (hs : w.heap.size ≤ w'.heap.size) : RowE w' g xs := by
  refine ⟨Nat.lt_of_lt_of_le h.1 hs, fun i hi => ?_⟩
  have hg : g ≠ T := by
    intro e
    subst e
    have := (h.2 0 (by omega)).1
    rw [Nat.zero_mul, hT] at this
    cases this
  obtain ⟨a, b, c, d⟩ := h.2 i hi
  exact ⟨(hk g _ h.1 hg).trans a, (hk g _ h.1 hg).trans b, (hk g _ h.1 hg).trans c, (hk g _ h.1 hg).trans d⟩
theorem El.far {w w' : World} {ao : Option Addr} {n T : Nat} {z : Int} {xs : List Ent} (h : El w ao n xs) (hT : w.cell? ⟨T, 0, none⟩ = some (.int .i64 z)) (hk : ∀ b o, b < w.heap.size → b ≠ T → w'.cell? ⟨b, o, none⟩ = w.cell? ⟨b, o, none⟩) (hs : w.heap.size ≤ w'.heap.size) : El w' ao n xs := by
  obtain ⟨h1, h2⟩ := h
  refine ⟨h1, ?_⟩
  rcases h2 with h2 | ⟨g, h2, h3⟩
  · exact .inl h2
  · exact .inr ⟨g, h2, h3.far hT hk hs⟩

/-- an own row of n ≥ 1 tables, each made with at most m writes -/
structure Tabs (w : World) (base m g n cap : Nat) (l : List Slot) : Prop where
  len : l.length = n
  pos : 1 ≤ n
  own : w.ownsRow base 34 9 (.slice (some ⟨g, 0, none⟩) n cap) n (flatT l)
  held : ∀ x ∈ l, Held w m x.T x.ao x.n
theorem Tabs.more {w : World} {base m q g n cap : Nat} {l : List Slot} (h : Tabs w base m g n cap l) (hq : m ≤ q) : Tabs w base q g n cap l := ⟨h.len, h.pos, h.own, fun x hx => (h.held x hx).more hq⟩
theorem Tabs.keep {w w' : World} {base m g n cap : Nat} {l : List Slot} (h : Tabs w base m g n cap l) (hb : Below w.heap.size w w') : Tabs w' base m g n cap l := by
  refine ⟨h.len, h.pos, ⟨h.own.1, ?_⟩, fun x hx => (h.held x hx).keep hb⟩
  rcases h.own.2 with h2 | ⟨g', cap', cur, h3, h4, h5, h6⟩
  · exact .inl h2
  · exact .inr ⟨g', cap', cur, h3, h4, (hb.block g' (Array.getElem?_eq_some_iff.1 h5).1).trans h5, h6⟩
theorem Tabs.cell {w : World} {base m g n cap : Nat} {l : List Slot} (h : Tabs w base m g n cap l) (o : Nat) (v : Value) (hv : (flatT l)[o]? = some v) : w.cell? ⟨g, o, none⟩ = some v := by
  rcases h.own.2 with ⟨h2, _⟩ | ⟨g', cap', cur, h2, hb, hg, hnc, hcm, hcs, ht⟩
  · cases h2
  · cases h2
    rw [← ht, List.getElem?_take] at hv
    split at hv
    · simp only [World.cell?, hg]
      simpa using hv
    · cases hv
theorem Tabs.at {w : World} {base m g n cap : Nat} {l : List Slot} (h : Tabs w base m g n cap l) {i : Nat} (hi : i < n) : SlotAt w g (i * 9) l[i]! ∧ Held w m l[i]!.T l[i]!.ao l[i]!.n ∧ l[i]! ∈ l := by
  have hil : i < l.length := by rw [h.len]; exact hi
  have hm : l[i]! ∈ l := by rw [getElem!_pos l i hil]; exact List.getElem_mem hil
  refine ⟨?_, h.held _ hm, hm⟩
  have hc : ∀ c v, c < 9 → (slotC l[i]!)[c]? = some v → w.cell? ⟨g, i * 9 + c, none⟩ = some v := fun c v hc hv => h.cell _ _ (by rw [flatT_get _ _ _ hc, List.getElem?_eq_getElem hil, ← getElem!_pos l i hil]; exact hv)
  exact ⟨hc 0 _ (by omega) rfl, hc 1 _ (by omega) rfl, hc 2 _ (by omega) rfl, hc 3 _ (by omega) rfl, hc 4 _ (by omega) rfl, hc 5 _ (by omega) rfl, hc 6 _ (by omega) rfl, hc 7 _ (by omega) rfl, hc 8 _ (by omega) rfl⟩
theorem infoT : (Try.prog.info? 34).map (fun i => (i.zero, i.size, i.bytes)) = some (some (.agg #[.int .i64 0, .int .i64 0, .int .i64 0, .int .i64 0, .int .i64 0, .int .i64 0, .int .i64 0, .int .i64 0, .slice none 0 0]), 9, 88) := by kernel_rfl

/-- a table is appended -/
theorem wpList_appT {w1 : World} {ops : Array Oper} {rest : List Oper} {o : Oper} {a : Act} {Q : Exit → Act → World → Prop} (hgd : o.guard = none) (s x : Operand)
    (ho : o.op = .call { callee := .builtin .append, args := #[s, x], argTypes := #[25, 25] }) (w : World) (t : TypeId) (base m g n cap : Nat) (l : List Slot) (z : Slot) (H : Nat) (hH : w.heap.size = H) (hw : w1 = w.alloc (.cells (slotC z).toArray t)) (hs : a.eval s = .slice (some ⟨g, 0, none⟩) n cap) (hown : Tabs w base m g n cap l) (hz : Held w m z.T z.ao z.n)
    (hx : a.eval x = .slice (some ⟨H, 0, none⟩) 1 1) (hn : n ≤ 1000000) (hbase : base ≤ w.heap.size)
    (h : ∀ g' cap' w', Tabs w' base m g' (n + 1) cap' (l ++ [z]) → Below base w w' → wpList Try.prog ops Q rest (a.put o.dst (.slice (some ⟨g', 0, none⟩) (n + 1) cap')) w') :
    wpList Try.prog ops Q (o :: rest) a w1 := by
  subst hw hH
  obtain ⟨i0, hi, hz0, hz1, hz2⟩ := info_parts infoT
  have hb0 := box_below w (.cells (slotC z).toArray t)
  have hT := (hown.keep hb0)
  have hZ := hz.keep hb0
  have c0 : ∃ y, (w.alloc (.cells (slotC z).toArray t)).cell? ⟨g, 0, none⟩ = some (.int .i64 y) := by
    have := (hT.at (i := 0) (by have := hown.pos; omega)).1.1
    exact ⟨_, by simpa using this⟩
  obtain ⟨y, c0⟩ := c0
  refine wpList_append_lies _ hgd s x 25 ho base 34 i0 _ 9 88 Try.underlying25 hi hz0 hz1 hz2 rfl (by decide) _ n (flatT l) hs hT.own ⟨w.heap.size, 0, none⟩ 1 1 (slotC z) hx (by rw [slotC_len]) ?_ (slotC_one z) (by omega) (by unfold maxLen; omega) (by omega) (by simp; omega) _ rfl ?_
  · intro j u hj
    rw [add_off, Nat.zero_add]
    simp only [World.cell?]
    rw [heap_alloc_new]
    simpa using hj
  · intro g' cap' w' hr hg _ _
    have hk : ∀ b o, b < (w.alloc (.cells (slotC z).toArray t)).heap.size → b ≠ g → w'.cell? ⟨b, o, none⟩ = (w.alloc (.cells (slotC z).toArray t)).cell? ⟨b, o, none⟩ := fun b o hb hne => World.cell?_of_block (a := ⟨b, o, none⟩) (hg.block b hb (fun e => hne (by simpa [Value.ownBlock] using e)))
    refine h g' cap' w' ⟨by rw [List.length_append, hown.len]; rfl, by omega, by rw [flatT_app]; simpa [flatT] using hr, fun u hu => ?_⟩ (((Below.refl base w).alloc hbase _).grown hg (by simp; omega) (fun j hj => (World.ownsRow.lt hT.own j hj).1))
    rcases List.mem_append.1 hu with hu | hu
    · exact ⟨(hT.held u hu).el.far c0 hk hg.size, (hT.held u hu).ok⟩
    · rw [List.mem_singleton] at hu
      subst hu
      exact ⟨hZ.el.far c0 hk hg.size, hZ.ok⟩

/-- .. at a step of a region that draws its order -/
theorem step_appT {w : World} {ops : Array Oper} {o : Oper} {a : Act} {K : Act → World → Prop} {Q : Exit → Act → World → Prop} {E : Prop} (hgd : o.guard = none) (s x : Operand)
    (ho : o.op = .call { callee := .builtin .append, args := #[s, x], argTypes := #[25, 25] }) (base m g n cap : Nat) (l : List Slot) (z : Slot) (H : Nat) (t : TypeId) (hH : w.heap[H]? = some (.cells (slotC z).toArray t (0, 0))) (hs : a.eval s = .slice (some ⟨g, 0, none⟩) n cap) (hown : Tabs w base m g n cap l) (hz : Held w m z.T z.ao z.n)
    (hx : a.eval x = .slice (some ⟨H, 0, none⟩) 1 1) (hn : n ≤ 1000000) (hbase : base ≤ w.heap.size)
    (h : ∀ g' cap' w', Tabs w' base m g' (n + 1) cap' (l ++ [z]) → Below base w w' → K (a.put o.dst (.slice (some ⟨g', 0, none⟩) (n + 1) cap')) w') :
    if Region.wanted o (yielded ops a.tmps) = true then Oper.wp Try.prog o a w K Q else E := by
  obtain ⟨i0, hi, hz0, hz1, hz2⟩ := info_parts infoT
  have c0 : ∃ y, w.cell? ⟨g, 0, none⟩ = some (.int .i64 y) := by
    have := (hown.at (i := 0) (by have := hown.pos; omega)).1.1
    exact ⟨_, by simpa using this⟩
  obtain ⟨y, c0⟩ := c0
  refine step_append_lies _ hgd s x 25 ho base 34 i0 _ 9 88 Try.underlying25 hi hz0 hz1 hz2 rfl (by decide) _ n (flatT l) hs hown.own ⟨H, 0, none⟩ 1 1 (slotC z) hx (by rw [slotC_len]) ?_ (slotC_one z) (by omega) (by unfold maxLen; omega) (by omega) hbase _ rfl ?_
  · intro j u hj
    rw [add_off, Nat.zero_add]
    simp only [World.cell?]
    rw [hH]
    simpa using hj
  · intro g' cap' w' hr hg _ _
    have hk : ∀ b o, b < w.heap.size → b ≠ g → w'.cell? ⟨b, o, none⟩ = w.cell? ⟨b, o, none⟩ := fun b o hb hne => World.cell?_of_block (a := ⟨b, o, none⟩) (hg.block b hb (fun e => hne (by simpa [Value.ownBlock] using e)))
    refine h g' cap' w' ⟨by rw [List.length_append, hown.len]; rfl, by omega, by rw [flatT_app]; simpa [flatT] using hr, fun u hu => ?_⟩ ((Below.refl base w).grown hg hbase (fun j hj => (World.ownsRow.lt hown.own j hj).1))
    rcases List.mem_append.1 hu with hu | hu
    · exact ⟨(hown.held u hu).el.far c0 hk hg.size, (hown.held u hu).ok⟩
    · rw [List.mem_singleton] at hu
      subst hu
      exact ⟨hz.el.far c0 hk hg.size, hz.ok⟩
end Go.Proofs.Ytpghehckojdgeaa

/- The law's tables. (By gen_tables.py.) -/
set_option linter.unusedVariables false
set_option linter.unusedSimpArgs false
namespace Go.Proofs.Ytpghehckojdgeaa
open Go.RowKit Go.Shelf Go.Sort

/-- block B holds the table of a slot -/
def BoxAt (w : World) (B : Nat) (x : Slot) : Prop := w.heap[B]? = some (.cells #[.int .i64 (x.T.seen 0 : Int), .int .i64 (x.T.seen 1 : Int), .int .i64 (x.T.seen 2 : Int), .int .i64 (x.T.seen 3 : Int), .int .i64 (x.T.seen 4 : Int), .int .i64 (x.T.seen 5 : Int), .int .i64 (x.T.seen 6 : Int), .int .i64 (x.T.seen 7 : Int), .slice x.ao x.n x.c] 34 (0, 0))
theorem BoxAt.keep {w w' : World} {B : Nat} {x : Slot} (h : BoxAt w B x) (hb : Below w.heap.size w w') : BoxAt w' B x := row_keep hb h
theorem tabs_one (w : World) (g : Nat) (hg : w.heap[g]? = some (.cells #[.int .i64 0, .int .i64 0, .int .i64 0, .int .i64 0, .int .i64 0, .int .i64 0, .int .i64 0, .int .i64 0, .slice none 0 0] 34 (0, 0))) (base : Nat) (hb : base ≤ g) : Tabs w base 0 g 1 1 [⟨Tab.none, none, 0, 0⟩] :=
  ⟨rfl, Nat.le_refl _, ⟨rfl, .inr ⟨g, 1, _, rfl, hb, hg, Nat.le_refl _, by unfold maxLen; omega, rfl, rfl⟩⟩, fun x hx => by
    rw [List.mem_singleton] at hx
    subst hx
    exact Held.none w⟩

/-- Put, whatever it is given -/
theorem putCase {W : World} {m : Nat} {T : Tab} {ao : Option Addr} {n : Nat} (c : Nat) (h : Held W m T ao n) (hm : m ≤ 40000) (site : Int) (k v : ByteArray) :
    ∃ er : Int, ∀ w, Below W.heap.size W w → Calls Try.prog 23 #[.agg #[.int .i64 (T.seen 0 : Int), .int .i64 (T.seen 1 : Int), .int .i64 (T.seen 2 : Int), .int .i64 (T.seen 3 : Int), .int .i64 (T.seen 4 : Int), .int .i64 (T.seen 5 : Int), .int .i64 (T.seen 6 : Int), .int .i64 (T.seen 7 : Int), .slice ao n c], .int .i64 site, .string k, .string v] w fun e w' => ∃ T4 a4 n4 c4, e = .returned (.tuple #[.agg #[.int .i64 (T4.seen 0 : Int), .int .i64 (T4.seen 1 : Int), .int .i64 (T4.seen 2 : Int), .int .i64 (T4.seen 3 : Int), .int .i64 (T4.seen 4 : Int), .int .i64 (T4.seen 5 : Int), .int .i64 (T4.seen 6 : Int), .int .i64 (T4.seen 7 : Int), .slice a4 n4 c4], .int .i64 er]) ∧ Held w' (m + 1) T4 a4 n4 ∧ Below w.heap.size w w' := by
  have err : ∀ er : Int, (∀ w, Below W.heap.size W w → Calls Try.prog 23 #[.agg #[.int .i64 (T.seen 0 : Int), .int .i64 (T.seen 1 : Int), .int .i64 (T.seen 2 : Int), .int .i64 (T.seen 3 : Int), .int .i64 (T.seen 4 : Int), .int .i64 (T.seen 5 : Int), .int .i64 (T.seen 6 : Int), .int .i64 (T.seen 7 : Int), .slice ao n c], .int .i64 site, .string k, .string v] w fun e w' => e = .returned (.tuple #[zeroT, .int .i64 er]) ∧ Below w.heap.size w w') → ∀ w, Below W.heap.size W w → Calls Try.prog 23 #[.agg #[.int .i64 (T.seen 0 : Int), .int .i64 (T.seen 1 : Int), .int .i64 (T.seen 2 : Int), .int .i64 (T.seen 3 : Int), .int .i64 (T.seen 4 : Int), .int .i64 (T.seen 5 : Int), .int .i64 (T.seen 6 : Int), .int .i64 (T.seen 7 : Int), .slice ao n c], .int .i64 site, .string k, .string v] w fun e w' => ∃ T4 a4 n4 c4, e = .returned (.tuple #[.agg #[.int .i64 (T4.seen 0 : Int), .int .i64 (T4.seen 1 : Int), .int .i64 (T4.seen 2 : Int), .int .i64 (T4.seen 3 : Int), .int .i64 (T4.seen 4 : Int), .int .i64 (T4.seen 5 : Int), .int .i64 (T4.seen 6 : Int), .int .i64 (T4.seen 7 : Int), .slice a4 n4 c4], .int .i64 er]) ∧ Held w' (m + 1) T4 a4 n4 ∧ Below w.heap.size w w' := fun er hw w hb =>
    (hw w hb).mono fun e w' ⟨he, hb'⟩ => ⟨Tab.none, none, 0, 0, he, (Held.none w').more (Nat.zero_le _), hb'⟩
  by_cases hs : site < 0 ∨ 8 ≤ site
  · exact ⟨80, err 80 fun w _ => put_site T.seen ao n c site k v w hs⟩
  · by_cases hk : (1 ≤ k.size ∧ k.size ≤ 64) ∧ v.size ≤ 64
    · obtain ⟨i, rfl⟩ := Int.eq_ofNat_of_zero_le (show 0 ≤ site by omega)
      have hi : i < 8 := by omega
      cases hr : room T.L k
      · exact ⟨5, err 5 fun w hb => putA_full c (h.keep hb) hm i hi k v hk.1 hk.2 hr⟩
      · exact ⟨0, fun w hb => (putA c (h.keep hb) hm i hi k v hk.1 hk.2 hr).mono fun e w' ⟨T4, a4, n4, c4, he, _, hh, hb'⟩ => ⟨T4, a4, n4, c4, he, hh, hb'⟩⟩
    · exact ⟨2, err 2 fun w _ => put_arg T.seen ao n c site k v w (by omega) hk⟩
theorem box_new {W w : World} {m : Nat} {T : Tab} {ao : Option Addr} {n c : Nat} {ty : TypeId} (hb : Below W.heap.size W w) (h : Held w m T ao n) : (w.alloc (.cells #[.int .i64 ((Slot.mk T ao n c).T.seen 0 : Int), .int .i64 ((Slot.mk T ao n c).T.seen 1 : Int), .int .i64 ((Slot.mk T ao n c).T.seen 2 : Int), .int .i64 ((Slot.mk T ao n c).T.seen 3 : Int), .int .i64 ((Slot.mk T ao n c).T.seen 4 : Int), .int .i64 ((Slot.mk T ao n c).T.seen 5 : Int), .int .i64 ((Slot.mk T ao n c).T.seen 6 : Int), .int .i64 ((Slot.mk T ao n c).T.seen 7 : Int), .slice (Slot.mk T ao n c).ao (Slot.mk T ao n c).n (Slot.mk T ao n c).c] ty)).heap[w.heap.size]? = some (.cells #[.int .i64 ((Slot.mk T ao n c).T.seen 0 : Int), .int .i64 ((Slot.mk T ao n c).T.seen 1 : Int), .int .i64 ((Slot.mk T ao n c).T.seen 2 : Int), .int .i64 ((Slot.mk T ao n c).T.seen 3 : Int), .int .i64 ((Slot.mk T ao n c).T.seen 4 : Int), .int .i64 ((Slot.mk T ao n c).T.seen 5 : Int), .int .i64 ((Slot.mk T ao n c).T.seen 6 : Int), .int .i64 ((Slot.mk T ao n c).T.seen 7 : Int), .slice (Slot.mk T ao n c).ao (Slot.mk T ao n c).n (Slot.mk T ao n c).c] ty (0, 0)) ∧ Held (w.alloc (.cells #[.int .i64 ((Slot.mk T ao n c).T.seen 0 : Int), .int .i64 ((Slot.mk T ao n c).T.seen 1 : Int), .int .i64 ((Slot.mk T ao n c).T.seen 2 : Int), .int .i64 ((Slot.mk T ao n c).T.seen 3 : Int), .int .i64 ((Slot.mk T ao n c).T.seen 4 : Int), .int .i64 ((Slot.mk T ao n c).T.seen 5 : Int), .int .i64 ((Slot.mk T ao n c).T.seen 6 : Int), .int .i64 ((Slot.mk T ao n c).T.seen 7 : Int), .slice (Slot.mk T ao n c).ao (Slot.mk T ao n c).n (Slot.mk T ao n c).c] ty)) m T ao n ∧ Below W.heap.size W (w.alloc (.cells #[.int .i64 ((Slot.mk T ao n c).T.seen 0 : Int), .int .i64 ((Slot.mk T ao n c).T.seen 1 : Int), .int .i64 ((Slot.mk T ao n c).T.seen 2 : Int), .int .i64 ((Slot.mk T ao n c).T.seen 3 : Int), .int .i64 ((Slot.mk T ao n c).T.seen 4 : Int), .int .i64 ((Slot.mk T ao n c).T.seen 5 : Int), .int .i64 ((Slot.mk T ao n c).T.seen 6 : Int), .int .i64 ((Slot.mk T ao n c).T.seen 7 : Int), .slice (Slot.mk T ao n c).ao (Slot.mk T ao n c).n (Slot.mk T ao n c).c] ty)) :=
  ⟨heap_alloc_new _ _, h.keep (box_below _ _), below_then hb (box_below _ _)⟩
theorem held_set9 {w : World} {m D : Nat} {T : Tab} {ao : Option Addr} {n : Nat} {ty : TypeId} {x0 x1 x2 x3 x4 x5 x6 x7 x8 : Value} (h : Held w m T ao n) (hD : w.heap[D]? = some (.cells #[.int .i64 0, .int .i64 0, .int .i64 0, .int .i64 0, .int .i64 0, .int .i64 0, .int .i64 0, .int .i64 0, .slice none 0 0] ty (0, 0))) : Held (((((((((w.setCell ⟨D, 0, none⟩ x0).setCell ⟨D, 1, none⟩ x1).setCell ⟨D, 2, none⟩ x2).setCell ⟨D, 3, none⟩ x3).setCell ⟨D, 4, none⟩ x4).setCell ⟨D, 5, none⟩ x5).setCell ⟨D, 6, none⟩ x6).setCell ⟨D, 7, none⟩ x7).setCell ⟨D, 8, none⟩ x8) m T ao n :=
  ⟨El.only h.el (cell_nine hD).1 (fun b o hb => cell_set9 _ _ _ _ _ _ _ _ _ _ _ _ _ hb) (by simp), h.ok⟩
theorem boxNew {W w : World} {m : Nat} (T : Tab) (ao : Option Addr) (n c : Nat) (hb : Below W.heap.size W w) (h : Held w m T ao n) : BoxAt (w.alloc (.cells #[.int .i64 (T.seen 0 : Int), .int .i64 (T.seen 1 : Int), .int .i64 (T.seen 2 : Int), .int .i64 (T.seen 3 : Int), .int .i64 (T.seen 4 : Int), .int .i64 (T.seen 5 : Int), .int .i64 (T.seen 6 : Int), .int .i64 (T.seen 7 : Int), .slice ao n c] 34)) w.heap.size ⟨T, ao, n, c⟩ ∧ Held (w.alloc (.cells #[.int .i64 (T.seen 0 : Int), .int .i64 (T.seen 1 : Int), .int .i64 (T.seen 2 : Int), .int .i64 (T.seen 3 : Int), .int .i64 (T.seen 4 : Int), .int .i64 (T.seen 5 : Int), .int .i64 (T.seen 6 : Int), .int .i64 (T.seen 7 : Int), .slice ao n c] 34)) m T ao n ∧ Below W.heap.size W (w.alloc (.cells #[.int .i64 (T.seen 0 : Int), .int .i64 (T.seen 1 : Int), .int .i64 (T.seen 2 : Int), .int .i64 (T.seen 3 : Int), .int .i64 (T.seen 4 : Int), .int .i64 (T.seen 5 : Int), .int .i64 (T.seen 6 : Int), .int .i64 (T.seen 7 : Int), .slice ao n c] 34)) :=
  ⟨heap_alloc_new _ _, h.keep (box_below _ _), below_then hb (box_below _ _)⟩
theorem boxSet {W w : World} {m : Nat} (T : Tab) (ao : Option Addr) (n c D : Nat) (hb : Below W.heap.size W w) (h : Held w m T ao n) (hr : w.heap[D]? = some (.cells #[.int .i64 0, .int .i64 0, .int .i64 0, .int .i64 0, .int .i64 0, .int .i64 0, .int .i64 0, .int .i64 0, .slice none 0 0] 34 (0, 0))) (hD : W.heap.size ≤ D) : BoxAt (((((((((w.setCell ⟨D, 0, none⟩ (.int .i64 (T.seen 0 : Int))).setCell ⟨D, 1, none⟩ (.int .i64 (T.seen 1 : Int))).setCell ⟨D, 2, none⟩ (.int .i64 (T.seen 2 : Int))).setCell ⟨D, 3, none⟩ (.int .i64 (T.seen 3 : Int))).setCell ⟨D, 4, none⟩ (.int .i64 (T.seen 4 : Int))).setCell ⟨D, 5, none⟩ (.int .i64 (T.seen 5 : Int))).setCell ⟨D, 6, none⟩ (.int .i64 (T.seen 6 : Int))).setCell ⟨D, 7, none⟩ (.int .i64 (T.seen 7 : Int))).setCell ⟨D, 8, none⟩ (.slice ao n c)) D ⟨T, ao, n, c⟩ ∧ Held (((((((((w.setCell ⟨D, 0, none⟩ (.int .i64 (T.seen 0 : Int))).setCell ⟨D, 1, none⟩ (.int .i64 (T.seen 1 : Int))).setCell ⟨D, 2, none⟩ (.int .i64 (T.seen 2 : Int))).setCell ⟨D, 3, none⟩ (.int .i64 (T.seen 3 : Int))).setCell ⟨D, 4, none⟩ (.int .i64 (T.seen 4 : Int))).setCell ⟨D, 5, none⟩ (.int .i64 (T.seen 5 : Int))).setCell ⟨D, 6, none⟩ (.int .i64 (T.seen 6 : Int))).setCell ⟨D, 7, none⟩ (.int .i64 (T.seen 7 : Int))).setCell ⟨D, 8, none⟩ (.slice ao n c)) m T ao n ∧ Below W.heap.size W (((((((((w.setCell ⟨D, 0, none⟩ (.int .i64 (T.seen 0 : Int))).setCell ⟨D, 1, none⟩ (.int .i64 (T.seen 1 : Int))).setCell ⟨D, 2, none⟩ (.int .i64 (T.seen 2 : Int))).setCell ⟨D, 3, none⟩ (.int .i64 (T.seen 3 : Int))).setCell ⟨D, 4, none⟩ (.int .i64 (T.seen 4 : Int))).setCell ⟨D, 5, none⟩ (.int .i64 (T.seen 5 : Int))).setCell ⟨D, 6, none⟩ (.int .i64 (T.seen 6 : Int))).setCell ⟨D, 7, none⟩ (.int .i64 (T.seen 7 : Int))).setCell ⟨D, 8, none⟩ (.slice ao n c)) :=
  ⟨set_nine hr, held_set9 h hr, below_set9 _ _ _ _ _ _ _ _ _ hb hD⟩
theorem keep_far9 {w : World} {T b o : Nat} {v x0 x1 x2 x3 x4 x5 x6 x7 x8 : Value} (h : w.cell? ⟨b, o, none⟩ = some v) (hb : b ≠ T) : (((((((((w.setCell ⟨T, 0, none⟩ x0).setCell ⟨T, 1, none⟩ x1).setCell ⟨T, 2, none⟩ x2).setCell ⟨T, 3, none⟩ x3).setCell ⟨T, 4, none⟩ x4).setCell ⟨T, 5, none⟩ x5).setCell ⟨T, 6, none⟩ x6).setCell ⟨T, 7, none⟩ x7).setCell ⟨T, 8, none⟩ x8).cell? ⟨b, o, none⟩ = some v := (cell_set9 w T b o x0 x1 x2 x3 x4 x5 x6 x7 x8 hb).trans h
theorem two_boxes (w : World) (x y : Slot) : BoxAt ((w.alloc (.cells #[.int .i64 (x.T.seen 0 : Int), .int .i64 (x.T.seen 1 : Int), .int .i64 (x.T.seen 2 : Int), .int .i64 (x.T.seen 3 : Int), .int .i64 (x.T.seen 4 : Int), .int .i64 (x.T.seen 5 : Int), .int .i64 (x.T.seen 6 : Int), .int .i64 (x.T.seen 7 : Int), .slice x.ao x.n x.c] 34)).alloc (.cells #[.int .i64 (y.T.seen 0 : Int), .int .i64 (y.T.seen 1 : Int), .int .i64 (y.T.seen 2 : Int), .int .i64 (y.T.seen 3 : Int), .int .i64 (y.T.seen 4 : Int), .int .i64 (y.T.seen 5 : Int), .int .i64 (y.T.seen 6 : Int), .int .i64 (y.T.seen 7 : Int), .slice y.ao y.n y.c] 34)).drew w.heap.size x ∧ BoxAt ((w.alloc (.cells #[.int .i64 (x.T.seen 0 : Int), .int .i64 (x.T.seen 1 : Int), .int .i64 (x.T.seen 2 : Int), .int .i64 (x.T.seen 3 : Int), .int .i64 (x.T.seen 4 : Int), .int .i64 (x.T.seen 5 : Int), .int .i64 (x.T.seen 6 : Int), .int .i64 (x.T.seen 7 : Int), .slice x.ao x.n x.c] 34)).alloc (.cells #[.int .i64 (y.T.seen 0 : Int), .int .i64 (y.T.seen 1 : Int), .int .i64 (y.T.seen 2 : Int), .int .i64 (y.T.seen 3 : Int), .int .i64 (y.T.seen 4 : Int), .int .i64 (y.T.seen 5 : Int), .int .i64 (y.T.seen 6 : Int), .int .i64 (y.T.seen 7 : Int), .slice y.ao y.n y.c] 34)).drew (w.heap.size + 1) y ∧ Below w.heap.size w ((w.alloc (.cells #[.int .i64 (x.T.seen 0 : Int), .int .i64 (x.T.seen 1 : Int), .int .i64 (x.T.seen 2 : Int), .int .i64 (x.T.seen 3 : Int), .int .i64 (x.T.seen 4 : Int), .int .i64 (x.T.seen 5 : Int), .int .i64 (x.T.seen 6 : Int), .int .i64 (x.T.seen 7 : Int), .slice x.ao x.n x.c] 34)).alloc (.cells #[.int .i64 (y.T.seen 0 : Int), .int .i64 (y.T.seen 1 : Int), .int .i64 (y.T.seen 2 : Int), .int .i64 (y.T.seen 3 : Int), .int .i64 (y.T.seen 4 : Int), .int .i64 (y.T.seen 5 : Int), .int .i64 (y.T.seen 6 : Int), .int .i64 (y.T.seen 7 : Int), .slice y.ao y.n y.c] 34)).drew :=
  ⟨block1 w _ _, block2 w _ _, (below2 w _ _).drew⟩
theorem two_boxes' (w : World) (x y : Slot) : BoxAt ((w.alloc (.cells #[.int .i64 (y.T.seen 0 : Int), .int .i64 (y.T.seen 1 : Int), .int .i64 (y.T.seen 2 : Int), .int .i64 (y.T.seen 3 : Int), .int .i64 (y.T.seen 4 : Int), .int .i64 (y.T.seen 5 : Int), .int .i64 (y.T.seen 6 : Int), .int .i64 (y.T.seen 7 : Int), .slice y.ao y.n y.c] 34)).alloc (.cells #[.int .i64 (x.T.seen 0 : Int), .int .i64 (x.T.seen 1 : Int), .int .i64 (x.T.seen 2 : Int), .int .i64 (x.T.seen 3 : Int), .int .i64 (x.T.seen 4 : Int), .int .i64 (x.T.seen 5 : Int), .int .i64 (x.T.seen 6 : Int), .int .i64 (x.T.seen 7 : Int), .slice x.ao x.n x.c] 34)).drew (w.heap.size + 1) x ∧ BoxAt ((w.alloc (.cells #[.int .i64 (y.T.seen 0 : Int), .int .i64 (y.T.seen 1 : Int), .int .i64 (y.T.seen 2 : Int), .int .i64 (y.T.seen 3 : Int), .int .i64 (y.T.seen 4 : Int), .int .i64 (y.T.seen 5 : Int), .int .i64 (y.T.seen 6 : Int), .int .i64 (y.T.seen 7 : Int), .slice y.ao y.n y.c] 34)).alloc (.cells #[.int .i64 (x.T.seen 0 : Int), .int .i64 (x.T.seen 1 : Int), .int .i64 (x.T.seen 2 : Int), .int .i64 (x.T.seen 3 : Int), .int .i64 (x.T.seen 4 : Int), .int .i64 (x.T.seen 5 : Int), .int .i64 (x.T.seen 6 : Int), .int .i64 (x.T.seen 7 : Int), .slice x.ao x.n x.c] 34)).drew w.heap.size y ∧ Below w.heap.size w ((w.alloc (.cells #[.int .i64 (y.T.seen 0 : Int), .int .i64 (y.T.seen 1 : Int), .int .i64 (y.T.seen 2 : Int), .int .i64 (y.T.seen 3 : Int), .int .i64 (y.T.seen 4 : Int), .int .i64 (y.T.seen 5 : Int), .int .i64 (y.T.seen 6 : Int), .int .i64 (y.T.seen 7 : Int), .slice y.ao y.n y.c] 34)).alloc (.cells #[.int .i64 (x.T.seen 0 : Int), .int .i64 (x.T.seen 1 : Int), .int .i64 (x.T.seen 2 : Int), .int .i64 (x.T.seen 3 : Int), .int .i64 (x.T.seen 4 : Int), .int .i64 (x.T.seen 5 : Int), .int .i64 (x.T.seen 6 : Int), .int .i64 (x.T.seen 7 : Int), .slice x.ao x.n x.c] 34)).drew :=
  ⟨block2 w _ _, block1 w _ _, (below2 w _ _).drew⟩

end Go.Proofs.Ytpghehckojdgeaa

/- Nets of tables: what becomes of them; that an exchange settles them. No function of the program is walked here. -/
set_option linter.unusedVariables false
set_option linter.unusedSimpArgs false
namespace Go.Proofs.Ytpghehckojdgeaa
open Go

instance : Inhabited Tab := ⟨Tab.none⟩
structure Ltr where
  frm : Nat
  rcv : Nat
  T : Tab
instance : Inhabited Ltr := ⟨⟨0, 0, Tab.none⟩⟩
structure NetS where
  T : List Tab
  M : List Ltr
structure NetS.Ok (m : Nat) (n : NetS) : Prop where
  pos : 1 ≤ n.T.length
  few : n.T.length ≤ 8
  mail : n.M.length ≤ 256
  tab : ∀ i, i < n.T.length → (n.T[i]!).Ok m
  ltr : ∀ i, i < n.M.length → (n.M[i]!).T.Ok m ∧ (n.M[i]!).frm < n.T.length ∧ (n.M[i]!).rcv < n.T.length
theorem NetS.Ok.more {m q : Nat} {n : NetS} (h : n.Ok m) (hq : m ≤ q) : n.Ok q := ⟨h.pos, h.few, h.mail, fun i hi => (h.tab i hi).more hq, fun i hi => ⟨(h.ltr i hi).1.more hq, (h.ltr i hi).2⟩⟩

/-- a table in place of another one -/
def NetS.setT (n : NetS) (i : Nat) (t : Tab) : NetS := ⟨n.T.set i t, n.M⟩
theorem set_at {α : Type} [Inhabited α] {l : List α} {i j : Nat} {x : α} (hj : j < l.length) : (l.set i x)[j]! = if i = j then x else l[j]! := by
  rw [getElem!_pos _ j (by simpa using hj), getElem!_pos l j hj, List.getElem_set]
theorem NetS.setT_len (n : NetS) (i : Nat) (t : Tab) : (n.setT i t).T.length = n.T.length := by simp [NetS.setT]
theorem NetS.setT_at {n : NetS} {i j : Nat} {t : Tab} (hj : j < n.T.length) : (n.setT i t).T[j]! = if i = j then t else n.T[j]! := set_at hj
theorem NetS.Ok.setT {m : Nat} {n : NetS} (h : n.Ok m) (i : Nat) {t : Tab} (ht : t.Ok m) : (n.setT i t).Ok m := by
  refine ⟨by rw [NetS.setT_len]; exact h.pos, by rw [NetS.setT_len]; exact h.few, h.mail, fun j hj => ?_, fun j hj => ?_⟩
  · rw [NetS.setT_len] at hj
    rw [NetS.setT_at hj]
    split
    · exact ht
    · exact h.tab j hj
  · rw [NetS.setT_len]; exact h.ltr j hj
def NetS.mailTo (n : NetS) (x : Ltr) : NetS := ⟨n.T, n.M ++ [x]⟩
def NetS.drop (n : NetS) (i : Nat) : NetS := ⟨n.T, n.M.eraseIdx i⟩
theorem app_at {α : Type} [Inhabited α] {l : List α} {x : α} {j : Nat} (hj : j < (l ++ [x]).length) : (l ++ [x])[j]! = if j < l.length then l[j]! else x := by
  rw [getElem!_pos _ j hj]
  split
  · rename_i h
    rw [List.getElem_append_left h, getElem!_pos l j h]
  · rename_i h
    rw [List.getElem_append_right (by omega)]
    simp
theorem NetS.Ok.mailTo {m : Nat} {n : NetS} (h : n.Ok m) {x : Ltr} (hx : x.T.Ok m) (h1 : x.frm < n.T.length) (h2 : x.rcv < n.T.length) (hl : n.M.length < 256) : (n.mailTo x).Ok m := by
  refine ⟨h.pos, h.few, ?_, h.tab, fun j hj => ?_⟩
  · show (n.M ++ [x]).length ≤ 256
    rw [List.length_append]; simp; omega
  · show ((n.M ++ [x])[j]!).T.Ok m ∧ ((n.M ++ [x])[j]!).frm < n.T.length ∧ ((n.M ++ [x])[j]!).rcv < n.T.length
    rw [app_at hj]
    split
    · exact h.ltr j (by assumption)
    · exact ⟨hx, h1, h2⟩
theorem mem_at {α : Type} [Inhabited α] {l : List α} {i : Nat} (hi : i < l.length) : l[i]! ∈ l := by rw [getElem!_pos l i hi]; exact List.getElem_mem hi
theorem at_mem {α : Type} [Inhabited α] {l : List α} {x : α} (h : x ∈ l) : ∃ i, i < l.length ∧ l[i]! = x := by
  obtain ⟨i, hi, e⟩ := List.getElem_of_mem h
  exact ⟨i, hi, by rw [getElem!_pos l i hi, e]⟩
theorem NetS.Ok.drop {m : Nat} {n : NetS} (h : n.Ok m) (i : Nat) : (n.drop i).Ok m := by
  refine ⟨h.pos, h.few, Nat.le_trans (List.length_eraseIdx_le _ _) h.mail, h.tab, fun j hj => ?_⟩
  obtain ⟨k, hk, e⟩ := at_mem (List.mem_of_mem_eraseIdx (mem_at hj))
  show ((n.M.eraseIdx i)[j]!).T.Ok m ∧ ((n.M.eraseIdx i)[j]!).frm < n.T.length ∧ ((n.M.eraseIdx i)[j]!).rcv < n.T.length
  rw [← e]
  exact h.ltr k hk

/-- no site knows less than before -/
structure NetS.Up (n n' : NetS) : Prop where
  len : n'.T.length = n.T.length
  cov : ∀ i, i < n.T.length → Cov (n'.T[i]!) (n.T[i]!)
theorem NetS.Up.refl {m : Nat} {n : NetS} (h : n.Ok m) : n.Up n := ⟨rfl, fun i hi => cov_refl (h.tab i hi)⟩
theorem NetS.Up.trans {m : Nat} {a b c : NetS} (ha : a.Ok m) (hb : b.Ok m) (hc : c.Ok m) (h1 : a.Up b) (h2 : b.Up c) : a.Up c :=
  ⟨h2.len.trans h1.len, fun i hi => cov_trans (hc.tab i (by rw [h2.len, h1.len]; exact hi)) (hb.tab i (by rw [h1.len]; exact hi)) (ha.tab i hi) (h2.cov i (by rw [h1.len]; exact hi)) (h1.cov i hi)⟩
theorem NetS.Up.setT {m q : Nat} {n : NetS} (h : n.Ok m) (i : Nat) {t : Tab} (hi : i < n.T.length) (hc : Cov t (n.T[i]!)) : n.Up (n.setT i t) := by
  refine ⟨NetS.setT_len _ _ _, fun j hj => ?_⟩
  rw [NetS.setT_at hj]
  split
  · rename_i e; subst e; exact hc
  · exact cov_refl (h.tab j hj)
theorem NetS.Up.same {m : Nat} {n n' : NetS} (h : n.Ok m) (e : n'.T = n.T) : n.Up n' := ⟨by rw [e], fun i hi => by rw [e]; exact cov_refl (h.tab i hi)⟩

/-- a letter that is sent and delivered at once -/
noncomputable def NetS.exch (n : NetS) (a b : Nat) : NetS := n.setT b (merT (n.T[b]!) (n.T[a]!))
theorem NetS.Ok.exch {m : Nat} {n : NetS} (h : n.Ok m) {a b : Nat} (ha : a < n.T.length) (hb : b < n.T.length) : (n.exch a b).Ok m := h.setT b (mer_ok (h.tab b hb) (h.tab a ha) (Nat.le_refl _) (Nat.le_refl _))

/-- the first round: the hub h has what it had at first, and what the first k sites have; the others are as they were -/
structure First (n0 n : NetS) (h k : Nat) : Prop where
  len : n.T.length = n0.T.length
  oth : ∀ i, i < n0.T.length → i ≠ h → n.T[i]! = n0.T[i]!
  hub : Cov (n.T[h]!) (n0.T[h]!)
  fst : ∀ i, i < k → i < n0.T.length → Cov (n.T[h]!) (n0.T[i]!)
theorem First.start {m : Nat} {n : NetS} (ho : n.Ok m) {h : Nat} (hh : h < n.T.length) : First n n h 0 := ⟨rfl, fun _ _ _ => rfl, cov_refl (ho.tab h hh), fun i hi => by omega⟩
theorem First.step {m : Nat} {n0 n : NetS} (ho : n.Ok m) (h0 : n0.Ok m) {h k : Nat} (hh : h < n0.T.length) (hk : k < n0.T.length) (hf : First n0 n h k) : First n0 (n.exch k h) h (k + 1) := by
  have hh' : h < n.T.length := by rw [hf.len]; exact hh
  have hk' : k < n.T.length := by rw [hf.len]; exact hk
  have e : (n.exch k h).T[h]! = merT (n.T[h]!) (n.T[k]!) := by unfold NetS.exch; rw [NetS.setT_at hh', if_pos rfl]
  have oh := ho.tab h hh'
  have ok := ho.tab k hk'
  have om := mer_ok oh ok (Nat.le_refl _) (Nat.le_refl _)
  have c1 : Cov (merT (n.T[h]!) (n.T[k]!)) (n.T[h]!) := cov_left oh ok
  have c2 : Cov (merT (n.T[h]!) (n.T[k]!)) (n.T[k]!) := cov_right oh ok
  refine ⟨by unfold NetS.exch; rw [NetS.setT_len]; exact hf.len, fun i hi hne => ?_, ?_, fun i hi hl => ?_⟩
  · unfold NetS.exch
    rw [NetS.setT_at (by rw [hf.len]; exact hi), if_neg (Ne.symm hne)]
    exact hf.oth i hi hne
  · rw [e]; exact cov_trans om oh (h0.tab h hh) c1 hf.hub
  · rw [e]
    by_cases hik : i = k
    · subst hik
      by_cases hih : i = h
      · subst hih; exact cov_trans om oh (h0.tab i hh) c1 hf.hub
      · rw [← hf.oth i hl hih]; exact c2
    · exact cov_trans om oh (h0.tab i hl) c1 (hf.fst i (by omega) hl)
/-- the second round: the first k sites have the hub's table t, the hub has it, and t covers all the others' -/
structure Second (n : NetS) (t : Tab) (h k : Nat) : Prop where
  hub : n.T[h]! = t
  cov : ∀ i, i < n.T.length → Cov t (n.T[i]!)
  fst : ∀ i, i < k → i < n.T.length → n.T[i]! = t
theorem First.second {m : Nat} {n0 n : NetS} (ho : n.Ok m) {h : Nat} (hh : h < n0.T.length) (hf : First n0 n h n0.T.length) : Second n (n.T[h]!) h 0 := by
  refine ⟨rfl, fun i hi => ?_, fun i hi => by omega⟩
  rw [hf.len] at hi
  by_cases e : i = h
  · subst e; exact cov_refl (ho.tab i (by rw [hf.len]; exact hi))
  · rw [hf.oth i hi e]; exact hf.fst i hi hi
theorem Second.step {m : Nat} {n : NetS} {t : Tab} (ho : n.Ok m) {h k : Nat} (hh : h < n.T.length) (hk : k < n.T.length) (hs : Second n t h k) : Second (n.exch h k) t h (k + 1) := by
  have e : merT (n.T[k]!) (n.T[h]!) = t := by
    have ht : t.Ok m := by rw [← hs.hub]; exact ho.tab h hh
    rw [hs.hub, mer_comm (ho.tab k hk) ht]
    exact hs.cov k hk
  have a : ∀ i, i < n.T.length → (n.exch h k).T[i]! = if k = i then t else n.T[i]! := fun i hi => by
    unfold NetS.exch
    rw [NetS.setT_at hi, e]
  have hl : (n.exch h k).T.length = n.T.length := by unfold NetS.exch; rw [NetS.setT_len]
  have ht : t.Ok m := by rw [← hs.hub]; exact ho.tab h hh
  refine ⟨?_, fun i hi => ?_, fun i hi hil => ?_⟩
  · rw [a h hh]; split
    · rfl
    · exact hs.hub
  · rw [hl] at hi; rw [a i hi]; split
    · exact cov_refl ht
    · exact hs.cov i hi
  · rw [hl] at hil; rw [a i hil]; split
    · rfl
    · exact hs.fst i (by omega) hil
theorem Second.all {n : NetS} {t : Tab} {h : Nat} (hs : Second n t h n.T.length) : ∀ i, i < n.T.length → n.T[i]! = t := fun i hi => hs.fst i hi hi
end Go.Proofs.Ytpghehckojdgeaa

/- Nets in memory. No function of the program is walked here. (By gen_nmem.py.) -/
set_option linter.unusedVariables false
set_option linter.unusedSimpArgs false
namespace Go.Proofs.Ytpghehckojdgeaa
open Go.RowKit Go.Shelf Go.Sort

/-- the old blocks that are not in G lie as they lay -/
structure Frm (G : Nat → Prop) (w w' : World) : Prop where
  os : w'.os = w.os
  tape : w'.tape = w.tape
  output : w'.output = w.output
  size : w.heap.size ≤ w'.heap.size
  block : ∀ k, k < w.heap.size → ¬ G k → w'.heap[k]? = w.heap[k]?
theorem Frm.of_below {G : Nat → Prop} {w w' : World} (h : Below w.heap.size w w') : Frm G w w' := ⟨h.os, h.tape, h.output, h.size, fun k hk _ => h.block k hk⟩
theorem Frm.below {G : Nat → Prop} {w w' : World} {B : Nat} (h : Frm G w w') (hB : B ≤ w.heap.size) (hG : ∀ k, k < B → ¬ G k) : Below B w w' := ⟨h.os, h.tape, h.output, h.size, fun k hk => h.block k (by omega) (hG k hk)⟩
theorem Frm.trans {G G' : Nat → Prop} {a b c : World} (h : Frm G a b) (k : Frm G' b c) (hg : ∀ j, j < a.heap.size → G' j → G j) : Frm G a c :=
  ⟨k.os.trans h.os, k.tape.trans h.tape, k.output.trans h.output, Nat.le_trans h.size k.size, fun i hi hn => (k.block i (Nat.lt_of_lt_of_le hi h.size) (fun e => hn (hg i hi e))).trans (h.block i hi hn)⟩
theorem Frm.then_below {G : Nat → Prop} {a b c : World} (h : Frm G a b) (k : Below b.heap.size b c) : Frm G a c := h.trans (Frm.of_below (G := G) k) (fun _ _ e => e)
theorem Frm.setCell {G : Nat → Prop} {a w : World} (h : Frm G a w) {p : Addr} (hp : G p.block ∨ a.heap.size ≤ p.block) (u : Value) : Frm G a (w.setCell p u) :=
  ⟨h.os, h.tape, h.output, by simpa using h.size, fun k hk hn => (Below.heap_setCell _ _ _ _ (fun e => by
    rcases hp with hp | hp
    · exact hn (e ▸ hp)
    · omega)).trans (h.block k hk hn)⟩
theorem Frm.cell {G : Nat → Prop} {w w' : World} (h : Frm G w w') {b o : Nat} {v : Value} (hc : w.cell? ⟨b, o, none⟩ = some v) (hb : ¬ G b) : w'.cell? ⟨b, o, none⟩ = some v :=
  (World.cell?_of_block (a := ⟨b, o, none⟩) (h.block b (block_lt_of_cell hc) hb)).trans hc
theorem Frm.row {G : Nat → Prop} {w w' : World} {b : Nat} {o : Obj} (h : Frm G w w') (hc : w.heap[b]? = some o) (hb : ¬ G b) : w'.heap[b]? = some o :=
  (h.block b (Array.getElem?_eq_some_iff.1 hc).1 hb).trans hc

/-- no block of G begins with a string -/
def NoStr (w : World) (G : Nat → Prop) : Prop := ∀ j, j < w.heap.size → G j → ∃ v, w.cell? ⟨j, 0, none⟩ = some v ∧ ∀ s, v ≠ .string s
theorem RowE.frm {G : Nat → Prop} {w w' : World} {g : Nat} {xs : List Ent} (h : RowE w g xs) (hf : Frm G w w') (hn : NoStr w G) : RowE w' g xs := by
  refine ⟨Nat.lt_of_lt_of_le h.1 hf.size, fun i hi => ?_⟩
  have hg : ¬ G g := fun e => by
    obtain ⟨v, hv, hs⟩ := hn g h.1 e
    have := (h.2 0 (by omega)).1
    rw [Nat.zero_mul, hv] at this
    exact hs _ (Option.some.inj this)
  obtain ⟨a, b, c, d⟩ := h.2 i hi
  exact ⟨hf.cell a hg, hf.cell b hg, hf.cell c hg, hf.cell d hg⟩
theorem El.frm {G : Nat → Prop} {w w' : World} {ao : Option Addr} {n : Nat} {xs : List Ent} (h : El w ao n xs) (hf : Frm G w w') (hn : NoStr w G) : El w' ao n xs := by
  obtain ⟨h1, h2⟩ := h
  refine ⟨h1, ?_⟩
  rcases h2 with h2 | ⟨g, h2, h3⟩
  · exact .inl h2
  · exact .inr ⟨g, h2, h3.frm hf hn⟩
theorem Held.frm {G : Nat → Prop} {w w' : World} {m : Nat} {T : Tab} {ao : Option Addr} {n : Nat} (h : Held w m T ao n) (hf : Frm G w w') (hn : NoStr w G) : Held w' m T ao n := ⟨h.el.frm hf hn, h.ok⟩

/-! ### letters -/
structure LSlot where
  frm : Nat
  rcv : Nat
  S : Slot
instance : Inhabited LSlot := ⟨⟨0, 0, default⟩⟩
def lslotC (x : LSlot) : List Value := .int .i64 (x.frm : Int) :: .int .i64 (x.rcv : Int) :: slotC x.S
def flatM (l : List LSlot) : List Value := l.flatMap lslotC
theorem lslotC_len (x : LSlot) : (lslotC x).length = 11 := rfl
theorem flatM_len : ∀ l : List LSlot, (flatM l).length = l.length * 11
  | [] => rfl
  | x :: l => by
    have := flatM_len l
    unfold flatM at *
    rw [List.flatMap_cons, List.length_append, this, lslotC_len, List.length_cons]; omega
theorem flatM_get : ∀ (l : List LSlot) (i c : Nat), c < 11 → (flatM l)[i * 11 + c]? = (l[i]?).bind fun x => (lslotC x)[c]?
  | [], i, c, _ => by simp [flatM]
  | x :: l, 0, c, hc => by
    unfold flatM
    rw [List.flatMap_cons, Nat.zero_mul, Nat.zero_add, List.getElem?_append_left (by rw [lslotC_len]; exact hc)]
    rfl
  | x :: l, i + 1, c, hc => by
    have := flatM_get l i c hc
    unfold flatM at *
    rw [List.flatMap_cons, List.getElem?_append_right (by rw [lslotC_len]; omega), List.getElem?_cons_succ, ← this]
    congr 1
    rw [lslotC_len]; omega
theorem flatM_app (l k : List LSlot) : flatM (l ++ k) = flatM l ++ flatM k := by unfold flatM; simp
theorem lslotC_one (x : LSlot) : ∀ u ∈ lslotC x, u.oneCell' = true := by
  intro u hu
  simp only [lslotC, List.mem_cons] at hu
  rcases hu with rfl | rfl | hu
  · rfl
  · rfl
  · exact slotC_one x.S u hu
theorem flatM_one (l : List LSlot) : ∀ u ∈ flatM l, u.oneCell' = true := by
  intro u hu
  unfold flatM at hu
  obtain ⟨x, _, h⟩ := List.mem_flatMap.1 hu
  exact lslotC_one x u h
theorem flatT_one (l : List Slot) : ∀ u ∈ flatT l, u.oneCell' = true := by
  intro u hu
  unfold flatT at hu
  obtain ⟨x, _, h⟩ := List.mem_flatMap.1 hu
  exact slotC_one x u h
def LSlotAt (w : World) (g o : Nat) (x : LSlot) : Prop := w.cell? ⟨g, o, none⟩ = some (.int .i64 (x.frm : Int)) ∧ w.cell? ⟨g, o + 1, none⟩ = some (.int .i64 (x.rcv : Int)) ∧ w.cell? ⟨g, o + 2, none⟩ = some (.int .i64 (x.S.T.seen 0 : Int)) ∧ w.cell? ⟨g, o + 3, none⟩ = some (.int .i64 (x.S.T.seen 1 : Int)) ∧ w.cell? ⟨g, o + 4, none⟩ = some (.int .i64 (x.S.T.seen 2 : Int)) ∧ w.cell? ⟨g, o + 5, none⟩ = some (.int .i64 (x.S.T.seen 3 : Int)) ∧ w.cell? ⟨g, o + 6, none⟩ = some (.int .i64 (x.S.T.seen 4 : Int)) ∧ w.cell? ⟨g, o + 7, none⟩ = some (.int .i64 (x.S.T.seen 5 : Int)) ∧ w.cell? ⟨g, o + 8, none⟩ = some (.int .i64 (x.S.T.seen 6 : Int)) ∧ w.cell? ⟨g, o + 9, none⟩ = some (.int .i64 (x.S.T.seen 7 : Int)) ∧ w.cell? ⟨g, o + 10, none⟩ = some (.slice x.S.ao x.S.n x.S.c)

/-- the blocks of a net -/
def Foot (b g : Nat) (lo : Option Addr) (j : Nat) : Prop := j = b ∨ j = g ∨ ∃ o s, lo = some ⟨j, o, s⟩
/-- a net lies in the blocks b (its two slices), g (its tables) and that of lo (its letters) -/
structure NetR (w : World) (m b g : Nat) (lo : Option Addr) (lc : Nat) (ts : List Slot) (ms : List LSlot) : Prop where
  hd : w.heap[b]? = some (.cells #[.slice (some ⟨g, 0, none⟩) ts.length ts.length, .slice lo ms.length lc] 88 (0, 0))
  tb : w.heap[g]? = some (.cells (flatT ts).toArray 34 (0, 0))
  lt : w.ownsRow 0 114 11 (.slice lo ms.length lc) ms.length (flatM ms)
  bg : b ≠ g
  lb : ∀ o s, lo ≠ some ⟨b, o, s⟩
  lg : ∀ o s, lo ≠ some ⟨g, o, s⟩
  li : ∀ j o s, lo = some ⟨j, o, s⟩ → ∃ z, w.cell? ⟨j, 0, none⟩ = some (.int .i64 z)
  held : ∀ i, i < ts.length → Held w m ts[i]!.T ts[i]!.ao ts[i]!.n
  mail : ∀ i, i < ms.length → Held w m ms[i]!.S.T ms[i]!.S.ao ms[i]!.S.n
  idx : ∀ i, i < ms.length → ms[i]!.frm < ts.length ∧ ms[i]!.rcv < ts.length
  pos : 1 ≤ ts.length
  few : ts.length ≤ 8
  most : ms.length ≤ 256
def netOf (ts : List Slot) (ms : List LSlot) : NetS := ⟨ts.map Slot.T, ms.map fun x => ⟨x.frm, x.rcv, x.S.T⟩⟩
theorem map_at {α β : Type} [Inhabited α] [Inhabited β] (f : α → β) {l : List α} {i : Nat} (hi : i < l.length) : (l.map f)[i]! = f l[i]! := by
  rw [getElem!_pos _ i (by simpa using hi), getElem!_pos l i hi]; simp
section
variable {w w' : World} {m b g : Nat} {lo : Option Addr} {lc : Nat} {ts : List Slot} {ms : List LSlot}
theorem NetR.ok (h : NetR w m b g lo lc ts ms) : (netOf ts ms).Ok m := by
  refine ⟨by simpa [netOf] using h.pos, by simpa [netOf] using h.few, by simpa [netOf] using h.most, fun i hi => ?_, fun i hi => ?_⟩
  · simp [netOf] at hi
    show ((ts.map Slot.T)[i]!).Ok m
    rw [map_at _ hi]; exact (h.held i hi).ok
  · simp [netOf] at hi
    show ((ms.map fun x => (⟨x.frm, x.rcv, x.S.T⟩ : Ltr))[i]!).T.Ok m ∧ ((ms.map fun x => (⟨x.frm, x.rcv, x.S.T⟩ : Ltr))[i]!).frm < (ts.map Slot.T).length ∧ ((ms.map fun x => (⟨x.frm, x.rcv, x.S.T⟩ : Ltr))[i]!).rcv < (ts.map Slot.T).length
    rw [map_at _ hi, List.length_map]
    exact ⟨(h.mail i hi).ok, h.idx i hi⟩
theorem NetR.more {q : Nat} (h : NetR w m b g lo lc ts ms) (hq : m ≤ q) : NetR w q b g lo lc ts ms :=
  ⟨h.hd, h.tb, h.lt, h.bg, h.lb, h.lg, h.li, fun i hi => (h.held i hi).more hq, fun i hi => (h.mail i hi).more hq, h.idx, h.pos, h.few, h.most⟩
theorem NetR.cells (h : NetR w m b g lo lc ts ms) : w.cell? ⟨b, 0, none⟩ = some (.slice (some ⟨g, 0, none⟩) ts.length ts.length) ∧ w.cell? ⟨b, 1, none⟩ = some (.slice lo ms.length lc) := by
  refine ⟨?_, ?_⟩
  all_goals (simp only [World.cell?]; rw [h.hd]; simp; done)
theorem NetR.free (h : NetR w m b g lo lc ts ms) (o : Nat) : w.frozen? ⟨b, o, none⟩ = false ∧ w.frozen? ⟨g, o, none⟩ = false := by
  refine ⟨?_, ?_⟩
  · simp only [World.frozen?]; rw [h.hd]; simp
  · simp only [World.frozen?]; rw [h.tb]; simp
theorem NetR.lt_b (h : NetR w m b g lo lc ts ms) : b < w.heap.size := (Array.getElem?_eq_some_iff.1 h.hd).1
theorem NetR.lt_g (h : NetR w m b g lo lc ts ms) : g < w.heap.size := (Array.getElem?_eq_some_iff.1 h.tb).1
theorem NetR.cellT (h : NetR w m b g lo lc ts ms) (o : Nat) (v : Value) (hv : (flatT ts)[o]? = some v) : w.cell? ⟨g, o, none⟩ = some v := by
  simp only [World.cell?]
  rw [h.tb]
  simpa using hv
theorem NetR.tabAt (h : NetR w m b g lo lc ts ms) {i : Nat} (hi : i < ts.length) : SlotAt w g (i * 9) ts[i]! := by
  have hc : ∀ c v, c < 9 → (slotC ts[i]!)[c]? = some v → w.cell? ⟨g, i * 9 + c, none⟩ = some v := fun c v hc hv => h.cellT _ _ (by rw [flatT_get _ _ _ hc, List.getElem?_eq_getElem hi, ← getElem!_pos ts i hi]; exact hv)
  exact ⟨hc 0 _ (by omega) rfl, hc 1 _ (by omega) rfl, hc 2 _ (by omega) rfl, hc 3 _ (by omega) rfl, hc 4 _ (by omega) rfl, hc 5 _ (by omega) rfl, hc 6 _ (by omega) rfl, hc 7 _ (by omega) rfl, hc 8 _ (by omega) rfl⟩
theorem NetR.form (h : NetR w m b g lo lc ts ms) (hn : 0 < ms.length) : ∃ j, lo = some ⟨j, 0, none⟩ ∧ j < w.heap.size := by
  obtain ⟨j, cap, hv, _, hj⟩ := h.lt.form hn
  cases hv
  exact ⟨j, rfl, hj⟩
theorem NetR.ltrAt (h : NetR w m b g lo lc ts ms) {j o i : Nat} {s : Option Nat} (hj : lo = some ⟨j, o, s⟩) (hi : i < ms.length) : LSlotAt w j (i * 11) ms[i]! := by
  have hc : ∀ c v, c < 11 → (lslotC ms[i]!)[c]? = some v → w.cell? ⟨j, i * 11 + c, none⟩ = some v := fun c v hc hv => by
    have := h.lt.cells (g := j) (by rw [hj]; rfl) (i * 11 + c) v (by rw [flatM_get _ _ _ hc, List.getElem?_eq_getElem hi, ← getElem!_pos ms i hi]; exact hv)
    rwa [add_off, Nat.zero_add] at this
  exact ⟨hc 0 _ (by omega) rfl, hc 1 _ (by omega) rfl, hc 2 _ (by omega) rfl, hc 3 _ (by omega) rfl, hc 4 _ (by omega) rfl, hc 5 _ (by omega) rfl, hc 6 _ (by omega) rfl, hc 7 _ (by omega) rfl, hc 8 _ (by omega) rfl, hc 9 _ (by omega) rfl, hc 10 _ (by omega) rfl⟩
theorem NetR.noStr (h : NetR w m b g lo lc ts ms) : NoStr w (Foot b g lo) := by
  rintro j hj (rfl | rfl | ⟨o, s, rfl⟩)
  · exact ⟨_, h.cells.1, fun s e => by cases e⟩
  · have := (h.tabAt (i := 0) h.pos).1
    rw [Nat.zero_mul] at this
    exact ⟨_, this, fun s e => by cases e⟩
  · obtain ⟨z, hz⟩ := h.li _ _ _ rfl
    exact ⟨_, hz, fun s e => by cases e⟩
/-- what is written elsewhere changes no net -/
theorem NetR.far {G : Nat → Prop} (h : NetR w m b g lo lc ts ms) (hf : Frm G w w') (hn : NoStr w G) (hd : ∀ j, Foot b g lo j → ¬ G j) : NetR w' m b g lo lc ts ms := by
  refine ⟨hf.row h.hd (hd _ (.inl rfl)), hf.row h.tb (hd _ (.inr (.inl rfl))), ⟨h.lt.1, ?_⟩, h.bg, h.lb, h.lg, fun j o s e => ?_, fun i hi => (h.held i hi).frm hf hn, fun i hi => (h.mail i hi).frm hf hn, h.idx, h.pos, h.few, h.most⟩
  · rcases h.lt.2 with h2 | ⟨g', cap', cur, h3, h4, h5, h6⟩
    · exact .inl h2
    · refine .inr ⟨g', cap', cur, h3, h4, hf.row h5 (hd _ ?_), h6⟩
      cases h3
      exact .inr (.inr ⟨0, none, rfl⟩)
  · obtain ⟨z, hz⟩ := h.li j o s e
    exact ⟨z, hf.cell hz (hd _ (.inr (.inr ⟨o, s, e⟩)))⟩
theorem NetR.keep (h : NetR w m b g lo lc ts ms) (hb : Below w.heap.size w w') : NetR w' m b g lo lc ts ms :=
  h.far (G := fun _ => False) (Frm.of_below hb) (fun _ _ e => e.elim) (fun _ _ e => e.elim)
end
end Go.Proofs.Ytpghehckojdgeaa
