/- Part 8 of the contracts: NDeeds, NPerform, NSi, NMeansM, NAt. -/
import Derived.IntWalk
import Derived.Test.YtkpjckabdmmiaaaPart7

/- Lists of deeds; the law's brief. (By gen_ndeeds.py.) -/
set_option linter.unusedVariables false
set_option linter.unusedSimpArgs false
namespace Go.Proofs.Ytkpjckabdmmiaaa
open Go.RowKit Go.Shelf Go.Sort

open Go.ChangeShapes Go.WideShapes Go.Joins Go.Deep
structure DeedD where
  kind : Nat
  a : Int
  b : Int
  key : ByteArray
  val : ByteArray
instance : Inhabited DeedD := ⟨⟨0, 0, 0, ByteArray.empty, ByteArray.empty⟩⟩
def DeedD.fine (x : DeedD) : Prop := x.kind ≤ 255 ∧ InWord x.a ∧ InWord x.b
/-- the five cells of a deed -/
def DeedAt (w : World) (g o : Nat) (x : DeedD) : Prop :=
  w.cell? ⟨g, o, none⟩ = some (.int .u8 (x.kind : Int)) ∧ w.cell? ⟨g, o + 1, none⟩ = some (.int .i64 x.a) ∧ w.cell? ⟨g, o + 2, none⟩ = some (.int .i64 x.b) ∧ w.cell? ⟨g, o + 3, none⟩ = some (.string x.key) ∧ w.cell? ⟨g, o + 4, none⟩ = some (.string x.val)
theorem DeedAt.keep {w w' : World} {g o B : Nat} {x : DeedD} (h : DeedAt w g o x) (hb : Below B w w') (hg : g < B) : DeedAt w' g o x := by
  obtain ⟨a, b, c, d, e⟩ := h
  refine ⟨?_, ?_, ?_, ?_, ?_⟩
  · rw [hb.cell (p := ⟨g, o, none⟩) hg]; exact a
  · rw [hb.cell (p := ⟨g, o + 1, none⟩) hg]; exact b
  · rw [hb.cell (p := ⟨g, o + 2, none⟩) hg]; exact c
  · rw [hb.cell (p := ⟨g, o + 3, none⟩) hg]; exact d
  · rw [hb.cell (p := ⟨g, o + 4, none⟩) hg]; exact e
/-- a slice of deeds -/
def Deeds (w : World) (ao : Option Addr) (len : Nat) (xs : List DeedD) : Prop :=
  xs.length = len ∧ (∀ x ∈ xs, x.fine) ∧ ∃ g o, (0 < len → ao = some ⟨g, o, none⟩) ∧ ∀ i, i < len → DeedAt w g (o + i * 5) xs[i]!
theorem Deeds.at {w : World} {ao : Option Addr} {len : Nat} {xs : List DeedD} (h : Deeds w ao len xs) {i : Nat} (hi : i < len) : ∃ g o, ao = some ⟨g, o, none⟩ ∧ DeedAt w g (o + i * 5) xs[i]! ∧ xs[i]!.fine ∧ g < w.heap.size := by
  obtain ⟨h1, h0, g, o, h2, h3⟩ := h
  exact ⟨g, o, h2 (by omega), h3 i hi, h0 _ (by rw [getElem!_pos xs i (by omega)]; exact List.getElem_mem _), block_lt_of_cell (h3 i hi).1⟩
/-- what is written into later blocks changes no deed -/
theorem Deeds.keep {w w' : World} {ao : Option Addr} {len : Nat} {xs : List DeedD} (h : Deeds w ao len xs) (hb : Below w.heap.size w w') : Deeds w' ao len xs := by
  obtain ⟨h1, h0, g, o, h2, h3⟩ := h
  exact ⟨h1, h0, g, o, h2, fun i hi => (h3 i hi).keep hb (block_lt_of_cell (h3 i hi).1)⟩

set_option maxRecDepth 100000 in
theorem open_deeds {H : Type} {enc : TypeId × Value → H} {W : World} {v : Value} {d : DataW H} {p : List MemPlace} {base : Nat}
    (hv : Value.okWide Try.prog W .any base 45 v) (h : DataW.Trod enc Try.prog W 0 (fun _ => true) true 45 v d p) :
    ∃ ao la ca xs, v = .slice ao la ca ∧ Deeds W ao la xs ∧ la ≤ 9223372036854775807 := by
  obtain ⟨ao, la, ca, rfl⟩ := okWide_slice Try.underlying45 hv
  obtain ⟨fuel, hf⟩ := h
  have hC : Try.prog.cellsOf 60 = 5 := by kernel_rfl
  rcases Go.Deep.open_slice Try.underlying45 hf with ⟨e1, _⟩ | ⟨a, len, cap, m, n, D, Pl, e1, _, hlc, hcm, hm, _, hi⟩
  · simp [Value.cells] at e1
    obtain ⟨rfl, rfl, rfl⟩ := e1
    exact ⟨none, 0, 0, [], rfl, ⟨rfl, fun x hx => by (cases hx), 0, 0, fun h => by omega, fun i hi => by omega⟩, by omega⟩
  · simp [Value.cells] at e1
    obtain ⟨rfl, rfl, rfl⟩ := e1
    have hm2 : la ≤ m := by rw [hm]; split <;> omega
    have key : ∀ i, i < la → ∃ x : DeedD, x.fine ∧ W.cell? (a.add (i * 5)) = some (.int .u8 (x.kind : Int)) ∧ W.cell? (a.add (i * 5 + 1)) = some (.int .i64 x.a) ∧ W.cell? (a.add (i * 5 + 2)) = some (.int .i64 x.b) ∧ W.cell? (a.add (i * 5 + 3)) = some (.string x.key) ∧ W.cell? (a.add (i * 5 + 4)) = some (.string x.val) := fun i hil => by
      obtain ⟨cs', hc, ht⟩ := hi i (by omega)
      rw [hC] at hc
      have h1 : oneCellFields Try.prog _ = true := (by kernel_rfl : oneCellFields Try.prog (Try.prog.fieldsOf 60) = true)
      have he : Try.prog.underlying 60 = some (.struct (Try.prog.fieldsOf 60)) := by kernel_rfl
      have hs : Try.prog.cellsOf 60 = (Try.prog.fieldsOf 60).size := by kernel_rfl
      rw [← hC] at hc
      have rd := field_read he h1 hc ht hs
      obtain ⟨v0, y0, m0, c0, t0⟩ := rd 0 5 (by kernel_rfl)
      obtain ⟨v1, y1, m1, c1, t1⟩ := rd 1 3 (by kernel_rfl)
      obtain ⟨v2, y2, m2, c2, t2⟩ := rd 2 3 (by kernel_rfl)
      obtain ⟨v3, y3, m3, c3, t3⟩ := rd 3 9 (by kernel_rfl)
      obtain ⟨v4, y4, m4, c4, t4⟩ := rd 4 9 (by kernel_rfl)
      obtain ⟨z0, e0, _, w0⟩ := DataW.trod_int Try.underlying5 t0
      obtain ⟨z1, e1, _, w1⟩ := DataW.trod_int Try.underlying3 t1
      obtain ⟨z2, e2, _, w2⟩ := DataW.trod_int Try.underlying3 t2
      obtain ⟨z3, e3, _, w3⟩ := DataW.trod_string Try.underlying9 t3
      obtain ⟨z4, e4, _, w4⟩ := DataW.trod_string Try.underlying9 t4
      obtain ⟨n0, rfl, b0⟩ := u8_nat w0
      simp only [List.cons.injEq, and_true] at e0 e1 e2 e3 e4
      subst e0 e1 e2 e3 e4
      simp only [Go.Deep.add_add] at c0 c1 c2 c3 c4
      exact ⟨⟨n0, z1, z2, z3, z4⟩, ⟨b0, bounds_i64 w1, bounds_i64 w2⟩, c0, c1, c2, c3, c4⟩
    obtain ⟨f, hf2⟩ : ∃ f : Nat → DeedD, ∀ i, i < la → (f i).fine ∧ W.cell? (a.add (i * 5)) = some (.int .u8 ((f i).kind : Int)) ∧ W.cell? (a.add (i * 5 + 1)) = some (.int .i64 (f i).a) ∧ W.cell? (a.add (i * 5 + 2)) = some (.int .i64 (f i).b) ∧ W.cell? (a.add (i * 5 + 3)) = some (.string (f i).key) ∧ W.cell? (a.add (i * 5 + 4)) = some (.string (f i).val) := by
      refine ⟨fun i => if h : i < la then Classical.choose (key i h) else default, fun i hi => ?_⟩
      simp only [dif_pos hi]
      exact Classical.choose_spec (key i hi)
    refine ⟨some a, la, ca, (List.range la).map f, rfl, ⟨by simp, fun x hx => ?_, ?_⟩, by unfold maxLen at hcm; omega⟩
    · obtain ⟨i, hi, rfl⟩ := List.mem_map.1 hx
      exact (hf2 i (by simpa using hi)).1
    · by_cases h0 : 0 < la
      · obtain ⟨b, off, spot⟩ := a
        have hspot : spot = none := by simpa [Addr.add] using World.cell?_spot (hf2 0 (by omega)).2.1
        subst hspot
        refine ⟨b, off, fun _ => rfl, fun i hi => ?_⟩
        have h1 := (hf2 i hi).2
        have e : ((List.range la).map f)[i]! = f i := by rw [getElem!_pos _ i (by simpa using hi)]; simp
        rw [e]
        simp only [add_off] at h1
        exact h1
      · exact ⟨0, 0, fun h => by omega, fun i hi => by omega⟩
/-- may the act stand? -/
def DeedD.brief (x : DeedD) : Prop := x.key.size ≤ 200 ∧ x.val.size ≤ 200
def briefB (xs : List DeedD) (len : Nat) (most : Nat) : Prop := (∀ j, j < len → j < most → xs[j]!.brief)
open Classical in
noncomputable def isBrief (xs : List DeedD) (len most : Nat) : Bool := decide (briefB xs len most) && decide (len ≤ most)

set_option maxRecDepth 100000 in
set_option maxHeartbeats 4000000 in
theorem brief_any (ao : Option Addr) (la ca most : Nat) (xs : List DeedD) (W : World) (h : Deeds W ao la xs) (hla : la ≤ 9223372036854775807) (hm : most ≤ 1000) :
    Calls Try.prog 20 #[.slice ao la ca, .int .i64 (most : Int)] W fun e w' => e = .returned (.bool (isBrief xs la most)) ∧ W = w' := by
  have HA := Lib.hid h
  have pm : (most : Int) ≤ 1000 := by omega
  have pl : (la : Int) ≤ 9223372036854775807 := by omega
  clear h
  by_cases hall : briefB xs la most
  · have e : isBrief xs la most = decide (la ≤ most) := by unfold isBrief; simp [hall]
    rw [e]
    have HS := Lib.hid hall
    clear e hall
    go_enter Try.func20, Try.ntmps20
    go_wp2
    go_loopg [5] la (fun gg s5 wr => ∃ j : Nat, s5 = .int .i64 (j : Int) ∧ j ≤ la ∧ la - j ≤ gg ∧ wr = W)
    case atStart => exact ⟨0, rfl, Nat.zero_le _, by omega, rfl⟩
    case round =>
      obtain ⟨j, rfl, hj, hgg, rfl⟩ := hrel
      by_cases h1 : j < la
      · have t1 : decide ((j : Int) < (la : Int)) = true := by simp; omega
        by_cases h2 : j < most
        · have t2 : decide ((j : Int) < (most : Int)) = true := by simp; omega
          have t3 : (j : Int) < (la : Int) := by omega
          have t4 : (0 : Int) ≤ (j : Int) := by omega
          obtain ⟨g, o, hg, hc, _, _⟩ := HA.out.at h1
          have hb := HS.out j h1 h2
          generalize xs[j]! = x at hc hb
          obtain ⟨c0, c1, c2, c3, c4⟩ := hc
          subst hg
          have t5 : decide ((200 : Int) < (x.key.size : Int)) = false := by have := hb.1; simp; omega
          have t6 : decide ((200 : Int) < (x.val.size : Int)) = false := by have := hb.2; simp; omega
          clear hb
          go_wp2
          go_roundg (la - (j + 1))
          case measure => omega
          case rel => exact ⟨j + 1, by go_num, by omega, Nat.le_refl _, rfl⟩
        · have t2 : decide ((j : Int) < (most : Int)) = false := by simp; omega
          go_wp2
          go_ret
          exact ⟨by simp, rfl⟩
      · have t1 : decide ((j : Int) < (la : Int)) = false := by simp; omega
        go_wp2
        go_ret
        exact ⟨by simp, rfl⟩
  · have e : isBrief xs la most = false := by unfold isBrief; simp [hall]
    rw [e]
    obtain ⟨k, hk, hbad, hgood⟩ : ∃ k, k < la ∧ k < most ∧ ¬ xs[k]!.brief ∧ ∀ j, j < k → xs[j]!.brief := by
      have : ∃ j, j < min la most ∧ ¬ xs[j]!.brief := Classical.byContradiction fun c => hall fun j h1 h2 => Classical.byContradiction fun c' => c ⟨j, by omega, c'⟩
      obtain ⟨k, hk, h1, h2⟩ := least_bad (p := fun j => xs[j]!.brief) _ this
      exact ⟨k, by omega, by omega, h1, h2⟩
    have HK := Lib.hid hgood.1
    have HG := Lib.hid hgood.2
    clear e hall hgood
    go_enter Try.func20, Try.ntmps20
    go_wp2
    go_loopg [5] la (fun gg s5 wr => ∃ j : Nat, s5 = .int .i64 (j : Int) ∧ j ≤ k ∧ la - j ≤ gg ∧ wr = W)
    case atStart => exact ⟨0, rfl, Nat.zero_le _, by omega, rfl⟩
    case round =>
      obtain ⟨j, rfl, hj, hgg, rfl⟩ := hrel
      have h1 : j < la := by omega
      have t1 : decide ((j : Int) < (la : Int)) = true := by simp; omega
      have t2 : decide ((j : Int) < (most : Int)) = true := by simp; omega
      have t3 : (j : Int) < (la : Int) := by omega
      have t4 : (0 : Int) ≤ (j : Int) := by omega
      obtain ⟨g, o, hg, hc, _, _⟩ := HA.out.at h1
      by_cases hjk : j < k
      · have hb := HG.out j hjk
        generalize xs[j]! = x at hc hb
        obtain ⟨c0, c1, c2, c3, c4⟩ := hc
        subst hg
        have t5 : decide ((200 : Int) < (x.key.size : Int)) = false := by have := hb.1; simp; omega
        have t6 : decide ((200 : Int) < (x.val.size : Int)) = false := by have := hb.2; simp; omega
        clear hb
        go_wp2
        go_roundg (la - (j + 1))
        case measure => omega
        case rel => exact ⟨j + 1, by go_num, by omega, by omega, rfl⟩
      · obtain rfl : j = k := by omega
        have hb := HK.out
        generalize xs[j]! = x at hc hb
        obtain ⟨c0, c1, c2, c3, c4⟩ := hc
        subst hg
        by_cases h5 : 200 < x.key.size
        · have t5 : decide ((200 : Int) < (x.key.size : Int)) = true := by simp; omega
          clear hb
          go_wp2
          go_ret
          exact ⟨rfl, rfl⟩
        · have t5 : decide ((200 : Int) < (x.key.size : Int)) = false := by simp; omega
          have t6 : decide ((200 : Int) < (x.val.size : Int)) = true := by
            have : ¬ (x.key.size ≤ 200 ∧ x.val.size ≤ 200) := hb
            simp; omega
          clear hb
          go_wp2
          go_ret
          exact ⟨rfl, rfl⟩
end Go.Proofs.Ytkpjckabdmmiaaa

/- The law's perform. (By gen_nperform.py.) -/
set_option linter.unusedVariables false
set_option linter.unusedSimpArgs false
namespace Go.Proofs.Ytkpjckabdmmiaaa
open Go.RowKit Go.Shelf Go.Sort

noncomputable def deedR (n : NetS) (x : DeedD) : NetS × Int :=
  if x.kind % 7 = 2 then n.rem x.a x.key else if x.kind % 7 = 3 then n.send x.a x.b else if x.kind % 7 = 4 then n.deliver x.a false else if x.kind % 7 = 5 then n.deliver x.a true else if x.kind % 7 = 6 then n.lose x.a else n.put x.a x.key x.val
theorem OutN.before {W V : World} {m q b g : Nat} {lo : Option Addr} {r : NetS × Int} {e : Ending} {w' : World} (hb : Below W.heap.size W V) (h : OutN V m b g lo r e w') (hq : m ≤ q) : OutN W q b g lo r e w' := by
  obtain ⟨he, lo', lc', ts', ms', h1, h2, h3, h4⟩ := h
  exact ⟨he, lo', lc', ts', ms', h1.more hq, h2, (Frm.of_below hb).trans h3 (fun _ _ e => e), fun j o s e => (h4 j o s e).imp id (fun k => Nat.le_trans hb.size k)⟩
theorem cell5 {w : World} {T : Nat} {a0 a1 a2 a3 a4 : Value} {ty : TypeId} (h : w.heap[T]? = some (.cells #[a0, a1, a2, a3, a4] ty (0, 0))) :
    w.cell? ⟨T, 0, none⟩ = some a0 ∧ w.cell? ⟨T, 1, none⟩ = some a1 ∧ w.cell? ⟨T, 2, none⟩ = some a2 ∧ w.cell? ⟨T, 3, none⟩ = some a3 ∧ w.cell? ⟨T, 4, none⟩ = some a4 := by
  refine ⟨?_, ?_, ?_, ?_, ?_⟩
  all_goals (simp only [World.cell?]; rw [h]; simp; done)

set_option maxRecDepth 100000 in
set_option maxHeartbeats 4000000 in
theorem perform_rem {W : World} {m b g : Nat} {lo : Option Addr} {lc : Nat} {ts : List Slot} {ms : List LSlot} (h : NetR W m b g lo lc ts ms) (hm : m ≤ 40000) (x : DeedD) (hf : x.fine) (hc : x.kind % 7 = 2) :
    Calls Try.prog 31 #[.pointer (some ⟨b, 0, none⟩), .agg #[.int .u8 (x.kind : Int), .int .i64 x.a, .int .i64 x.b, .string x.key, .string x.val]] W (OutN W (m + 1) b g lo ((netOf ts ms).rem x.a x.key)) := by
  obtain ⟨V, hV⟩ : ∃ V, V = W.alloc (.cells #[.int .u8 (x.kind : Int), .int .i64 x.a, .int .i64 x.b, .string x.key, .string x.val] 60) := ⟨_, rfl⟩
  have HB : Hid (Below W.heap.size W V) := Lib.hid (by rw [hV]; exact box_below W _)
  obtain ⟨d0, d1, d2, d3, d4⟩ := cell5 (w := V) (T := W.heap.size) (ty := 60) (by rw [hV]; exact heap_alloc_new _ _)
  have HN := Lib.hid (h.keep HB.out)
  have CA := Lib.hid (netRemU HN.out hm x.a x.key)
  have k1 := hf.1
  have k2 : (x.kind : Int) ≤ 255 := by omega
  have k3 : (0 : Int) ≤ (x.kind : Int) := by omega
  have m2 : (((x.kind : Int) % 7) == 2) = true := by rw [beq_iff_eq]; omega
  have m3 : (((x.kind : Int) % 7) == 3) = false := by rw [beq_eq_false_iff_ne]; omega
  have m4 : (((x.kind : Int) % 7) == 4) = false := by rw [beq_eq_false_iff_ne]; omega
  have m5 : (((x.kind : Int) % 7) == 5) = false := by rw [beq_eq_false_iff_ne]; omega
  have m6 : (((x.kind : Int) % 7) == 6) = false := by rw [beq_eq_false_iff_ne]; omega
  generalize (netOf ts ms).rem x.a x.key = r at CA ⊢
  have HV := Lib.hid hV
  clear hV h hf hc
  go_enter Try.func31, Try.ntmps31
  go_upto_region 1 with fail
  rw [← HV.out]
  go_wp2_with (go_at_call 46; refine CA.out.mono ?_; rintro e w2 ⟨rfl, ho⟩; have HO := Lib.hid ho; clear ho)
  go_ret
  exact OutN.before HB.out ⟨rfl, HO.out⟩ (by omega)

set_option maxRecDepth 100000 in
set_option maxHeartbeats 4000000 in
theorem perform_send {W : World} {m b g : Nat} {lo : Option Addr} {lc : Nat} {ts : List Slot} {ms : List LSlot} (h : NetR W m b g lo lc ts ms) (hm : m ≤ 40000) (x : DeedD) (hf : x.fine) (hc : x.kind % 7 = 3) :
    Calls Try.prog 31 #[.pointer (some ⟨b, 0, none⟩), .agg #[.int .u8 (x.kind : Int), .int .i64 x.a, .int .i64 x.b, .string x.key, .string x.val]] W (OutN W (m + 1) b g lo ((netOf ts ms).send x.a x.b)) := by
  obtain ⟨V, hV⟩ : ∃ V, V = W.alloc (.cells #[.int .u8 (x.kind : Int), .int .i64 x.a, .int .i64 x.b, .string x.key, .string x.val] 60) := ⟨_, rfl⟩
  have HB : Hid (Below W.heap.size W V) := Lib.hid (by rw [hV]; exact box_below W _)
  obtain ⟨d0, d1, d2, d3, d4⟩ := cell5 (w := V) (T := W.heap.size) (ty := 60) (by rw [hV]; exact heap_alloc_new _ _)
  have HN := Lib.hid (h.keep HB.out)
  have CA := Lib.hid (netSendU HN.out x.a x.b)
  have k1 := hf.1
  have k2 : (x.kind : Int) ≤ 255 := by omega
  have k3 : (0 : Int) ≤ (x.kind : Int) := by omega
  have m2 : (((x.kind : Int) % 7) == 2) = false := by rw [beq_eq_false_iff_ne]; omega
  have m3 : (((x.kind : Int) % 7) == 3) = true := by rw [beq_iff_eq]; omega
  have m4 : (((x.kind : Int) % 7) == 4) = false := by rw [beq_eq_false_iff_ne]; omega
  have m5 : (((x.kind : Int) % 7) == 5) = false := by rw [beq_eq_false_iff_ne]; omega
  have m6 : (((x.kind : Int) % 7) == 6) = false := by rw [beq_eq_false_iff_ne]; omega
  generalize (netOf ts ms).send x.a x.b = r at CA ⊢
  have HV := Lib.hid hV
  clear hV h hf hc
  go_enter Try.func31, Try.ntmps31
  go_upto_region 1 with fail
  rw [← HV.out]
  go_wp2_with (go_at_call 29; refine CA.out.mono ?_; rintro e w2 ⟨rfl, ho⟩; have HO := Lib.hid ho; clear ho)
  go_ret
  exact OutN.before HB.out ⟨rfl, HO.out⟩ (by omega)

set_option maxRecDepth 100000 in
set_option maxHeartbeats 4000000 in
theorem perform_del4 {W : World} {m b g : Nat} {lo : Option Addr} {lc : Nat} {ts : List Slot} {ms : List LSlot} (h : NetR W m b g lo lc ts ms) (hm : m ≤ 40000) (x : DeedD) (hf : x.fine) (hc : x.kind % 7 = 4) :
    Calls Try.prog 31 #[.pointer (some ⟨b, 0, none⟩), .agg #[.int .u8 (x.kind : Int), .int .i64 x.a, .int .i64 x.b, .string x.key, .string x.val]] W (OutN W (m + 1) b g lo ((netOf ts ms).deliver x.a false)) := by
  obtain ⟨V, hV⟩ : ∃ V, V = W.alloc (.cells #[.int .u8 (x.kind : Int), .int .i64 x.a, .int .i64 x.b, .string x.key, .string x.val] 60) := ⟨_, rfl⟩
  have HB : Hid (Below W.heap.size W V) := Lib.hid (by rw [hV]; exact box_below W _)
  obtain ⟨d0, d1, d2, d3, d4⟩ := cell5 (w := V) (T := W.heap.size) (ty := 60) (by rw [hV]; exact heap_alloc_new _ _)
  have HN := Lib.hid (h.keep HB.out)
  have CA := Lib.hid (netDelU HN.out hm x.a false)
  have k1 := hf.1
  have k2 : (x.kind : Int) ≤ 255 := by omega
  have k3 : (0 : Int) ≤ (x.kind : Int) := by omega
  have m2 : (((x.kind : Int) % 7) == 2) = false := by rw [beq_eq_false_iff_ne]; omega
  have m3 : (((x.kind : Int) % 7) == 3) = false := by rw [beq_eq_false_iff_ne]; omega
  have m4 : (((x.kind : Int) % 7) == 4) = true := by rw [beq_iff_eq]; omega
  have m5 : (((x.kind : Int) % 7) == 5) = false := by rw [beq_eq_false_iff_ne]; omega
  have m6 : (((x.kind : Int) % 7) == 6) = false := by rw [beq_eq_false_iff_ne]; omega
  generalize (netOf ts ms).deliver x.a false = r at CA ⊢
  have HV := Lib.hid hV
  clear hV h hf hc
  go_enter Try.func31, Try.ntmps31
  go_upto_region 1 with fail
  rw [← HV.out]
  go_wp2_with (go_at_call 34; refine CA.out.mono ?_; rintro e w2 ⟨rfl, ho⟩; have HO := Lib.hid ho; clear ho)
  go_ret
  exact OutN.before HB.out ⟨rfl, HO.out⟩ (by omega)

set_option maxRecDepth 100000 in
set_option maxHeartbeats 4000000 in
theorem perform_del5 {W : World} {m b g : Nat} {lo : Option Addr} {lc : Nat} {ts : List Slot} {ms : List LSlot} (h : NetR W m b g lo lc ts ms) (hm : m ≤ 40000) (x : DeedD) (hf : x.fine) (hc : x.kind % 7 = 5) :
    Calls Try.prog 31 #[.pointer (some ⟨b, 0, none⟩), .agg #[.int .u8 (x.kind : Int), .int .i64 x.a, .int .i64 x.b, .string x.key, .string x.val]] W (OutN W (m + 1) b g lo ((netOf ts ms).deliver x.a true)) := by
  obtain ⟨V, hV⟩ : ∃ V, V = W.alloc (.cells #[.int .u8 (x.kind : Int), .int .i64 x.a, .int .i64 x.b, .string x.key, .string x.val] 60) := ⟨_, rfl⟩
  have HB : Hid (Below W.heap.size W V) := Lib.hid (by rw [hV]; exact box_below W _)
  obtain ⟨d0, d1, d2, d3, d4⟩ := cell5 (w := V) (T := W.heap.size) (ty := 60) (by rw [hV]; exact heap_alloc_new _ _)
  have HN := Lib.hid (h.keep HB.out)
  have CA := Lib.hid (netDelU HN.out hm x.a true)
  have k1 := hf.1
  have k2 : (x.kind : Int) ≤ 255 := by omega
  have k3 : (0 : Int) ≤ (x.kind : Int) := by omega
  have m2 : (((x.kind : Int) % 7) == 2) = false := by rw [beq_eq_false_iff_ne]; omega
  have m3 : (((x.kind : Int) % 7) == 3) = false := by rw [beq_eq_false_iff_ne]; omega
  have m4 : (((x.kind : Int) % 7) == 4) = false := by rw [beq_eq_false_iff_ne]; omega
  have m5 : (((x.kind : Int) % 7) == 5) = true := by rw [beq_iff_eq]; omega
  have m6 : (((x.kind : Int) % 7) == 6) = false := by rw [beq_eq_false_iff_ne]; omega
  generalize (netOf ts ms).deliver x.a true = r at CA ⊢
  have HV := Lib.hid hV
  clear hV h hf hc
  go_enter Try.func31, Try.ntmps31
  go_upto_region 1 with fail
  rw [← HV.out]
  go_wp2_with (go_at_call 34; refine CA.out.mono ?_; rintro e w2 ⟨rfl, ho⟩; have HO := Lib.hid ho; clear ho)
  go_ret
  exact OutN.before HB.out ⟨rfl, HO.out⟩ (by omega)

set_option maxRecDepth 100000 in
set_option maxHeartbeats 4000000 in
theorem perform_lose {W : World} {m b g : Nat} {lo : Option Addr} {lc : Nat} {ts : List Slot} {ms : List LSlot} (h : NetR W m b g lo lc ts ms) (hm : m ≤ 40000) (x : DeedD) (hf : x.fine) (hc : x.kind % 7 = 6) :
    Calls Try.prog 31 #[.pointer (some ⟨b, 0, none⟩), .agg #[.int .u8 (x.kind : Int), .int .i64 x.a, .int .i64 x.b, .string x.key, .string x.val]] W (OutN W (m + 1) b g lo ((netOf ts ms).lose x.a)) := by
  obtain ⟨V, hV⟩ : ∃ V, V = W.alloc (.cells #[.int .u8 (x.kind : Int), .int .i64 x.a, .int .i64 x.b, .string x.key, .string x.val] 60) := ⟨_, rfl⟩
  have HB : Hid (Below W.heap.size W V) := Lib.hid (by rw [hV]; exact box_below W _)
  obtain ⟨d0, d1, d2, d3, d4⟩ := cell5 (w := V) (T := W.heap.size) (ty := 60) (by rw [hV]; exact heap_alloc_new _ _)
  have HN := Lib.hid (h.keep HB.out)
  have CA := Lib.hid (netLoseU HN.out x.a)
  have k1 := hf.1
  have k2 : (x.kind : Int) ≤ 255 := by omega
  have k3 : (0 : Int) ≤ (x.kind : Int) := by omega
  have m2 : (((x.kind : Int) % 7) == 2) = false := by rw [beq_eq_false_iff_ne]; omega
  have m3 : (((x.kind : Int) % 7) == 3) = false := by rw [beq_eq_false_iff_ne]; omega
  have m4 : (((x.kind : Int) % 7) == 4) = false := by rw [beq_eq_false_iff_ne]; omega
  have m5 : (((x.kind : Int) % 7) == 5) = false := by rw [beq_eq_false_iff_ne]; omega
  have m6 : (((x.kind : Int) % 7) == 6) = true := by rw [beq_iff_eq]; omega
  generalize (netOf ts ms).lose x.a = r at CA ⊢
  have HV := Lib.hid hV
  clear hV h hf hc
  go_enter Try.func31, Try.ntmps31
  go_upto_region 1 with fail
  rw [← HV.out]
  go_wp2_with (go_at_call 33; refine CA.out.mono ?_; rintro e w2 ⟨rfl, ho⟩; have HO := Lib.hid ho; clear ho)
  go_ret
  exact OutN.before HB.out ⟨rfl, HO.out⟩ (by omega)

set_option maxRecDepth 100000 in
set_option maxHeartbeats 4000000 in
theorem perform_put {W : World} {m b g : Nat} {lo : Option Addr} {lc : Nat} {ts : List Slot} {ms : List LSlot} (h : NetR W m b g lo lc ts ms) (hm : m ≤ 40000) (x : DeedD) (hf : x.fine) (hc : x.kind % 7 ≠ 2 ∧ x.kind % 7 ≠ 3 ∧ x.kind % 7 ≠ 4 ∧ x.kind % 7 ≠ 5 ∧ x.kind % 7 ≠ 6) :
    Calls Try.prog 31 #[.pointer (some ⟨b, 0, none⟩), .agg #[.int .u8 (x.kind : Int), .int .i64 x.a, .int .i64 x.b, .string x.key, .string x.val]] W (OutN W (m + 1) b g lo ((netOf ts ms).put x.a x.key x.val)) := by
  obtain ⟨V, hV⟩ : ∃ V, V = W.alloc (.cells #[.int .u8 (x.kind : Int), .int .i64 x.a, .int .i64 x.b, .string x.key, .string x.val] 60) := ⟨_, rfl⟩
  have HB : Hid (Below W.heap.size W V) := Lib.hid (by rw [hV]; exact box_below W _)
  obtain ⟨d0, d1, d2, d3, d4⟩ := cell5 (w := V) (T := W.heap.size) (ty := 60) (by rw [hV]; exact heap_alloc_new _ _)
  have HN := Lib.hid (h.keep HB.out)
  have CA := Lib.hid (netPutU HN.out hm x.a x.key x.val)
  have k1 := hf.1
  have k2 : (x.kind : Int) ≤ 255 := by omega
  have k3 : (0 : Int) ≤ (x.kind : Int) := by omega
  have m2 : (((x.kind : Int) % 7) == 2) = false := by rw [beq_eq_false_iff_ne]; omega
  have m3 : (((x.kind : Int) % 7) == 3) = false := by rw [beq_eq_false_iff_ne]; omega
  have m4 : (((x.kind : Int) % 7) == 4) = false := by rw [beq_eq_false_iff_ne]; omega
  have m5 : (((x.kind : Int) % 7) == 5) = false := by rw [beq_eq_false_iff_ne]; omega
  have m6 : (((x.kind : Int) % 7) == 6) = false := by rw [beq_eq_false_iff_ne]; omega
  generalize (netOf ts ms).put x.a x.key x.val = r at CA ⊢
  have HV := Lib.hid hV
  clear hV h hf hc
  go_enter Try.func31, Try.ntmps31
  go_upto_region 1 with fail
  rw [← HV.out]
  go_wp2_with (go_at_call 51; refine CA.out.mono ?_; rintro e w2 ⟨rfl, ho⟩; have HO := Lib.hid ho; clear ho)
  go_ret
  exact OutN.before HB.out ⟨rfl, HO.out⟩ (by omega)

theorem perform_any {W : World} {m b g : Nat} {lo : Option Addr} {lc : Nat} {ts : List Slot} {ms : List LSlot} (h : NetR W m b g lo lc ts ms) (hm : m ≤ 40000) (x : DeedD) (hf : x.fine) :
    Calls Try.prog 31 #[.pointer (some ⟨b, 0, none⟩), .agg #[.int .u8 (x.kind : Int), .int .i64 x.a, .int .i64 x.b, .string x.key, .string x.val]] W (OutN W (m + 1) b g lo (deedR (netOf ts ms) x)) := by
  unfold deedR
  by_cases c2 : x.kind % 7 = 2
  · rw [if_pos c2]; exact perform_rem h hm x hf c2
  rw [if_neg c2]
  by_cases c3 : x.kind % 7 = 3
  · rw [if_pos c3]; exact perform_send h hm x hf c3
  rw [if_neg c3]
  by_cases c4 : x.kind % 7 = 4
  · rw [if_pos c4]; exact perform_del4 h hm x hf c4
  rw [if_neg c4]
  by_cases c5 : x.kind % 7 = 5
  · rw [if_pos c5]; exact perform_del5 h hm x hf c5
  rw [if_neg c5]
  by_cases c6 : x.kind % 7 = 6
  · rw [if_pos c6]; exact perform_lose h hm x hf c6
  rw [if_neg c6]
  exact perform_put h hm x hf ⟨c2, c3, c4, c5, c6⟩
end Go.Proofs.Ytkpjckabdmmiaaa

/- What holds in the law on settling. (By gen_nsi.py.) -/
set_option linter.unusedVariables false
set_option linter.unusedSimpArgs false
namespace Go.Proofs.Ytkpjckabdmmiaaa
open Go.RowKit Go.Shelf Go.Sort

theorem putR_zero {T : Tab} {z : Int} {k v : ByteArray} (h : (putR T z k v).2 = 0) : ∃ (i : Nat) (hi : i < 8), z = (i : Int) ∧ ((1 ≤ k.size ∧ k.size ≤ 64) ∧ v.size ≤ 64) ∧ (putR T z k v).1 = putT T i hi k v := by
  unfold putR at h ⊢
  by_cases h1 : 0 ≤ z ∧ z.toNat < 8
  · rw [dif_pos h1] at h ⊢
    by_cases h2 : (1 ≤ k.size ∧ k.size ≤ 64) ∧ v.size ≤ 64
    · rw [if_pos h2] at h ⊢
      by_cases h3 : room T.L k = true
      · rw [if_pos h3] at h ⊢
        exact ⟨z.toNat, h1.2, by omega, h2, rfl⟩
      · rw [if_neg h3] at h; simp at h
    · rw [if_neg h2] at h; simp at h
  · rw [dif_neg h1] at h; simp at h
theorem has_lt {n : NetS} {z : Int} (h : n.has z) : z.toNat < n.T.length := by unfold NetS.has at h; omega
theorem hasL_lt {n : NetS} {z : Int} (h : n.hasL z) : z.toNat < n.M.length := by unfold NetS.hasL at h; omega
theorem NetS.mergeIn_up {m : Nat} {n : NetS} (h : n.Ok m) {i : Nat} (hi : i < n.M.length) : n.Up (n.mergeIn i) := by
  have hl := h.ltr i hi
  exact NetS.Up.setT (q := m) h _ hl.2.2 (cov_left (h.tab _ hl.2.2) hl.1)
theorem del_up {m : Nat} {n : NetS} (h : n.Ok m) (z : Int) (keep : Bool) : n.Up (n.deliver z keep).1 := by
  unfold NetS.deliver
  by_cases hz : n.hasL z
  · rw [if_pos hz]
    have hu := NetS.mergeIn_up h (hasL_lt hz)
    cases keep with
    | true => rw [if_pos rfl]; exact hu
    | false => rw [if_neg (by simp)]; exact ⟨hu.len, hu.cov⟩
  · rw [if_neg hz]; exact NetS.Up.refl h
theorem send_in {n : NetS} {a c : Nat} (ha : a < n.T.length) (hc : c < n.T.length) (hm : n.M.length < 256) : n.send (a : Int) (c : Int) = (n.mailTo ⟨a, c, n.T[a]!⟩, 0) := by
  unfold NetS.send NetS.has
  rw [if_pos ⟨⟨by omega, by omega⟩, ⟨by omega, by omega⟩⟩, if_neg (by omega)]
  rfl
theorem erase_last {α : Type} : ∀ (l : List α) (x : α), (l ++ [x]).eraseIdx l.length = l
  | [], x => by simp
  | y :: l, x => by simp [erase_last l x]
/-- a letter that is delivered at once -/
theorem del_last {n : NetS} {a c : Nat} : (n.mailTo ⟨a, c, n.T[a]!⟩).deliver ((n.M.length : Nat) : Int) false = (n.exch a c, 0) := by
  unfold NetS.deliver
  have hl : (n.mailTo ⟨a, c, n.T[a]!⟩).M.length = n.M.length + 1 := by simp [NetS.mailTo]
  have hx : (n.mailTo ⟨a, c, n.T[a]!⟩).M[n.M.length]! = ⟨a, c, n.T[a]!⟩ := by
    show (n.M ++ [_])[n.M.length]! = _
    rw [app_at (by simp), if_neg (by omega)]
  have hh : (n.mailTo ⟨a, c, n.T[a]!⟩).hasL ((n.M.length : Nat) : Int) := ⟨by omega, by rw [hl]; omega⟩
  rw [if_pos hh, if_neg (by simp), Int.toNat_natCast]
  unfold NetS.mergeIn
  rw [hx]
  unfold NetS.exch NetS.setT NetS.drop NetS.mailTo
  simp only [erase_last]
theorem deed_up {m : Nat} {n : NetS} (h : n.Ok m) (x : DeedD) : n.Up (deedR n x).1 := by
  unfold deedR
  by_cases c2 : x.kind % 7 = 2
  · rw [if_pos c2]
    unfold NetS.rem
    by_cases hz : n.has x.a
    · rw [if_pos hz]; exact NetS.Up.setT (q := m) h _ (has_lt hz) (rem_cov (h.tab _ (has_lt hz)) _)
    · rw [if_neg hz]; exact NetS.Up.refl h
  rw [if_neg c2]
  by_cases c3 : x.kind % 7 = 3
  · rw [if_pos c3]
    unfold NetS.send
    split
    · split
      · exact NetS.Up.refl h
      · exact NetS.Up.same h rfl
    · exact NetS.Up.refl h
  rw [if_neg c3]
  by_cases c4 : x.kind % 7 = 4
  · rw [if_pos c4]; exact del_up h _ _
  rw [if_neg c4]
  by_cases c5 : x.kind % 7 = 5
  · rw [if_pos c5]; exact del_up h _ _
  rw [if_neg c5]
  by_cases c6 : x.kind % 7 = 6
  · rw [if_pos c6]
    unfold NetS.lose
    split
    · exact NetS.Up.same h rfl
    · exact NetS.Up.refl h
  rw [if_neg c6]
  unfold NetS.put
  by_cases hz : n.has x.a
  · rw [if_pos hz]
    by_cases he : (putR (n.T[x.a.toNat]!) x.a x.key x.val).2 = 0
    · rw [if_pos he]
      obtain ⟨i, hi, e, ⟨hk, hv⟩, ep⟩ := putR_zero he
      exact NetS.Up.setT (q := m) h _ (has_lt hz) (by rw [ep]; exact put_cov (h.tab _ (has_lt hz)) hk hv)
    · rw [if_neg he]; exact NetS.Up.refl h
  · rw [if_neg hz]; exact NetS.Up.refl h

/-! ### the row of tables that there were -/
structure Bef (w : World) (m : Nat) (ao : Option Addr) (n cap : Nat) (bl : List Slot) : Prop where
  len : bl.length = n
  own : w.ownsRow 0 34 9 (.slice ao n cap) n (flatT bl)
  nil : n = 0 → ao = none
  held : ∀ x ∈ bl, Held w m x.T x.ao x.n
theorem Bef.start (w : World) : Bef w 0 none 0 0 [] := ⟨rfl, World.ownsRow_nil _ _ _ _, fun _ => rfl, fun x h => by cases h⟩
theorem Bef.more {w : World} {m q : Nat} {ao : Option Addr} {n cap : Nat} {bl : List Slot} (h : Bef w m ao n cap bl) (hq : m ≤ q) : Bef w q ao n cap bl := ⟨h.len, h.own, h.nil, fun x hx => (h.held x hx).more hq⟩
theorem Bef.far {G : Nat → Prop} {w w' : World} {m : Nat} {ao : Option Addr} {n cap : Nat} {bl : List Slot} (h : Bef w m ao n cap bl) (hf : Frm G w w') (hn : NoStr w G) (hd : ∀ j o s, ao = some ⟨j, o, s⟩ → ¬ G j) : Bef w' m ao n cap bl :=
  ⟨h.len, ownsRow_frm h.own hf (fun j e => by obtain ⟨o, s, e⟩ := own_block e; exact hd j o s e), h.nil, fun x hx => (h.held x hx).frm hf hn⟩
theorem Bef.keep {w w' : World} {m : Nat} {ao : Option Addr} {n cap : Nat} {bl : List Slot} (h : Bef w m ao n cap bl) (hb : Below w.heap.size w w') : Bef w' m ao n cap bl :=
  h.far (G := fun _ => False) (Frm.of_below hb) (fun _ _ e => e.elim) (fun _ _ _ _ e => e.elim)
theorem Bef.form {w : World} {m : Nat} {ao : Option Addr} {n cap : Nat} {bl : List Slot} (h : Bef w m ao n cap bl) (hn : 0 < n) : ∃ j, ao = some ⟨j, 0, none⟩ ∧ j < w.heap.size := by
  obtain ⟨j, c, hv, _, hj⟩ := h.own.form hn
  cases hv
  exact ⟨j, rfl, hj⟩
theorem Bef.at {w : World} {m : Nat} {g n cap : Nat} {bl : List Slot} (h : Bef w m (some ⟨g, 0, none⟩) n cap bl) {i : Nat} (hi : i < n) : SlotAt w g (i * 9) bl[i]! ∧ Held w m bl[i]!.T bl[i]!.ao bl[i]!.n ∧ bl[i]! ∈ bl := by
  have hil : i < bl.length := by rw [h.len]; exact hi
  have hm := mem_at hil
  have hc : ∀ c v, c < 9 → (slotC bl[i]!)[c]? = some v → w.cell? ⟨g, i * 9 + c, none⟩ = some v := fun c v hc hv => by
    have := h.own.cells (g := g) rfl (i * 9 + c) v (by rw [flatT_get _ _ _ hc, List.getElem?_eq_getElem hil, ← getElem!_pos bl i hil]; exact hv)
    rwa [add_off, Nat.zero_add] at this
  exact ⟨⟨hc 0 _ (by omega) rfl, hc 1 _ (by omega) rfl, hc 2 _ (by omega) rfl, hc 3 _ (by omega) rfl, hc 4 _ (by omega) rfl, hc 5 _ (by omega) rfl, hc 6 _ (by omega) rfl, hc 7 _ (by omega) rfl, hc 8 _ (by omega) rfl⟩, h.held _ hm, hm⟩
theorem Bef.noStr {w : World} {m : Nat} {ao : Option Addr} {n cap : Nat} {bl : List Slot} (h : Bef w m ao n cap bl) : NoStr w (fun j => ∃ o s, ao = some ⟨j, o, s⟩) := by
  rintro j hj ⟨o, s, e⟩
  have hn : 0 < n := by
    rcases Nat.eq_zero_or_pos n with h0 | h0
    · have := h.nil h0; rw [this] at e; cases e
    · exact h0
  obtain ⟨g, hg, _⟩ := h.form hn
  rw [hg] at e
  cases e
  subst hg
  have := (h.at hn).1.1
  rw [Nat.zero_mul] at this
  exact ⟨_, this, fun s e => by cases e⟩

structure SI (W wr : World) (m b g k : Nat) (lo : Option Addr) (lc : Nat) (ts : List Slot) (ms : List LSlot) (ao : Option Addr) (n cap : Nat) (bl : List Slot) : Prop where
  net : NetR wr m b g lo lc ts ms
  bef : Bef wr m ao n cap bl
  apart : ∀ j, Foot b g lo j → ∀ o s, ao ≠ some ⟨j, o, s⟩
  hi : ∀ j, Foot b g lo j → W.heap.size ≤ j
  hib : ∀ j o s, ao = some ⟨j, o, s⟩ → W.heap.size ≤ j
  below : Below W.heap.size W wr
  cov : ∀ x ∈ bl, ∃ i, i < k ∧ Cov (ts[i]!.T) x.T
  len : ts.length = k
section
variable {W wr : World} {m b g k : Nat} {lo : Option Addr} {lc : Nat} {ts : List Slot} {ms : List LSlot} {ao : Option Addr} {n cap : Nat} {bl : List Slot}
theorem SI.keep {w' : World} (h : SI W wr m b g k lo lc ts ms ao n cap bl) (hb : Below wr.heap.size wr w') : SI W w' m b g k lo lc ts ms ao n cap bl :=
  ⟨h.net.keep hb, h.bef.keep hb, h.apart, h.hi, h.hib, h.below.trans (hb.mono h.below.size), h.cov, h.len⟩
theorem SI.more {q : Nat} (h : SI W wr m b g k lo lc ts ms ao n cap bl) (hq : m ≤ q) : SI W wr q b g k lo lc ts ms ao n cap bl :=
  ⟨h.net.more hq, h.bef.more hq, h.apart, h.hi, h.hib, h.below, h.cov, h.len⟩
theorem SI.step {w' : World} {q : Nat} {r : NetS × Int} {e : Ending} (h : SI W wr m b g k lo lc ts ms ao n cap bl) (ho : OutN wr q b g lo r e w') (hq : m ≤ q) (hu : (netOf ts ms).Up r.1) :
    ∃ lo' lc' ts' ms', SI W w' q b g k lo' lc' ts' ms' ao n cap bl ∧ Hid (netOf ts' ms' = r.1) := by
  obtain ⟨_, lo', lc', ts', ms', hn, hr, hf, hl⟩ := ho
  have hfoot : ∀ j, Foot b g lo' j → Foot b g lo j ∨ wr.heap.size ≤ j := fun j hj => by
    rcases hj with e | e | ⟨o, s, e⟩
    · exact .inl (.inl e)
    · exact .inl (.inr (.inl e))
    · rcases hl j o s e with k | k
      · exact .inl (.inr (.inr k))
      · exact .inr k
  have hln : ts'.length = ts.length := by
    have := hu.len
    rw [← hr.out, netOf_len, netOf_len] at this
    exact this
  have hab : ∀ j o s, ao = some ⟨j, o, s⟩ → j < wr.heap.size := fun j o s e => (World.ownsRow.lt h.bef.own j (by rw [e]; rfl)).2
  refine ⟨lo', lc', ts', ms', ⟨hn, (h.bef.far hf h.net.noStr (fun j o s e hj => h.apart j hj o s e)).more hq, fun j hj o s e => ?_, fun j hj => ?_, h.hib, ?_, fun x hx => ?_, hln.trans h.len⟩, hr⟩
  · rcases hfoot j hj with k | k
    · exact h.apart j k o s e
    · have := hab j o s e; omega
  · rcases hfoot j hj with k | k
    · exact h.hi j k
    · exact Nat.le_trans h.below.size k
  · exact h.below.trans (hf.below h.below.size (fun j hj hF => by have := h.hi j hF; omega))
  · obtain ⟨i, hi, hc⟩ := h.cov x hx
    have hil : i < ts.length := by rw [h.len]; exact hi
    refine ⟨i, hi, ?_⟩
    have h1 := hu.cov i (by rw [netOf_len]; exact hil)
    rw [← hr.out, netOf_at hil, netOf_at (by rw [hln]; exact hil)] at h1
    exact cov_trans (hn.held i (by rw [hln]; exact hil)).ok ((h.net.held i hil).ok.more hq) ((h.bef.held x hx).ok.more hq) h1 hc
end

/-- a table is appended to the row -/
theorem wpList_appB {w : World} {ops : Array Oper} {rest : List Oper} {o : Oper} {a : Act} {Q : Exit → Act → World → Prop} (hgd : o.guard = none) (s x : Operand)
    (ho : o.op = .call { callee := .builtin .append, args := #[s, x], argTypes := #[25, 25] }) (W : World) (m b g k : Nat) (lo : Option Addr) (lc : Nat) (ts : List Slot) (ms : List LSlot) (ao : Option Addr) (n cap : Nat) (bl : List Slot) (z : Slot) (H : Nat) (t : TypeId) (hH : w.heap[H]? = some (.cells (slotC z).toArray t (0, 0))) (hs : a.eval s = .slice ao n cap)
    (hx : a.eval x = .slice (some ⟨H, 0, none⟩) 1 1) (hn : n ≤ 1000) (h : SI W w m b g k lo lc ts ms ao n cap bl) (hz : Held w m z.T z.ao z.n) (hc : ∃ i, i < k ∧ Cov (ts[i]!.T) z.T)
    (hK : ∀ g' cap' w', SI W w' m b g k lo lc ts ms (some ⟨g', 0, none⟩) (n + 1) cap' (bl ++ [z]) → wpList Try.prog ops Q rest (a.put o.dst (.slice (some ⟨g', 0, none⟩) (n + 1) cap')) w') :
    wpList Try.prog ops Q (o :: rest) a w := by
  obtain ⟨i0, hi, hz0, hz1, hz2⟩ := info_parts infoT
  refine wpList_append_lies _ hgd s x 25 ho 0 34 i0 _ 9 88 Try.underlying25 hi hz0 hz1 hz2 rfl (by decide) _ n (flatT bl) hs h.bef.own ⟨H, 0, none⟩ 1 1 (slotC z) hx (by rw [slotC_len]) ?_ (slotC_one z) (by omega) (by unfold maxLen; omega) (by omega) (Nat.zero_le _) _ rfl ?_
  · intro j u hj
    rw [add_off, Nat.zero_add]
    simp only [World.cell?]
    rw [hH]
    simpa using hj
  · intro g' cap' w' hr hg hl hlt
    have hf := grown_frm (b := b) (g := g) hg
    have hns := h.bef.noStr
    have hld : (∃ o s, ao = some ⟨g', o, s⟩) ∨ g' = w.heap.size := hl.imp own_block id
    refine hK g' cap' w' ⟨h.net.far hf hns (fun j hj ⟨o, s, e⟩ => h.apart j hj o s e), ⟨by rw [List.length_append, h.bef.len]; rfl, by rw [flatT_app]; simpa [flatT] using hr, fun e => by omega, fun u hu => ?_⟩, fun j hj o s e => ?_, h.hi, fun j o s e => ?_, ?_, fun u hu => ?_, h.len⟩
    · rcases List.mem_append.1 hu with hu | hu
      · exact (h.bef.held u hu).frm hf hns
      · rw [List.mem_singleton] at hu
        subst hu
        exact hz.frm hf hns
    · cases e
      rcases hld with ⟨o, s, e⟩ | e
      · exact h.apart _ hj o s e
      · subst e
        rcases hj with e | e | ⟨o, s, e⟩
        · have := h.net.lt_b; omega
        · have := h.net.lt_g; omega
        · exact absurd (World.ownsRow.lt h.net.lt _ (by rw [e]; rfl)).2 (Nat.lt_irrefl _)
    · cases e
      rcases hld with ⟨o, s, e⟩ | e
      · exact h.hib _ o s e
      · rw [e]; exact h.below.size
    · exact h.below.trans (hf.below h.below.size (fun j hj ⟨o, s, e⟩ => by have := h.hib j o s e; omega))
    · rcases List.mem_append.1 hu with hu | hu
      · exact h.cov u hu
      · rw [List.mem_singleton] at hu
        subst hu
        exact hc
end Go.Proofs.Ytkpjckabdmmiaaa

/- What becomes of a write. No function of the program is walked here. -/
set_option linter.unusedVariables false
set_option linter.unusedSimpArgs false
namespace Go.Proofs.Ytkpjckabdmmiaaa
open Go

structure Wr where
  e : Ent
  gone : Nat → Bool
  any : Bool
instance : Inhabited Wr := ⟨⟨default, fun _ => false, false⟩⟩
/-- how often a site wrote -/
def top (n : NetS) (k s : Nat) : Nat := if s < k then (n.T[s]!).seen s else 0
structure Inv (m k : Nat) (n : NetS) (ws : List Wr) : Prop where
  ok : n.Ok m
  len : n.T.length = k
  jt : ∀ i, i < k → ∀ s, (n.T[i]!).seen s ≤ top n k s
  jl : ∀ i, i < n.M.length → ∀ s, (n.M[i]!).T.seen s ≤ top n k s
  kw : ∀ w ∈ ws, w.e.site < k ∧ 1 ≤ w.e.count ∧ w.e.count ≤ top n k w.e.site
  at_ : ∀ w ∈ ws, ∀ i, i < k → Sw (n.T[i]!) w.e → w.e ∉ (n.T[i]!).L → w.any = true
  al : ∀ w ∈ ws, ∀ i, i < n.M.length → Sw (n.M[i]!).T w.e → w.e ∉ (n.M[i]!).T.L → w.any = true
  go : ∀ w ∈ ws, ∀ i, i < k → w.gone i = true → w.e ∉ (n.T[i]!).L ∧ Sw (n.T[i]!) w.e

theorem Inv.more {m q k : Nat} {n : NetS} {ws : List Wr} (h : Inv m k n ws) (hq : m ≤ q) : Inv q k n ws := ⟨h.ok.more hq, h.len, h.jt, h.jl, h.kw, h.at_, h.al, h.go⟩
theorem Inv.drop {m k : Nat} {n : NetS} {ws : List Wr} (h : Inv m k n ws) (i : Nat) : Inv m k (n.drop i) ws := by
  have hsub : ∀ j, j < (n.drop i).M.length → ∃ q, q < n.M.length ∧ n.M[q]! = (n.drop i).M[j]! := fun j hj => at_mem (List.mem_of_mem_eraseIdx (mem_at hj))
  refine ⟨h.ok.drop i, h.len, h.jt, fun j hj s => ?_, h.kw, h.at_, fun w hw j hj h1 h2 => ?_, h.go⟩
  · obtain ⟨q, hq, e⟩ := hsub j hj
    rw [← e]; exact h.jl q hq s
  · obtain ⟨q, hq, e⟩ := hsub j hj
    rw [← e] at h1 h2
    exact h.al w hw q hq h1 h2
theorem Inv.mailTo {m k : Nat} {n : NetS} {ws : List Wr} (h : Inv m k n ws) {a c : Nat} (ha : a < k) (hc : c < k) (hl : n.M.length < 256) : Inv m k (n.mailTo ⟨a, c, n.T[a]!⟩) ws := by
  have ha' : a < n.T.length := by rw [h.len]; exact ha
  have hc' : c < n.T.length := by rw [h.len]; exact hc
  refine ⟨h.ok.mailTo (h.ok.tab a ha') ha' hc' hl, h.len, h.jt, fun j hj s => ?_, h.kw, h.at_, fun w hw j hj h1 h2 => ?_, h.go⟩
  · show ((n.M ++ [_])[j]!).T.seen s ≤ top n k s
    rw [app_at hj]
    split
    · exact h.jl j (by assumption) s
    · exact h.jt a ha s
  · change Sw ((n.M ++ [(⟨a, c, n.T[a]!⟩ : Ltr)])[j]!).T w.e at h1
    change w.e ∉ ((n.M ++ [(⟨a, c, n.T[a]!⟩ : Ltr)])[j]!).T.L at h2
    rw [app_at hj] at h1 h2
    split at h1
    · rename_i hlt
      rw [if_pos hlt] at h2
      exact h.al w hw j hlt h1 h2
    · rename_i hlt
      rw [if_neg hlt] at h2
      exact h.at_ w hw a ha h1 h2
/-- a site's table is replaced by one that saw no less, and of its own site what it says -/
theorem Inv.setT {m k : Nat} {n : NetS} {ws vs : List Wr} (h : Inv m k n ws) {r : Nat} (hr : r < k) {t : Tab} (ht : t.Ok m)
    (hge : ∀ s, (n.T[r]!).seen s ≤ t.seen s) (hle : ∀ s, s ≠ r → t.seen s ≤ top n k s)
    (kw : ∀ w ∈ vs, w.e.site < k ∧ 1 ≤ w.e.count ∧ w.e.count ≤ top (n.setT r t) k w.e.site)
    (a1 : ∀ w ∈ vs, Sw t w.e → w.e ∉ t.L → w.any = true)
    (a2 : ∀ w ∈ vs, ∀ i, i < k → i ≠ r → Sw (n.T[i]!) w.e → w.e ∉ (n.T[i]!).L → w.any = true)
    (a3 : ∀ w ∈ vs, ∀ i, i < n.M.length → Sw (n.M[i]!).T w.e → w.e ∉ (n.M[i]!).T.L → w.any = true)
    (g1 : ∀ w ∈ vs, w.gone r = true → w.e ∉ t.L ∧ Sw t w.e)
    (g2 : ∀ w ∈ vs, ∀ i, i < k → i ≠ r → w.gone i = true → w.e ∉ (n.T[i]!).L ∧ Sw (n.T[i]!) w.e) : Inv m k (n.setT r t) vs := by
  have hat : ∀ i, i < k → (n.setT r t).T[i]! = if r = i then t else n.T[i]! := fun i hi => NetS.setT_at (by rw [h.len]; exact hi)
  have htop : ∀ s, top (n.setT r t) k s = if s = r then t.seen r else top n k s := fun s => by
    unfold top
    by_cases hs : s < k
    · rw [if_pos hs, hat s hs, if_pos hs]
      by_cases e : s = r
      · subst e; simp
      · rw [if_neg (Ne.symm e), if_neg e]
    · have : s ≠ r := by omega
      rw [if_neg hs, if_neg this, if_neg hs]
  have hmono : ∀ s, top n k s ≤ top (n.setT r t) k s := fun s => by
    rw [htop]
    split
    · rename_i e
      subst e
      unfold top
      rw [if_pos hr]
      exact hge s
    · exact Nat.le_refl _
  refine ⟨h.ok.setT r ht, by rw [NetS.setT_len]; exact h.len, fun i hi s => ?_, fun i hi s => Nat.le_trans (h.jl i hi s) (hmono s), kw, fun w hw i hi h1 h2 => ?_, a3, fun w hw i hi hg => ?_⟩
  · rw [hat i hi]
    split
    · rw [htop]
      split
      · rename_i e; rw [e]; exact Nat.le_refl _
      · exact hle s (by assumption)
    · exact Nat.le_trans (h.jt i hi s) (hmono s)
  · rw [hat i hi] at h1 h2
    by_cases e : r = i
    · rw [if_pos e] at h1 h2; exact a1 w hw h1 h2
    · rw [if_neg e] at h1 h2; exact a2 w hw i hi (Ne.symm e) h1 h2
  · rw [hat i hi]
    by_cases e : r = i
    · rw [if_pos e]; subst e; exact g1 w hw hg
    · rw [if_neg e]; exact g2 w hw i hi (Ne.symm e) hg
theorem top_own {n : NetS} {k r : Nat} (hr : r < k) : top n k r = (n.T[r]!).seen r := by unfold top; rw [if_pos hr]
theorem top_setT_ge {m k : Nat} {n : NetS} {ws : List Wr} (h : Inv m k n ws) {r : Nat} (hr : r < k) {t : Tab} (hge : ∀ s, (n.T[r]!).seen s ≤ t.seen s) (s : Nat) : top n k s ≤ top (n.setT r t) k s := by
  unfold top
  by_cases hs : s < k
  · rw [if_pos hs, if_pos hs, NetS.setT_at (by rw [h.len]; exact hs)]
    split
    · rename_i e; subst e; exact hge r
    · exact Nat.le_refl _
  · rw [if_neg hs, if_neg hs]; exact Nat.le_refl _
theorem Inv.mergeIn {m k : Nat} {n : NetS} {ws : List Wr} (h : Inv m k n ws) {i : Nat} (hi : i < n.M.length) : Inv m k (n.mergeIn i) ws := by
  obtain ⟨hlok, _, hto⟩ := h.ok.ltr i hi
  have hr : (n.M[i]!).rcv < k := by rw [← h.len]; exact hto
  have hT := h.ok.tab _ hto
  unfold NetS.mergeIn
  generalize (n.M[i]!).rcv = r at hr hT hto ⊢
  have hL := h.al
  have hm : ∀ e, e ∈ (merT (n.T[r]!) (n.M[i]!).T).L ↔ _ := fun e => mem_merS hT hlok
  refine h.setT hr (mer_ok hT hlok (Nat.le_refl _) (Nat.le_refl _)) (fun s => Nat.le_max_left _ _) (fun s _ => Nat.max_le.2 ⟨h.jt r hr s, h.jl i hi s⟩) (fun w hw => ?_) (fun w hw h1 h2 => ?_) (fun w hw j hj _ => h.at_ w hw j hj) h.al (fun w hw hg => ?_) (fun w hw j hj _ => h.go w hw j hj)
  · obtain ⟨a, b, c⟩ := h.kw w hw
    exact ⟨a, b, Nat.le_trans c (top_setT_ge h hr (fun s => Nat.le_max_left _ _) _)⟩
  · rw [hm] at h2
    rw [sw_mer] at h1
    by_cases ha : w.e ∈ (n.T[r]!).L
    · by_cases hb : w.e ∈ (n.M[i]!).T.L
      · exact absurd (.inl ⟨ha, hb⟩) h2
      · by_cases hs : Sw (n.M[i]!).T w.e
        · exact h.al w hw i hi hs hb
        · exact absurd (.inr (.inl ⟨ha, hs⟩)) h2
    · by_cases hs : Sw (n.T[r]!) w.e
      · exact h.at_ w hw r hr hs ha
      · have hs2 := h1.resolve_left hs
        by_cases hb : w.e ∈ (n.M[i]!).T.L
        · exact absurd (.inr (.inr ⟨hb, hs⟩)) h2
        · exact h.al w hw i hi hs2 hb
  · obtain ⟨ha, hs⟩ := h.go w hw r hr hg
    refine ⟨fun he => ?_, sw_mer.2 (.inl hs)⟩
    rw [hm] at he
    rcases he with ⟨x, _⟩ | ⟨x, _⟩ | ⟨_, x⟩
    · exact ha x
    · exact ha x
    · exact x hs

open Classical in
/-- what is noted of a write that a site replaced or removed -/
noncomputable def mark (T : Tab) (r : Nat) (key : ByteArray) (w : Wr) : Wr := if w.e ∈ T.L ∧ w.e.key = key then ⟨w.e, fun i => if i = r then true else w.gone i, true⟩ else w
theorem mark_e (T : Tab) (r : Nat) (key : ByteArray) (w : Wr) : (mark T r key w).e = w.e := by unfold mark; split <;> rfl
theorem mark_any {T : Tab} {r : Nat} {key : ByteArray} {w : Wr} (h : w.any = true) : (mark T r key w).any = true := by unfold mark; split <;> simp [h]
theorem mark_hit {T : Tab} {r : Nat} {key : ByteArray} {w : Wr} (h : w.e ∈ T.L ∧ w.e.key = key) : (mark T r key w).any = true := by unfold mark; rw [if_pos h]
theorem mark_gone {T : Tab} {r : Nat} {key : ByteArray} {w : Wr} {i : Nat} (h : (mark T r key w).gone i = true) : w.gone i = true ∨ (i = r ∧ w.e ∈ T.L ∧ w.e.key = key) := by
  unfold mark at h
  split at h
  · rename_i hh
    simp only at h
    split at h
    · exact .inr ⟨by assumption, hh⟩
    · exact .inl h
  · exact .inl h

theorem Inv.rem {m k : Nat} {n : NetS} {ws : List Wr} (h : Inv m k n ws) {r : Nat} (hr : r < k) (key : ByteArray) : Inv m k (n.setT r (remT (n.T[r]!) key)) (ws.map (mark (n.T[r]!) r key)) := by
  have hT := h.ok.tab r (by rw [h.len]; exact hr)
  refine h.setT hr (rem_ok hT key) (fun s => Nat.le_refl _) (fun s _ => h.jt r hr s) (fun v hv => ?_) (fun v hv h1 h2 => ?_) (fun v hv j hj _ h1 h2 => ?_) (fun v hv j hj h1 h2 => ?_) (fun v hv hg => ?_) (fun v hv j hj hne hg => ?_)
  all_goals obtain ⟨w, hw, rfl⟩ := List.mem_map.1 hv
  · rw [mark_e]
    obtain ⟨a, b, c⟩ := h.kw w hw
    exact ⟨a, b, Nat.le_trans c (top_setT_ge h hr (t := remT (n.T[r]!) key) (fun s => Nat.le_refl _) _)⟩
  · rw [mark_e] at h1 h2
    by_cases ha : w.e ∈ (n.T[r]!).L
    · by_cases hk : w.e.key = key
      · exact mark_hit ⟨ha, hk⟩
      · exact absurd (mem_rem.2 ⟨ha, hk⟩) h2
    · exact mark_any (h.at_ w hw r hr h1 ha)
  · rw [mark_e] at h1 h2; exact mark_any (h.at_ w hw j hj h1 h2)
  · rw [mark_e] at h1 h2; exact mark_any (h.al w hw j hj h1 h2)
  · rw [mark_e]
    rcases mark_gone hg with hg | ⟨_, ha, hk⟩
    · obtain ⟨a, b⟩ := h.go w hw r hr hg
      exact ⟨fun c => a (mem_rem.1 c).1, b⟩
    · exact ⟨fun c => (mem_rem.1 c).2 hk, sw_own hT ha⟩
  · rw [mark_e]
    rcases mark_gone hg with hg | ⟨e, _⟩
    · exact h.go w hw j hj hg
    · exact absurd e hne
theorem Inv.put {m k : Nat} {n : NetS} {ws : List Wr} (h : Inv m k n ws) {r : Nat} (hr : r < k) (h8 : r < 8) (key val : ByteArray) (hk : 1 ≤ key.size ∧ key.size ≤ 64) (hv : val.size ≤ 64) :
    Inv (m + 1) k (n.setT r (putT (n.T[r]!) r h8 key val)) (ws.map (mark (n.T[r]!) r key) ++ [⟨⟨key, val, r, (n.T[r]!).seen r + 1, h8⟩, fun _ => false, false⟩]) := by
  have hT := h.ok.tab r (by rw [h.len]; exact hr)
  have hP := put_ok hT h8 hk hv
  have hge : ∀ s, (n.T[r]!).seen s ≤ (putT (n.T[r]!) r h8 key val).seen s := fun s => upd_ge _ _ _
  have own : ∀ w ∈ ws, w.e ≠ ⟨key, val, r, (n.T[r]!).seen r + 1, h8⟩ := fun w hw e => by
    have := (h.kw w hw).2.2
    rw [e, top_own hr] at this
    simp at this
    omega
  have swold : ∀ w ∈ ws, Sw (putT (n.T[r]!) r h8 key val) w.e → Sw (n.T[r]!) w.e := fun w hw hs => by
    unfold Sw saw at hs ⊢
    simp only [decide_eq_true_eq] at hs ⊢
    have hkw := (h.kw w hw).2.2
    by_cases e : w.e.site = r
    · rw [e, top_own hr] at hkw; rw [e]; exact hkw
    · have : (putT (n.T[r]!) r h8 key val).seen w.e.site = (n.T[r]!).seen w.e.site := upd_other _ _ e
      rw [this] at hs; exact hs
  have new_not : ∀ U : Tab, (∀ s, U.seen s ≤ top n k s) → ¬ Sw U ⟨key, val, r, (n.T[r]!).seen r + 1, h8⟩ := fun U hU hs => by
    unfold Sw saw at hs
    simp only [decide_eq_true_eq] at hs
    have := hU r
    rw [top_own hr] at this
    omega
  refine (h.more (Nat.le_succ m)).setT hr hP hge (fun s hs => ?_) (fun v hv' => ?_) (fun v hv' h1 h2 => ?_) (fun v hv' j hj hne h1 h2 => ?_) (fun v hv' j hj h1 h2 => ?_) (fun v hv' hg => ?_) (fun v hv' j hj hne hg => ?_)
  · have : (putT (n.T[r]!) r h8 key val).seen s = (n.T[r]!).seen s := upd_other _ _ hs
    rw [this]; exact h.jt r hr s
  all_goals rcases List.mem_append.1 hv' with hv' | hv'
  all_goals first | (obtain ⟨w, hw, rfl⟩ := List.mem_map.1 hv') | (rw [List.mem_singleton] at hv'; subst hv')
  · rw [mark_e]
    obtain ⟨a, b, c⟩ := h.kw w hw
    exact ⟨a, b, Nat.le_trans c (top_setT_ge h hr hge _)⟩
  · refine ⟨hr, by simp, ?_⟩
    rw [top_own hr, NetS.setT_at (by rw [h.len]; exact hr), if_pos rfl]
    show _ ≤ upd _ _ _ _
    rw [upd_self]
    exact Nat.le_refl _
  · rw [mark_e] at h1 h2
    have h1' := swold w hw h1
    by_cases ha : w.e ∈ (n.T[r]!).L
    · by_cases hk' : w.e.key = key
      · exact mark_hit ⟨ha, hk'⟩
      · exact absurd (mem_put.2 (.inr ⟨ha, hk'⟩)) h2
    · exact mark_any (h.at_ w hw r hr h1' ha)
  · exact absurd (mem_put.2 (.inl rfl)) h2
  · rw [mark_e] at h1 h2; exact mark_any (h.at_ w hw j hj h1 h2)
  · exact absurd h1 (new_not _ (h.jt j hj))
  · rw [mark_e] at h1 h2; exact mark_any (h.al w hw j hj h1 h2)
  · exact absurd h1 (new_not _ (h.jl j hj))
  · rw [mark_e]
    rcases mark_gone hg with hg | ⟨_, ha, hk'⟩
    · obtain ⟨a, b⟩ := h.go w hw r hr hg
      refine ⟨fun c => ?_, sw_put b⟩
      rcases mem_put.1 c with e | ⟨e, _⟩
      · exact own w hw e
      · exact a e
    · refine ⟨fun c => ?_, sw_put (sw_own hT ha)⟩
      rcases mem_put.1 c with e | ⟨_, e⟩
      · exact own w hw e
      · exact e hk'
  · simp at hg
  · rw [mark_e]
    rcases mark_gone hg with hg | ⟨e, _⟩
    · exact h.go w hw j hj hg
    · exact absurd e hne
  · simp at hg
/-- the check of the law -/
theorem Inv.check {m k : Nat} {n : NetS} {ws : List Wr} (h : Inv m k n ws) {w : Wr} (hw : w ∈ ws) {i : Nat} (hi : i < k) :
    (Sw (n.T[i]!) w.e → w.e ∉ (n.T[i]!).L → w.any = true) ∧ (w.e ∈ (n.T[i]!).L → w.gone i = false) ∧ (w.e ∈ (n.T[i]!).L → Sw (n.T[i]!) w.e) := by
  refine ⟨h.at_ w hw i hi, fun he => ?_, fun he => sw_own (h.ok.tab i (by rw [h.len]; exact hi)) he⟩
  cases hg : w.gone i
  · rfl
  · exact absurd he (h.go w hw i hi hg).1
/-- a deed that writes nothing -/
theorem Inv.other {m k : Nat} {n : NetS} {ws : List Wr} (h : Inv m k n ws) (x : DeedD) (hx : ¬ (x.kind % 7 < 3 ∧ 0 ≤ x.a ∧ x.a < (k : Int))) : Inv m k (deedR n x).1 ws := by
  have hn : x.kind % 7 < 3 → ¬ n.has x.a := fun h3 hh => hx ⟨h3, hh.1, by have := hh.2; rw [h.len] at this; exact this⟩
  have del : ∀ z keep, Inv m k (n.deliver z keep).1 ws := fun z keep => by
    unfold NetS.deliver
    by_cases hz : n.hasL z
    · rw [if_pos hz]
      have hu := h.mergeIn (hasL_lt hz)
      cases keep with
      | true => rw [if_pos rfl]; exact hu
      | false => rw [if_neg (by simp)]; exact hu.drop _
    · rw [if_neg hz]; exact h
  unfold deedR
  by_cases c2 : x.kind % 7 = 2
  · rw [if_pos c2]
    unfold NetS.rem
    rw [if_neg (hn (by omega))]; exact h
  rw [if_neg c2]
  by_cases c3 : x.kind % 7 = 3
  · rw [if_pos c3]
    unfold NetS.send
    split
    · rename_i hh
      split
      · exact h
      · exact h.mailTo (by have := has_lt hh.1; rw [h.len] at this; exact this) (by have := has_lt hh.2; rw [h.len] at this; exact this) (by have := h.ok.mail; omega)
    · exact h
  rw [if_neg c3]
  by_cases c4 : x.kind % 7 = 4
  · rw [if_pos c4]; exact del _ _
  rw [if_neg c4]
  by_cases c5 : x.kind % 7 = 5
  · rw [if_pos c5]; exact del _ _
  rw [if_neg c5]
  by_cases c6 : x.kind % 7 = 6
  · rw [if_pos c6]
    unfold NetS.lose
    split
    · exact h.drop _
    · exact h
  rw [if_neg c6]
  unfold NetS.put
  rw [if_neg (hn (by omega))]; exact h
/-- a deed that writes, or fails -/
theorem Inv.write {m k : Nat} {n : NetS} {ws : List Wr} (h : Inv m k n ws) (h8 : k ≤ 8) (x : DeedD) (hx : x.kind % 7 < 3) {r : Nat} (hr : r < k) (ha : x.a = (r : Int)) :
    ((deedR n x).2 ≠ 0 ∧ (deedR n x).1 = n) ∨
    ((deedR n x).2 = 0 ∧ x.kind % 7 = 2 ∧ Inv (m + 1) k (deedR n x).1 (ws.map (mark (n.T[r]!) r x.key))) ∨
    ((deedR n x).2 = 0 ∧ x.kind % 7 < 2 ∧ ∃ hr8 : r < 8, ((deedR n x).1.T[r]!).seen r = (n.T[r]!).seen r + 1 ∧ Inv (m + 1) k (deedR n x).1 (ws.map (mark (n.T[r]!) r x.key) ++ [⟨⟨x.key, x.val, r, (n.T[r]!).seen r + 1, hr8⟩, fun _ => false, false⟩])) := by
  have hh : n.has x.a := by unfold NetS.has; rw [h.len, ha]; omega
  have hrn : x.a.toNat = r := by omega
  unfold deedR
  by_cases c2 : x.kind % 7 = 2
  · rw [if_pos c2]
    unfold NetS.rem
    rw [if_pos hh, hrn]
    exact .inr (.inl ⟨rfl, c2, (h.rem hr x.key).more (Nat.le_succ m)⟩)
  rw [if_neg c2, if_neg (by omega), if_neg (by omega), if_neg (by omega), if_neg (by omega)]
  unfold NetS.put
  rw [if_pos hh, hrn]
  by_cases he : (putR (n.T[r]!) x.a x.key x.val).2 = 0
  · rw [if_pos he]
    obtain ⟨i, hi, e, ⟨hk, hv⟩, ep⟩ := putR_zero he
    obtain rfl : i = r := by omega
    refine .inr (.inr ⟨rfl, by omega, hi, ?_, ?_⟩)
    · show ((n.setT i _).T[i]!).seen i = _
      rw [ep, NetS.setT_at (by rw [h.len]; exact hr), if_pos rfl]
      exact upd_self _ _ _
    · show Inv (m + 1) k (n.setT i _) _
      rw [ep]; exact h.put hr hi x.key x.val hk hv
  · rw [if_neg he]
    exact .inl ⟨he, rfl⟩
end Go.Proofs.Ytkpjckabdmmiaaa

/- The law's at. (By gen_nat.py.) -/
set_option linter.unusedVariables false
set_option linter.unusedSimpArgs false
namespace Go.Proofs.Ytkpjckabdmmiaaa
open Go.RowKit Go.Shelf Go.Sort

theorem hasE_nil (x : Ent) : hasE [] x = false := by unfold hasE; simp
theorem hasE_snoc (l : List Ent) (z x : Ent) : hasE (l ++ [z]) x = (hasE l x || sameE z x) := by
  unfold hasE sameE
  rw [Bool.eq_iff_iff]
  simp only [Bool.or_eq_true, decide_eq_true_eq, List.mem_append, List.mem_singleton]
  exact ⟨fun h => h.imp id Eq.symm, fun h => h.imp id Eq.symm⟩
set_option maxRecDepth 100000 in
set_option maxHeartbeats 8000000 in
theorem at_any {W : World} {m b g : Nat} {lo : Option Addr} {lc : Nat} {ts : List Slot} {ms : List LSlot} (h : NetR W m b g lo lc ts ms) (i : Nat) (hi : i < ts.length) (x : Ent) (hm : m ≤ 40000) :
    Calls Try.prog 36 #[.pointer (some ⟨b, 0, none⟩), .int .i64 (i : Int), .agg #[.string x.key, .string x.val, .int .i64 (x.site : Int), .int .i64 (x.count : Int)]] W fun e w' => e = .returned (.tuple #[.bool (hasE ts[i]!.T.L x), .bool (saw ts[i]!.T.seen x)]) ∧ Below W.heap.size W w' := by
  obtain ⟨V, hV⟩ : ∃ V, V = W.alloc (.cells #[.string x.key, .string x.val, .int .i64 (x.site : Int), .int .i64 (x.count : Int)] 85) := ⟨_, rfl⟩
  have HB : Hid (Below W.heap.size W V) := Lib.hid (by rw [hV]; exact box_below W _)
  have HX : Hid (V.heap[W.heap.size]? = some (.cells #[.string x.key, .string x.val, .int .i64 (x.site : Int), .int .i64 (x.count : Int)] 85 (0, 0))) := Lib.hid (by rw [hV]; exact heap_alloc_new _ _)
  have HN := h.keep HB.out
  have TB := netTable_in HN i hi
  have HHY := HN.held i hi
  obtain ⟨y, hy⟩ : ∃ y, y = ts[i]! := ⟨_, rfl⟩
  rw [← hy] at TB HHY ⊢
  have TB := Lib.hid TB
  have HHY := Lib.hid HHY
  have hyl := HHY.out.len
  have hyn := HHY.out.el.1
  have HV := Lib.hid hV
  clear hV h HN hy
  obtain ⟨L, hL⟩ : ∃ L, L = y.T.L := ⟨_, rfl⟩
  have EN : Hid (∀ w, Below V.heap.size V w → Calls Try.prog 28 #[.agg #[.int .i64 (y.T.seen 0 : Int), .int .i64 (y.T.seen 1 : Int), .int .i64 (y.T.seen 2 : Int), .int .i64 (y.T.seen 3 : Int), .int .i64 (y.T.seen 4 : Int), .int .i64 (y.T.seen 5 : Int), .int .i64 (y.T.seen 6 : Int), .int .i64 (y.T.seen 7 : Int), .slice y.ao y.n y.c]] w fun e w' => ∃ ao c, e = .returned (.slice ao y.n c) ∧ El w' ao y.n L ∧ Below w.heap.size w w') := Lib.hid fun w hb => by
    rw [hL]
    refine (entries_any y.T.seen y.ao y.n y.c y.T.L w (HHY.out.keep hb).el (by omega)).mono ?_
    rintro e w' ⟨ao', c', he, hel, hb'⟩
    rw [HHY.out.el.1] at he hel
    exact ⟨ao', c', he, hel, hb'⟩
  have SN : Hid (∀ w, Calls Try.prog 37 #[.agg #[.int .i64 (y.T.seen 0 : Int), .int .i64 (y.T.seen 1 : Int), .int .i64 (y.T.seen 2 : Int), .int .i64 (y.T.seen 3 : Int), .int .i64 (y.T.seen 4 : Int), .int .i64 (y.T.seen 5 : Int), .int .i64 (y.T.seen 6 : Int), .int .i64 (y.T.seen 7 : Int), .slice y.ao y.n y.c], .int .i64 (x.site : Int)] w fun e w' => e = .returned (.int .i64 (y.T.seen x.site : Int)) ∧ Below w.heap.size w w') := Lib.hid fun w => seen_in y.T.seen (.slice y.ao y.n y.c) rfl x.site x.lt w
  have HSW : Hid (saw y.T.seen x = decide ((x.count : Int) ≤ (y.T.seen x.site : Int))) := Lib.hid (by unfold saw; rw [decide_eq_decide]; omega)
  rw [← hL] at hyn ⊢
  have HYN := Lib.hid hyn
  have hyn9 : y.n ≤ 400000 := by omega
  clear hL hyn hyl
  have qe := fun z w => run_eql_ent z x w
  go_enter Try.func36, Try.ntmps36
  go_upto_region 3 with (first | (rw [← HV.out]; go_at_call 32; refine TB.out.mono ?_; rintro e w2 ⟨rfl, hb2⟩; have B2 := Lib.hid hb2; clear hb2))
  obtain ⟨V3, hV3⟩ : ∃ V3, V3 = w2.alloc (.cells #[.int .i64 (y.T.seen 0 : Int), .int .i64 (y.T.seen 1 : Int), .int .i64 (y.T.seen 2 : Int), .int .i64 (y.T.seen 3 : Int), .int .i64 (y.T.seen 4 : Int), .int .i64 (y.T.seen 5 : Int), .int .i64 (y.T.seen 6 : Int), .int .i64 (y.T.seen 7 : Int), .slice y.ao y.n y.c] 34) := ⟨_, rfl⟩
  have B3 : Hid (Below V.heap.size V V3) := Lib.hid (by rw [hV3]; exact below_then B2.out (box_below _ _))
  have BY : Hid (BoxAt V3 w2.heap.size y) := Lib.hid (by rw [hV3]; exact heap_alloc_new _ _)
  rw [← hV3]
  clear hV3 TB
  generalize w2.heap.size = D at BY ⊢
  obtain ⟨p0, p1, p2, p3, p4, p5, p6, p7, p8⟩ := cell_nine BY.out
  go_wp2_with (go_at_call 28; refine (EN.out V3 B3.out).mono ?_; rintro e w4 ⟨ao4, c4, rfl, hel4, hb4⟩; have EL := Lib.hid hel4; have B4 := Lib.hid hb4; clear hel4 hb4)
  have BY4 := Lib.hid (BY.out.keep B4.out)
  have HX4 := Lib.hid (row_keep B4.out (row_keep B3.out HX.out))
  have BW := Lib.hid (HB.out.trans ((B3.out.trans (B4.out.mono B3.out.size)).mono HB.out.size))
  clear p0 p1 p2 p3 p4 p5 p6 p7 p8 BY HX
  go_loopg [10, 12, 22] y.n (fun gg s10 _ s22 wr => ∃ j : Nat, s22 = .int .i64 (j : Int) ∧ j ≤ y.n ∧ y.n - j ≤ gg ∧ s10 = .bool (hasE (L.take j) x) ∧ Hid (Below w4.heap.size w4 wr))
  case atStart => exact ⟨0, rfl, Nat.zero_le _, by omega, by rw [List.take_zero, hasE_nil], Lib.hid (Below.refl _ _)⟩
  case round =>
    obtain ⟨j, rfl, hj, hgg, rfl, HR⟩ := hrel
    have j0 : (0 : Int) ≤ (j : Int) := by omega
    by_cases hlt : j < y.n
    · have t1 : (j : Int) < (y.n : Int) := by omega
      obtain ⟨g4, hg4, hc⟩ : ∃ g4, ao4 = some ⟨g4, 0, none⟩ ∧ At4 wr g4 (j * 4) L[j]! := by
        have he := EL.out.keep HR.out
        rcases he.2 with ⟨_, h0⟩ | ⟨g, hg, hr⟩
        · omega
        · exact ⟨g, hg, hr.2 j (by rw [HYN.out]; exact hlt)⟩
      have HTK : Hid (hasE (L.take (j + 1)) x = (hasE (L.take j) x || sameE L[j]! x)) := Lib.hid (by rw [take_succ! (by rw [HYN.out]; exact hlt), hasE_snoc])
      obtain ⟨z, hz⟩ : ∃ z, z = L[j]! := ⟨_, rfl⟩
      rw [← hz] at hc HTK
      clear hz
      obtain ⟨c0, c1, c2, c3⟩ := hc
      subst hg4
      have qz := qe z
      have hg2 := fun a b w => guard_ent .eql a b #[.string z.key, .string z.val, .int .i64 (z.site : Int), .int .i64 (z.count : Int)] #[.string x.key, .string x.val, .int .i64 (x.site : Int), .int .i64 (x.count : Int)] w
      obtain ⟨x0, x1, x2, x3⟩ := four_cells (row_keep HR.out HX4.out)
      have xl := block_lt_of_cell x0
      cases hq : hasE (L.take j) x with
      | true =>
        rw [hq] at HTK
        clear hq
        go_wp2
        go_roundg (y.n - (j + 1))
        case measure => omega
        case rel => exact ⟨j + 1, by go_num, by omega, Nat.le_refl _, by rw [HTK.out]; rfl, Lib.hid (below_then HR.out (box_below _ _))⟩
      | false =>
        rw [hq] at HTK
        clear hq
        go_wp2
        go_roundg (y.n - (j + 1))
        case measure => omega
        case rel => exact ⟨j + 1, by go_num, by omega, Nat.le_refl _, by rw [HTK.out]; rfl, Lib.hid (below_then HR.out (box_below _ _))⟩
    · obtain rfl : j = y.n := by omega
      have t1 : ¬ (y.n : Int) < (y.n : Int) := by omega
      rw [List.take_of_length_le (by rw [HYN.out]; exact Nat.le_refl _)]
      obtain ⟨x0, x1, x2, x3⟩ := four_cells (row_keep HR.out HX4.out)
      obtain ⟨p0, p1, p2, p3, p4, p5, p6, p7, p8⟩ := cell_nine (BY4.out.keep HR.out)
      clear qe
      go_upto_region 8 with fail
      go_region_law (((try go_simp); go_at_call 37; refine (SN.out wr.drew).mono ?_; rintro e w7 ⟨rfl, hb7⟩; have B7 := Lib.hid ((drew_below wr).trans hb7); have y0 := cell_later B7.out x0; have y3 := cell_later B7.out x3; clear hb7))
      all_goals go_wp2
      all_goals go_ret2
      all_goals exact ⟨rfl, BW.out.trans ((below_then HR.out B7.out).mono BW.out.size)⟩
end Go.Proofs.Ytkpjckabdmmiaaa
