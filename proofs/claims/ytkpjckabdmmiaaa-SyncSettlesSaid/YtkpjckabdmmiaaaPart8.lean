/- Part 8 of the contracts: NDeeds, NPerform, NSi, NSettlesW. -/
import Derived.IntWalk
import Derived.Test.YtkpjckabdmmiaaaPart7

/- Lists of deeds; the law's brief. (By gen_ndeeds.py.) -/
set_option linter.unusedVariables false
set_option linter.unusedSimpArgs false
namespace Go.Proofs.Ytkpjckabdmmiaaa
open Go.RowKit Go.Shelf Go.Sort

open Go.ChangeShapes Go.WideShapes Go.Joins Go.Deep
structure DeedD where
  kind : Nat
  a : Int
  b : Int
  key : ByteArray
  val : ByteArray
instance : Inhabited DeedD := ⟨⟨0, 0, 0, ByteArray.empty, ByteArray.empty⟩⟩
def DeedD.fine (x : DeedD) : Prop := x.kind ≤ 255 ∧ InWord x.a ∧ InWord x.b
/-- the five cells of a deed -/
def DeedAt (w : World) (g o : Nat) (x : DeedD) : Prop :=
  w.cell? ⟨g, o, none⟩ = some (.int .u8 (x.kind : Int)) ∧ w.cell? ⟨g, o + 1, none⟩ = some (.int .i64 x.a) ∧ w.cell? ⟨g, o + 2, none⟩ = some (.int .i64 x.b) ∧ w.cell? ⟨g, o + 3, none⟩ = some (.string x.key) ∧ w.cell? ⟨g, o + 4, none⟩ = some (.string x.val)
theorem DeedAt.keep {w w' : World} {g o B : Nat} {x : DeedD} (h : DeedAt w g o x) (hb : Below B w w') (hg : g < B) : DeedAt w' g o x := by
  obtain ⟨a, b, c, d, e⟩ := h
  refine ⟨?_, ?_, ?_, ?_, ?_⟩
  · rw [hb.cell (p := ⟨g, o, none⟩) hg]; exact a
  · rw [hb.cell (p := ⟨g, o + 1, none⟩) hg]; exact b
  · rw [hb.cell (p := ⟨g, o + 2, none⟩) hg]; exact c
  · rw [hb.cell (p := ⟨g, o + 3, none⟩) hg]; exact d
  · rw [hb.cell (p := ⟨g, o + 4, none⟩) hg]; exact e
/-- a slice of deeds -/
def Deeds (w : World) (ao : Option Addr) (len : Nat) (xs : List DeedD) : Prop :=
  xs.length = len ∧ (∀ x ∈ xs, x.fine) ∧ ∃ g o, (0 < len → ao = some ⟨g, o, none⟩) ∧ ∀ i, i < len → DeedAt w g (o + i * 5) xs[i]!
theorem Deeds.at {w : World} {ao : Option Addr} {len : Nat} {xs : List DeedD} (h : Deeds w ao len xs) {i : Nat} (hi : i < len) : ∃ g o, ao = some ⟨g, o, none⟩ ∧ DeedAt w g (o + i * 5) xs[i]! ∧ xs[i]!.fine ∧ g < w.heap.size := by
  obtain ⟨h1, h0, g, o, h2, h3⟩ := h
  exact ⟨g, o, h2 (by omega), h3 i hi, h0 _ (by rw [getElem!_pos xs i (by omega)]; exact List.getElem_mem _), block_lt_of_cell (h3 i hi).1⟩
/-- what is written into later blocks changes no deed -/
theorem Deeds.keep {w w' : World} {ao : Option Addr} {len : Nat} {xs : List DeedD} (h : Deeds w ao len xs) (hb : Below w.heap.size w w') : Deeds w' ao len xs := by
  obtain ⟨h1, h0, g, o, h2, h3⟩ := h
  exact ⟨h1, h0, g, o, h2, fun i hi => (h3 i hi).keep hb (block_lt_of_cell (h3 i hi).1)⟩

set_option maxRecDepth 100000 in
theorem open_deeds {H : Type} {enc : TypeId × Value → H} {W : World} {v : Value} {d : DataW H} {p : List MemPlace} {base : Nat}
    (hv : Value.okWide Try.prog W .any base 45 v) (h : DataW.Trod enc Try.prog W 0 (fun _ => true) true 45 v d p) :
    ∃ ao la ca xs, v = .slice ao la ca ∧ Deeds W ao la xs ∧ la ≤ 9223372036854775807 := by
  obtain ⟨ao, la, ca, rfl⟩ := okWide_slice Try.underlying45 hv
  obtain ⟨fuel, hf⟩ := h
  have hC : Try.prog.cellsOf 60 = 5 := by kernel_rfl
  rcases Go.Deep.open_slice Try.underlying45 hf with ⟨e1, _⟩ | ⟨a, len, cap, m, n, D, Pl, e1, _, hlc, hcm, hm, _, hi⟩
  · simp [Value.cells] at e1
    obtain ⟨rfl, rfl, rfl⟩ := e1
    exact ⟨none, 0, 0, [], rfl, ⟨rfl, fun x hx => by (cases hx), 0, 0, fun h => by omega, fun i hi => by omega⟩, by omega⟩
  · simp [Value.cells] at e1
    obtain ⟨rfl, rfl, rfl⟩ := e1
    have hm2 : la ≤ m := by rw [hm]; split <;> omega
    have key : ∀ i, i < la → ∃ x : DeedD, x.fine ∧ W.cell? (a.add (i * 5)) = some (.int .u8 (x.kind : Int)) ∧ W.cell? (a.add (i * 5 + 1)) = some (.int .i64 x.a) ∧ W.cell? (a.add (i * 5 + 2)) = some (.int .i64 x.b) ∧ W.cell? (a.add (i * 5 + 3)) = some (.string x.key) ∧ W.cell? (a.add (i * 5 + 4)) = some (.string x.val) := fun i hil => by
      obtain ⟨cs', hc, ht⟩ := hi i (by omega)
      rw [hC] at hc
      have h1 : oneCellFields Try.prog _ = true := (by kernel_rfl : oneCellFields Try.prog (Try.prog.fieldsOf 60) = true)
      have he : Try.prog.underlying 60 = some (.struct (Try.prog.fieldsOf 60)) := by kernel_rfl
      have hs : Try.prog.cellsOf 60 = (Try.prog.fieldsOf 60).size := by kernel_rfl
      rw [← hC] at hc
      have rd := field_read he h1 hc ht hs
      obtain ⟨v0, y0, m0, c0, t0⟩ := rd 0 5 (by kernel_rfl)
      obtain ⟨v1, y1, m1, c1, t1⟩ := rd 1 3 (by kernel_rfl)
      obtain ⟨v2, y2, m2, c2, t2⟩ := rd 2 3 (by kernel_rfl)
      obtain ⟨v3, y3, m3, c3, t3⟩ := rd 3 9 (by kernel_rfl)
      obtain ⟨v4, y4, m4, c4, t4⟩ := rd 4 9 (by kernel_rfl)
      obtain ⟨z0, e0, _, w0⟩ := DataW.trod_int Try.underlying5 t0
      obtain ⟨z1, e1, _, w1⟩ := DataW.trod_int Try.underlying3 t1
      obtain ⟨z2, e2, _, w2⟩ := DataW.trod_int Try.underlying3 t2
      obtain ⟨z3, e3, _, w3⟩ := DataW.trod_string Try.underlying9 t3
      obtain ⟨z4, e4, _, w4⟩ := DataW.trod_string Try.underlying9 t4
      obtain ⟨n0, rfl, b0⟩ := u8_nat w0
      simp only [List.cons.injEq, and_true] at e0 e1 e2 e3 e4
      subst e0 e1 e2 e3 e4
      simp only [Go.Deep.add_add] at c0 c1 c2 c3 c4
      exact ⟨⟨n0, z1, z2, z3, z4⟩, ⟨b0, bounds_i64 w1, bounds_i64 w2⟩, c0, c1, c2, c3, c4⟩
    obtain ⟨f, hf2⟩ : ∃ f : Nat → DeedD, ∀ i, i < la → (f i).fine ∧ W.cell? (a.add (i * 5)) = some (.int .u8 ((f i).kind : Int)) ∧ W.cell? (a.add (i * 5 + 1)) = some (.int .i64 (f i).a) ∧ W.cell? (a.add (i * 5 + 2)) = some (.int .i64 (f i).b) ∧ W.cell? (a.add (i * 5 + 3)) = some (.string (f i).key) ∧ W.cell? (a.add (i * 5 + 4)) = some (.string (f i).val) := by
      refine ⟨fun i => if h : i < la then Classical.choose (key i h) else default, fun i hi => ?_⟩
      simp only [dif_pos hi]
      exact Classical.choose_spec (key i hi)
    refine ⟨some a, la, ca, (List.range la).map f, rfl, ⟨by simp, fun x hx => ?_, ?_⟩, by unfold maxLen at hcm; omega⟩
    · obtain ⟨i, hi, rfl⟩ := List.mem_map.1 hx
      exact (hf2 i (by simpa using hi)).1
    · by_cases h0 : 0 < la
      · obtain ⟨b, off, spot⟩ := a
        have hspot : spot = none := by simpa [Addr.add] using World.cell?_spot (hf2 0 (by omega)).2.1
        subst hspot
        refine ⟨b, off, fun _ => rfl, fun i hi => ?_⟩
        have h1 := (hf2 i hi).2
        have e : ((List.range la).map f)[i]! = f i := by rw [getElem!_pos _ i (by simpa using hi)]; simp
        rw [e]
        simp only [add_off] at h1
        exact h1
      · exact ⟨0, 0, fun h => by omega, fun i hi => by omega⟩
/-- may the act stand? -/
def DeedD.brief (x : DeedD) : Prop := x.key.size ≤ 200 ∧ x.val.size ≤ 200
def briefB (xs : List DeedD) (len : Nat) (most : Nat) : Prop := (∀ j, j < len → j < most → xs[j]!.brief)
open Classical in
noncomputable def isBrief (xs : List DeedD) (len most : Nat) : Bool := decide (briefB xs len most) && decide (len ≤ most)

set_option maxRecDepth 100000 in
set_option maxHeartbeats 4000000 in
theorem brief_any (ao : Option Addr) (la ca most : Nat) (xs : List DeedD) (W : World) (h : Deeds W ao la xs) (hla : la ≤ 9223372036854775807) (hm : most ≤ 1000) :
    Calls Try.prog 20 #[.slice ao la ca, .int .i64 (most : Int)] W fun e w' => e = .returned (.bool (isBrief xs la most)) ∧ W = w' := by
  have HA := Lib.hid h
  have pm : (most : Int) ≤ 1000 := by omega
  have pl : (la : Int) ≤ 9223372036854775807 := by omega
  clear h
  by_cases hall : briefB xs la most
  · have e : isBrief xs la most = decide (la ≤ most) := by unfold isBrief; simp [hall]
    rw [e]
    have HS := Lib.hid hall
    clear e hall
    go_enter Try.func20, Try.ntmps20
    go_wp2
    go_loopg [5] la (fun gg s5 wr => ∃ j : Nat, s5 = .int .i64 (j : Int) ∧ j ≤ la ∧ la - j ≤ gg ∧ wr = W)
    case atStart => exact ⟨0, rfl, Nat.zero_le _, by omega, rfl⟩
    case round =>
      obtain ⟨j, rfl, hj, hgg, rfl⟩ := hrel
      by_cases h1 : j < la
      · have t1 : decide ((j : Int) < (la : Int)) = true := by simp; omega
        by_cases h2 : j < most
        · have t2 : decide ((j : Int) < (most : Int)) = true := by simp; omega
          have t3 : (j : Int) < (la : Int) := by omega
          have t4 : (0 : Int) ≤ (j : Int) := by omega
          obtain ⟨g, o, hg, hc, _, _⟩ := HA.out.at h1
          have hb := HS.out j h1 h2
          generalize xs[j]! = x at hc hb
          obtain ⟨c0, c1, c2, c3, c4⟩ := hc
          subst hg
          have t5 : decide ((200 : Int) < (x.key.size : Int)) = false := by have := hb.1; simp; omega
          have t6 : decide ((200 : Int) < (x.val.size : Int)) = false := by have := hb.2; simp; omega
          clear hb
          go_wp2
          go_roundg (la - (j + 1))
          case measure => omega
          case rel => exact ⟨j + 1, by go_num, by omega, Nat.le_refl _, rfl⟩
        · have t2 : decide ((j : Int) < (most : Int)) = false := by simp; omega
          go_wp2
          go_ret
          exact ⟨by simp, rfl⟩
      · have t1 : decide ((j : Int) < (la : Int)) = false := by simp; omega
        go_wp2
        go_ret
        exact ⟨by simp, rfl⟩
  · have e : isBrief xs la most = false := by unfold isBrief; simp [hall]
    rw [e]
    obtain ⟨k, hk, hbad, hgood⟩ : ∃ k, k < la ∧ k < most ∧ ¬ xs[k]!.brief ∧ ∀ j, j < k → xs[j]!.brief := by
      have : ∃ j, j < min la most ∧ ¬ xs[j]!.brief := Classical.byContradiction fun c => hall fun j h1 h2 => Classical.byContradiction fun c' => c ⟨j, by omega, c'⟩
      obtain ⟨k, hk, h1, h2⟩ := least_bad (p := fun j => xs[j]!.brief) _ this
      exact ⟨k, by omega, by omega, h1, h2⟩
    have HK := Lib.hid hgood.1
    have HG := Lib.hid hgood.2
    clear e hall hgood
    go_enter Try.func20, Try.ntmps20
    go_wp2
    go_loopg [5] la (fun gg s5 wr => ∃ j : Nat, s5 = .int .i64 (j : Int) ∧ j ≤ k ∧ la - j ≤ gg ∧ wr = W)
    case atStart => exact ⟨0, rfl, Nat.zero_le _, by omega, rfl⟩
    case round =>
      obtain ⟨j, rfl, hj, hgg, rfl⟩ := hrel
      have h1 : j < la := by omega
      have t1 : decide ((j : Int) < (la : Int)) = true := by simp; omega
      have t2 : decide ((j : Int) < (most : Int)) = true := by simp; omega
      have t3 : (j : Int) < (la : Int) := by omega
      have t4 : (0 : Int) ≤ (j : Int) := by omega
      obtain ⟨g, o, hg, hc, _, _⟩ := HA.out.at h1
      by_cases hjk : j < k
      · have hb := HG.out j hjk
        generalize xs[j]! = x at hc hb
        obtain ⟨c0, c1, c2, c3, c4⟩ := hc
        subst hg
        have t5 : decide ((200 : Int) < (x.key.size : Int)) = false := by have := hb.1; simp; omega
        have t6 : decide ((200 : Int) < (x.val.size : Int)) = false := by have := hb.2; simp; omega
        clear hb
        go_wp2
        go_roundg (la - (j + 1))
        case measure => omega
        case rel => exact ⟨j + 1, by go_num, by omega, by omega, rfl⟩
      · obtain rfl : j = k := by omega
        have hb := HK.out
        generalize xs[j]! = x at hc hb
        obtain ⟨c0, c1, c2, c3, c4⟩ := hc
        subst hg
        by_cases h5 : 200 < x.key.size
        · have t5 : decide ((200 : Int) < (x.key.size : Int)) = true := by simp; omega
          clear hb
          go_wp2
          go_ret
          exact ⟨rfl, rfl⟩
        · have t5 : decide ((200 : Int) < (x.key.size : Int)) = false := by simp; omega
          have t6 : decide ((200 : Int) < (x.val.size : Int)) = true := by
            have : ¬ (x.key.size ≤ 200 ∧ x.val.size ≤ 200) := hb
            simp; omega
          clear hb
          go_wp2
          go_ret
          exact ⟨rfl, rfl⟩
end Go.Proofs.Ytkpjckabdmmiaaa

/- The law's perform. (By gen_nperform.py.) -/
set_option linter.unusedVariables false
set_option linter.unusedSimpArgs false
namespace Go.Proofs.Ytkpjckabdmmiaaa
open Go.RowKit Go.Shelf Go.Sort

noncomputable def deedR (n : NetS) (x : DeedD) : NetS × Int :=
  if x.kind % 7 = 2 then n.rem x.a x.key else if x.kind % 7 = 3 then n.send x.a x.b else if x.kind % 7 = 4 then n.deliver x.a false else if x.kind % 7 = 5 then n.deliver x.a true else if x.kind % 7 = 6 then n.lose x.a else n.put x.a x.key x.val
theorem OutN.before {W V : World} {m q b g : Nat} {lo : Option Addr} {r : NetS × Int} {e : Ending} {w' : World} (hb : Below W.heap.size W V) (h : OutN V m b g lo r e w') (hq : m ≤ q) : OutN W q b g lo r e w' := by
  obtain ⟨he, lo', lc', ts', ms', h1, h2, h3, h4⟩ := h
  exact ⟨he, lo', lc', ts', ms', h1.more hq, h2, (Frm.of_below hb).trans h3 (fun _ _ e => e), fun j o s e => (h4 j o s e).imp id (fun k => Nat.le_trans hb.size k)⟩
theorem cell5 {w : World} {T : Nat} {a0 a1 a2 a3 a4 : Value} {ty : TypeId} (h : w.heap[T]? = some (.cells #[a0, a1, a2, a3, a4] ty (0, 0))) :
    w.cell? ⟨T, 0, none⟩ = some a0 ∧ w.cell? ⟨T, 1, none⟩ = some a1 ∧ w.cell? ⟨T, 2, none⟩ = some a2 ∧ w.cell? ⟨T, 3, none⟩ = some a3 ∧ w.cell? ⟨T, 4, none⟩ = some a4 := by
  refine ⟨?_, ?_, ?_, ?_, ?_⟩
  all_goals (simp only [World.cell?]; rw [h]; simp; done)

set_option maxRecDepth 100000 in
set_option maxHeartbeats 4000000 in
theorem perform_rem {W : World} {m b g : Nat} {lo : Option Addr} {lc : Nat} {ts : List Slot} {ms : List LSlot} (h : NetR W m b g lo lc ts ms) (hm : m ≤ 40000) (x : DeedD) (hf : x.fine) (hc : x.kind % 7 = 2) :
    Calls Try.prog 31 #[.pointer (some ⟨b, 0, none⟩), .agg #[.int .u8 (x.kind : Int), .int .i64 x.a, .int .i64 x.b, .string x.key, .string x.val]] W (OutN W (m + 1) b g lo ((netOf ts ms).rem x.a x.key)) := by
  obtain ⟨V, hV⟩ : ∃ V, V = W.alloc (.cells #[.int .u8 (x.kind : Int), .int .i64 x.a, .int .i64 x.b, .string x.key, .string x.val] 60) := ⟨_, rfl⟩
  have HB : Hid (Below W.heap.size W V) := Lib.hid (by rw [hV]; exact box_below W _)
  obtain ⟨d0, d1, d2, d3, d4⟩ := cell5 (w := V) (T := W.heap.size) (ty := 60) (by rw [hV]; exact heap_alloc_new _ _)
  have HN := Lib.hid (h.keep HB.out)
  have CA := Lib.hid (netRemU HN.out hm x.a x.key)
  have k1 := hf.1
  have k2 : (x.kind : Int) ≤ 255 := by omega
  have k3 : (0 : Int) ≤ (x.kind : Int) := by omega
  have m2 : (((x.kind : Int) % 7) == 2) = true := by rw [beq_iff_eq]; omega
  have m3 : (((x.kind : Int) % 7) == 3) = false := by rw [beq_eq_false_iff_ne]; omega
  have m4 : (((x.kind : Int) % 7) == 4) = false := by rw [beq_eq_false_iff_ne]; omega
  have m5 : (((x.kind : Int) % 7) == 5) = false := by rw [beq_eq_false_iff_ne]; omega
  have m6 : (((x.kind : Int) % 7) == 6) = false := by rw [beq_eq_false_iff_ne]; omega
  generalize (netOf ts ms).rem x.a x.key = r at CA ⊢
  have HV := Lib.hid hV
  clear hV h hf hc
  go_enter Try.func31, Try.ntmps31
  go_upto_region 1 with fail
  rw [← HV.out]
  go_wp2_with (go_at_call 46; refine CA.out.mono ?_; rintro e w2 ⟨rfl, ho⟩; have HO := Lib.hid ho; clear ho)
  go_ret
  exact OutN.before HB.out ⟨rfl, HO.out⟩ (by omega)

set_option maxRecDepth 100000 in
set_option maxHeartbeats 4000000 in
theorem perform_send {W : World} {m b g : Nat} {lo : Option Addr} {lc : Nat} {ts : List Slot} {ms : List LSlot} (h : NetR W m b g lo lc ts ms) (hm : m ≤ 40000) (x : DeedD) (hf : x.fine) (hc : x.kind % 7 = 3) :
    Calls Try.prog 31 #[.pointer (some ⟨b, 0, none⟩), .agg #[.int .u8 (x.kind : Int), .int .i64 x.a, .int .i64 x.b, .string x.key, .string x.val]] W (OutN W (m + 1) b g lo ((netOf ts ms).send x.a x.b)) := by
  obtain ⟨V, hV⟩ : ∃ V, V = W.alloc (.cells #[.int .u8 (x.kind : Int), .int .i64 x.a, .int .i64 x.b, .string x.key, .string x.val] 60) := ⟨_, rfl⟩
  have HB : Hid (Below W.heap.size W V) := Lib.hid (by rw [hV]; exact box_below W _)
  obtain ⟨d0, d1, d2, d3, d4⟩ := cell5 (w := V) (T := W.heap.size) (ty := 60) (by rw [hV]; exact heap_alloc_new _ _)
  have HN := Lib.hid (h.keep HB.out)
  have CA := Lib.hid (netSendU HN.out x.a x.b)
  have k1 := hf.1
  have k2 : (x.kind : Int) ≤ 255 := by omega
  have k3 : (0 : Int) ≤ (x.kind : Int) := by omega
  have m2 : (((x.kind : Int) % 7) == 2) = false := by rw [beq_eq_false_iff_ne]; omega
  have m3 : (((x.kind : Int) % 7) == 3) = true := by rw [beq_iff_eq]; omega
  have m4 : (((x.kind : Int) % 7) == 4) = false := by rw [beq_eq_false_iff_ne]; omega
  have m5 : (((x.kind : Int) % 7) == 5) = false := by rw [beq_eq_false_iff_ne]; omega
  have m6 : (((x.kind : Int) % 7) == 6) = false := by rw [beq_eq_false_iff_ne]; omega
  generalize (netOf ts ms).send x.a x.b = r at CA ⊢
  have HV := Lib.hid hV
  clear hV h hf hc
  go_enter Try.func31, Try.ntmps31
  go_upto_region 1 with fail
  rw [← HV.out]
  go_wp2_with (go_at_call 29; refine CA.out.mono ?_; rintro e w2 ⟨rfl, ho⟩; have HO := Lib.hid ho; clear ho)
  go_ret
  exact OutN.before HB.out ⟨rfl, HO.out⟩ (by omega)

set_option maxRecDepth 100000 in
set_option maxHeartbeats 4000000 in
theorem perform_del4 {W : World} {m b g : Nat} {lo : Option Addr} {lc : Nat} {ts : List Slot} {ms : List LSlot} (h : NetR W m b g lo lc ts ms) (hm : m ≤ 40000) (x : DeedD) (hf : x.fine) (hc : x.kind % 7 = 4) :
    Calls Try.prog 31 #[.pointer (some ⟨b, 0, none⟩), .agg #[.int .u8 (x.kind : Int), .int .i64 x.a, .int .i64 x.b, .string x.key, .string x.val]] W (OutN W (m + 1) b g lo ((netOf ts ms).deliver x.a false)) := by
  obtain ⟨V, hV⟩ : ∃ V, V = W.alloc (.cells #[.int .u8 (x.kind : Int), .int .i64 x.a, .int .i64 x.b, .string x.key, .string x.val] 60) := ⟨_, rfl⟩
  have HB : Hid (Below W.heap.size W V) := Lib.hid (by rw [hV]; exact box_below W _)
  obtain ⟨d0, d1, d2, d3, d4⟩ := cell5 (w := V) (T := W.heap.size) (ty := 60) (by rw [hV]; exact heap_alloc_new _ _)
  have HN := Lib.hid (h.keep HB.out)
  have CA := Lib.hid (netDelU HN.out hm x.a false)
  have k1 := hf.1
  have k2 : (x.kind : Int) ≤ 255 := by omega
  have k3 : (0 : Int) ≤ (x.kind : Int) := by omega
  have m2 : (((x.kind : Int) % 7) == 2) = false := by rw [beq_eq_false_iff_ne]; omega
  have m3 : (((x.kind : Int) % 7) == 3) = false := by rw [beq_eq_false_iff_ne]; omega
  have m4 : (((x.kind : Int) % 7) == 4) = true := by rw [beq_iff_eq]; omega
  have m5 : (((x.kind : Int) % 7) == 5) = false := by rw [beq_eq_false_iff_ne]; omega
  have m6 : (((x.kind : Int) % 7) == 6) = false := by rw [beq_eq_false_iff_ne]; omega
  generalize (netOf ts ms).deliver x.a false = r at CA ⊢
  have HV := Lib.hid hV
  clear hV h hf hc
  go_enter Try.func31, Try.ntmps31
  go_upto_region 1 with fail
  rw [← HV.out]
  go_wp2_with (go_at_call 34; refine CA.out.mono ?_; rintro e w2 ⟨rfl, ho⟩; have HO := Lib.hid ho; clear ho)
  go_ret
  exact OutN.before HB.out ⟨rfl, HO.out⟩ (by omega)

set_option maxRecDepth 100000 in
set_option maxHeartbeats 4000000 in
theorem perform_del5 {W : World} {m b g : Nat} {lo : Option Addr} {lc : Nat} {ts : List Slot} {ms : List LSlot} (h : NetR W m b g lo lc ts ms) (hm : m ≤ 40000) (x : DeedD) (hf : x.fine) (hc : x.kind % 7 = 5) :
    Calls Try.prog 31 #[.pointer (some ⟨b, 0, none⟩), .agg #[.int .u8 (x.kind : Int), .int .i64 x.a, .int .i64 x.b, .string x.key, .string x.val]] W (OutN W (m + 1) b g lo ((netOf ts ms).deliver x.a true)) := by
  obtain ⟨V, hV⟩ : ∃ V, V = W.alloc (.cells #[.int .u8 (x.kind : Int), .int .i64 x.a, .int .i64 x.b, .string x.key, .string x.val] 60) := ⟨_, rfl⟩
  have HB : Hid (Below W.heap.size W V) := Lib.hid (by rw [hV]; exact box_below W _)
  obtain ⟨d0, d1, d2, d3, d4⟩ := cell5 (w := V) (T := W.heap.size) (ty := 60) (by rw [hV]; exact heap_alloc_new _ _)
  have HN := Lib.hid (h.keep HB.out)
  have CA := Lib.hid (netDelU HN.out hm x.a true)
  have k1 := hf.1
  have k2 : (x.kind : Int) ≤ 255 := by omega
  have k3 : (0 : Int) ≤ (x.kind : Int) := by omega
  have m2 : (((x.kind : Int) % 7) == 2) = false := by rw [beq_eq_false_iff_ne]; omega
  have m3 : (((x.kind : Int) % 7) == 3) = false := by rw [beq_eq_false_iff_ne]; omega
  have m4 : (((x.kind : Int) % 7) == 4) = false := by rw [beq_eq_false_iff_ne]; omega
  have m5 : (((x.kind : Int) % 7) == 5) = true := by rw [beq_iff_eq]; omega
  have m6 : (((x.kind : Int) % 7) == 6) = false := by rw [beq_eq_false_iff_ne]; omega
  generalize (netOf ts ms).deliver x.a true = r at CA ⊢
  have HV := Lib.hid hV
  clear hV h hf hc
  go_enter Try.func31, Try.ntmps31
  go_upto_region 1 with fail
  rw [← HV.out]
  go_wp2_with (go_at_call 34; refine CA.out.mono ?_; rintro e w2 ⟨rfl, ho⟩; have HO := Lib.hid ho; clear ho)
  go_ret
  exact OutN.before HB.out ⟨rfl, HO.out⟩ (by omega)

set_option maxRecDepth 100000 in
set_option maxHeartbeats 4000000 in
theorem perform_lose {W : World} {m b g : Nat} {lo : Option Addr} {lc : Nat} {ts : List Slot} {ms : List LSlot} (h : NetR W m b g lo lc ts ms) (hm : m ≤ 40000) (x : DeedD) (hf : x.fine) (hc : x.kind % 7 = 6) :
    Calls Try.prog 31 #[.pointer (some ⟨b, 0, none⟩), .agg #[.int .u8 (x.kind : Int), .int .i64 x.a, .int .i64 x.b, .string x.key, .string x.val]] W (OutN W (m + 1) b g lo ((netOf ts ms).lose x.a)) := by
  obtain ⟨V, hV⟩ : ∃ V, V = W.alloc (.cells #[.int .u8 (x.kind : Int), .int .i64 x.a, .int .i64 x.b, .string x.key, .string x.val] 60) := ⟨_, rfl⟩
  have HB : Hid (Below W.heap.size W V) := Lib.hid (by rw [hV]; exact box_below W _)
  obtain ⟨d0, d1, d2, d3, d4⟩ := cell5 (w := V) (T := W.heap.size) (ty := 60) (by rw [hV]; exact heap_alloc_new _ _)
  have HN := Lib.hid (h.keep HB.out)
  have CA := Lib.hid (netLoseU HN.out x.a)
  have k1 := hf.1
  have k2 : (x.kind : Int) ≤ 255 := by omega
  have k3 : (0 : Int) ≤ (x.kind : Int) := by omega
  have m2 : (((x.kind : Int) % 7) == 2) = false := by rw [beq_eq_false_iff_ne]; omega
  have m3 : (((x.kind : Int) % 7) == 3) = false := by rw [beq_eq_false_iff_ne]; omega
  have m4 : (((x.kind : Int) % 7) == 4) = false := by rw [beq_eq_false_iff_ne]; omega
  have m5 : (((x.kind : Int) % 7) == 5) = false := by rw [beq_eq_false_iff_ne]; omega
  have m6 : (((x.kind : Int) % 7) == 6) = true := by rw [beq_iff_eq]; omega
  generalize (netOf ts ms).lose x.a = r at CA ⊢
  have HV := Lib.hid hV
  clear hV h hf hc
  go_enter Try.func31, Try.ntmps31
  go_upto_region 1 with fail
  rw [← HV.out]
  go_wp2_with (go_at_call 33; refine CA.out.mono ?_; rintro e w2 ⟨rfl, ho⟩; have HO := Lib.hid ho; clear ho)
  go_ret
  exact OutN.before HB.out ⟨rfl, HO.out⟩ (by omega)

set_option maxRecDepth 100000 in
set_option maxHeartbeats 4000000 in
theorem perform_put {W : World} {m b g : Nat} {lo : Option Addr} {lc : Nat} {ts : List Slot} {ms : List LSlot} (h : NetR W m b g lo lc ts ms) (hm : m ≤ 40000) (x : DeedD) (hf : x.fine) (hc : x.kind % 7 ≠ 2 ∧ x.kind % 7 ≠ 3 ∧ x.kind % 7 ≠ 4 ∧ x.kind % 7 ≠ 5 ∧ x.kind % 7 ≠ 6) :
    Calls Try.prog 31 #[.pointer (some ⟨b, 0, none⟩), .agg #[.int .u8 (x.kind : Int), .int .i64 x.a, .int .i64 x.b, .string x.key, .string x.val]] W (OutN W (m + 1) b g lo ((netOf ts ms).put x.a x.key x.val)) := by
  obtain ⟨V, hV⟩ : ∃ V, V = W.alloc (.cells #[.int .u8 (x.kind : Int), .int .i64 x.a, .int .i64 x.b, .string x.key, .string x.val] 60) := ⟨_, rfl⟩
  have HB : Hid (Below W.heap.size W V) := Lib.hid (by rw [hV]; exact box_below W _)
  obtain ⟨d0, d1, d2, d3, d4⟩ := cell5 (w := V) (T := W.heap.size) (ty := 60) (by rw [hV]; exact heap_alloc_new _ _)
  have HN := Lib.hid (h.keep HB.out)
  have CA := Lib.hid (netPutU HN.out hm x.a x.key x.val)
  have k1 := hf.1
  have k2 : (x.kind : Int) ≤ 255 := by omega
  have k3 : (0 : Int) ≤ (x.kind : Int) := by omega
  have m2 : (((x.kind : Int) % 7) == 2) = false := by rw [beq_eq_false_iff_ne]; omega
  have m3 : (((x.kind : Int) % 7) == 3) = false := by rw [beq_eq_false_iff_ne]; omega
  have m4 : (((x.kind : Int) % 7) == 4) = false := by rw [beq_eq_false_iff_ne]; omega
  have m5 : (((x.kind : Int) % 7) == 5) = false := by rw [beq_eq_false_iff_ne]; omega
  have m6 : (((x.kind : Int) % 7) == 6) = false := by rw [beq_eq_false_iff_ne]; omega
  generalize (netOf ts ms).put x.a x.key x.val = r at CA ⊢
  have HV := Lib.hid hV
  clear hV h hf hc
  go_enter Try.func31, Try.ntmps31
  go_upto_region 1 with fail
  rw [← HV.out]
  go_wp2_with (go_at_call 51; refine CA.out.mono ?_; rintro e w2 ⟨rfl, ho⟩; have HO := Lib.hid ho; clear ho)
  go_ret
  exact OutN.before HB.out ⟨rfl, HO.out⟩ (by omega)

theorem perform_any {W : World} {m b g : Nat} {lo : Option Addr} {lc : Nat} {ts : List Slot} {ms : List LSlot} (h : NetR W m b g lo lc ts ms) (hm : m ≤ 40000) (x : DeedD) (hf : x.fine) :
    Calls Try.prog 31 #[.pointer (some ⟨b, 0, none⟩), .agg #[.int .u8 (x.kind : Int), .int .i64 x.a, .int .i64 x.b, .string x.key, .string x.val]] W (OutN W (m + 1) b g lo (deedR (netOf ts ms) x)) := by
  unfold deedR
  by_cases c2 : x.kind % 7 = 2
  · rw [if_pos c2]; exact perform_rem h hm x hf c2
  rw [if_neg c2]
  by_cases c3 : x.kind % 7 = 3
  · rw [if_pos c3]; exact perform_send h hm x hf c3
  rw [if_neg c3]
  by_cases c4 : x.kind % 7 = 4
  · rw [if_pos c4]; exact perform_del4 h hm x hf c4
  rw [if_neg c4]
  by_cases c5 : x.kind % 7 = 5
  · rw [if_pos c5]; exact perform_del5 h hm x hf c5
  rw [if_neg c5]
  by_cases c6 : x.kind % 7 = 6
  · rw [if_pos c6]; exact perform_lose h hm x hf c6
  rw [if_neg c6]
  exact perform_put h hm x hf ⟨c2, c3, c4, c5, c6⟩
end Go.Proofs.Ytkpjckabdmmiaaa

/- What holds in the law on settling. (By gen_nsi.py.) -/
set_option linter.unusedVariables false
set_option linter.unusedSimpArgs false
namespace Go.Proofs.Ytkpjckabdmmiaaa
open Go.RowKit Go.Shelf Go.Sort

theorem putR_zero {T : Tab} {z : Int} {k v : ByteArray} (h : (putR T z k v).2 = 0) : ∃ (i : Nat) (hi : i < 8), z = (i : Int) ∧ ((1 ≤ k.size ∧ k.size ≤ 64) ∧ v.size ≤ 64) ∧ (putR T z k v).1 = putT T i hi k v := by
  unfold putR at h ⊢
  by_cases h1 : 0 ≤ z ∧ z.toNat < 8
  · rw [dif_pos h1] at h ⊢
    by_cases h2 : (1 ≤ k.size ∧ k.size ≤ 64) ∧ v.size ≤ 64
    · rw [if_pos h2] at h ⊢
      by_cases h3 : room T.L k = true
      · rw [if_pos h3] at h ⊢
        exact ⟨z.toNat, h1.2, by omega, h2, rfl⟩
      · rw [if_neg h3] at h; simp at h
    · rw [if_neg h2] at h; simp at h
  · rw [dif_neg h1] at h; simp at h
theorem has_lt {n : NetS} {z : Int} (h : n.has z) : z.toNat < n.T.length := by unfold NetS.has at h; omega
theorem hasL_lt {n : NetS} {z : Int} (h : n.hasL z) : z.toNat < n.M.length := by unfold NetS.hasL at h; omega
theorem NetS.mergeIn_up {m : Nat} {n : NetS} (h : n.Ok m) {i : Nat} (hi : i < n.M.length) : n.Up (n.mergeIn i) := by
  have hl := h.ltr i hi
  exact NetS.Up.setT (q := m) h _ hl.2.2 (cov_left (h.tab _ hl.2.2) hl.1)
theorem del_up {m : Nat} {n : NetS} (h : n.Ok m) (z : Int) (keep : Bool) : n.Up (n.deliver z keep).1 := by
  unfold NetS.deliver
  by_cases hz : n.hasL z
  · rw [if_pos hz]
    have hu := NetS.mergeIn_up h (hasL_lt hz)
    cases keep with
    | true => rw [if_pos rfl]; exact hu
    | false => rw [if_neg (by simp)]; exact ⟨hu.len, hu.cov⟩
  · rw [if_neg hz]; exact NetS.Up.refl h
theorem send_in {n : NetS} {a c : Nat} (ha : a < n.T.length) (hc : c < n.T.length) (hm : n.M.length < 256) : n.send (a : Int) (c : Int) = (n.mailTo ⟨a, c, n.T[a]!⟩, 0) := by
  unfold NetS.send NetS.has
  rw [if_pos ⟨⟨by omega, by omega⟩, ⟨by omega, by omega⟩⟩, if_neg (by omega)]
  rfl
theorem erase_last {α : Type} : ∀ (l : List α) (x : α), (l ++ [x]).eraseIdx l.length = l
  | [], x => by simp
  | y :: l, x => by simp [erase_last l x]
/-- a letter that is delivered at once -/
theorem del_last {n : NetS} {a c : Nat} : (n.mailTo ⟨a, c, n.T[a]!⟩).deliver ((n.M.length : Nat) : Int) false = (n.exch a c, 0) := by
  unfold NetS.deliver
  have hl : (n.mailTo ⟨a, c, n.T[a]!⟩).M.length = n.M.length + 1 := by simp [NetS.mailTo]
  have hx : (n.mailTo ⟨a, c, n.T[a]!⟩).M[n.M.length]! = ⟨a, c, n.T[a]!⟩ := by
    show (n.M ++ [_])[n.M.length]! = _
    rw [app_at (by simp), if_neg (by omega)]
  have hh : (n.mailTo ⟨a, c, n.T[a]!⟩).hasL ((n.M.length : Nat) : Int) := ⟨by omega, by rw [hl]; omega⟩
  rw [if_pos hh, if_neg (by simp), Int.toNat_natCast]
  unfold NetS.mergeIn
  rw [hx]
  unfold NetS.exch NetS.setT NetS.drop NetS.mailTo
  simp only [erase_last]
theorem deed_up {m : Nat} {n : NetS} (h : n.Ok m) (x : DeedD) : n.Up (deedR n x).1 := by
  unfold deedR
  by_cases c2 : x.kind % 7 = 2
  · rw [if_pos c2]
    unfold NetS.rem
    by_cases hz : n.has x.a
    · rw [if_pos hz]; exact NetS.Up.setT (q := m) h _ (has_lt hz) (rem_cov (h.tab _ (has_lt hz)) _)
    · rw [if_neg hz]; exact NetS.Up.refl h
  rw [if_neg c2]
  by_cases c3 : x.kind % 7 = 3
  · rw [if_pos c3]
    unfold NetS.send
    split
    · split
      · exact NetS.Up.refl h
      · exact NetS.Up.same h rfl
    · exact NetS.Up.refl h
  rw [if_neg c3]
  by_cases c4 : x.kind % 7 = 4
  · rw [if_pos c4]; exact del_up h _ _
  rw [if_neg c4]
  by_cases c5 : x.kind % 7 = 5
  · rw [if_pos c5]; exact del_up h _ _
  rw [if_neg c5]
  by_cases c6 : x.kind % 7 = 6
  · rw [if_pos c6]
    unfold NetS.lose
    split
    · exact NetS.Up.same h rfl
    · exact NetS.Up.refl h
  rw [if_neg c6]
  unfold NetS.put
  by_cases hz : n.has x.a
  · rw [if_pos hz]
    by_cases he : (putR (n.T[x.a.toNat]!) x.a x.key x.val).2 = 0
    · rw [if_pos he]
      obtain ⟨i, hi, e, ⟨hk, hv⟩, ep⟩ := putR_zero he
      exact NetS.Up.setT (q := m) h _ (has_lt hz) (by rw [ep]; exact put_cov (h.tab _ (has_lt hz)) hk hv)
    · rw [if_neg he]; exact NetS.Up.refl h
  · rw [if_neg hz]; exact NetS.Up.refl h

/-! ### the row of tables that there were -/
structure Bef (w : World) (m : Nat) (ao : Option Addr) (n cap : Nat) (bl : List Slot) : Prop where
  len : bl.length = n
  own : w.ownsRow 0 34 9 (.slice ao n cap) n (flatT bl)
  nil : n = 0 → ao = none
  held : ∀ x ∈ bl, Held w m x.T x.ao x.n
theorem Bef.start (w : World) : Bef w 0 none 0 0 [] := ⟨rfl, World.ownsRow_nil _ _ _ _, fun _ => rfl, fun x h => by cases h⟩
theorem Bef.more {w : World} {m q : Nat} {ao : Option Addr} {n cap : Nat} {bl : List Slot} (h : Bef w m ao n cap bl) (hq : m ≤ q) : Bef w q ao n cap bl := ⟨h.len, h.own, h.nil, fun x hx => (h.held x hx).more hq⟩
theorem Bef.far {G : Nat → Prop} {w w' : World} {m : Nat} {ao : Option Addr} {n cap : Nat} {bl : List Slot} (h : Bef w m ao n cap bl) (hf : Frm G w w') (hn : NoStr w G) (hd : ∀ j o s, ao = some ⟨j, o, s⟩ → ¬ G j) : Bef w' m ao n cap bl :=
  ⟨h.len, ownsRow_frm h.own hf (fun j e => by obtain ⟨o, s, e⟩ := own_block e; exact hd j o s e), h.nil, fun x hx => (h.held x hx).frm hf hn⟩
theorem Bef.keep {w w' : World} {m : Nat} {ao : Option Addr} {n cap : Nat} {bl : List Slot} (h : Bef w m ao n cap bl) (hb : Below w.heap.size w w') : Bef w' m ao n cap bl :=
  h.far (G := fun _ => False) (Frm.of_below hb) (fun _ _ e => e.elim) (fun _ _ _ _ e => e.elim)
theorem Bef.form {w : World} {m : Nat} {ao : Option Addr} {n cap : Nat} {bl : List Slot} (h : Bef w m ao n cap bl) (hn : 0 < n) : ∃ j, ao = some ⟨j, 0, none⟩ ∧ j < w.heap.size := by
  obtain ⟨j, c, hv, _, hj⟩ := h.own.form hn
  cases hv
  exact ⟨j, rfl, hj⟩
theorem Bef.at {w : World} {m : Nat} {g n cap : Nat} {bl : List Slot} (h : Bef w m (some ⟨g, 0, none⟩) n cap bl) {i : Nat} (hi : i < n) : SlotAt w g (i * 9) bl[i]! ∧ Held w m bl[i]!.T bl[i]!.ao bl[i]!.n ∧ bl[i]! ∈ bl := by
  have hil : i < bl.length := by rw [h.len]; exact hi
  have hm := mem_at hil
  have hc : ∀ c v, c < 9 → (slotC bl[i]!)[c]? = some v → w.cell? ⟨g, i * 9 + c, none⟩ = some v := fun c v hc hv => by
    have := h.own.cells (g := g) rfl (i * 9 + c) v (by rw [flatT_get _ _ _ hc, List.getElem?_eq_getElem hil, ← getElem!_pos bl i hil]; exact hv)
    rwa [add_off, Nat.zero_add] at this
  exact ⟨⟨hc 0 _ (by omega) rfl, hc 1 _ (by omega) rfl, hc 2 _ (by omega) rfl, hc 3 _ (by omega) rfl, hc 4 _ (by omega) rfl, hc 5 _ (by omega) rfl, hc 6 _ (by omega) rfl, hc 7 _ (by omega) rfl, hc 8 _ (by omega) rfl⟩, h.held _ hm, hm⟩
theorem Bef.noStr {w : World} {m : Nat} {ao : Option Addr} {n cap : Nat} {bl : List Slot} (h : Bef w m ao n cap bl) : NoStr w (fun j => ∃ o s, ao = some ⟨j, o, s⟩) := by
  rintro j hj ⟨o, s, e⟩
  have hn : 0 < n := by
    rcases Nat.eq_zero_or_pos n with h0 | h0
    · have := h.nil h0; rw [this] at e; cases e
    · exact h0
  obtain ⟨g, hg, _⟩ := h.form hn
  rw [hg] at e
  cases e
  subst hg
  have := (h.at hn).1.1
  rw [Nat.zero_mul] at this
  exact ⟨_, this, fun s e => by cases e⟩

structure SI (W wr : World) (m b g k : Nat) (lo : Option Addr) (lc : Nat) (ts : List Slot) (ms : List LSlot) (ao : Option Addr) (n cap : Nat) (bl : List Slot) : Prop where
  net : NetR wr m b g lo lc ts ms
  bef : Bef wr m ao n cap bl
  apart : ∀ j, Foot b g lo j → ∀ o s, ao ≠ some ⟨j, o, s⟩
  hi : ∀ j, Foot b g lo j → W.heap.size ≤ j
  hib : ∀ j o s, ao = some ⟨j, o, s⟩ → W.heap.size ≤ j
  below : Below W.heap.size W wr
  cov : ∀ x ∈ bl, ∃ i, i < k ∧ Cov (ts[i]!.T) x.T
  len : ts.length = k
section
variable {W wr : World} {m b g k : Nat} {lo : Option Addr} {lc : Nat} {ts : List Slot} {ms : List LSlot} {ao : Option Addr} {n cap : Nat} {bl : List Slot}
theorem SI.keep {w' : World} (h : SI W wr m b g k lo lc ts ms ao n cap bl) (hb : Below wr.heap.size wr w') : SI W w' m b g k lo lc ts ms ao n cap bl :=
  ⟨h.net.keep hb, h.bef.keep hb, h.apart, h.hi, h.hib, h.below.trans (hb.mono h.below.size), h.cov, h.len⟩
theorem SI.more {q : Nat} (h : SI W wr m b g k lo lc ts ms ao n cap bl) (hq : m ≤ q) : SI W wr q b g k lo lc ts ms ao n cap bl :=
  ⟨h.net.more hq, h.bef.more hq, h.apart, h.hi, h.hib, h.below, h.cov, h.len⟩
theorem SI.step {w' : World} {q : Nat} {r : NetS × Int} {e : Ending} (h : SI W wr m b g k lo lc ts ms ao n cap bl) (ho : OutN wr q b g lo r e w') (hq : m ≤ q) (hu : (netOf ts ms).Up r.1) :
    ∃ lo' lc' ts' ms', SI W w' q b g k lo' lc' ts' ms' ao n cap bl ∧ Hid (netOf ts' ms' = r.1) := by
  obtain ⟨_, lo', lc', ts', ms', hn, hr, hf, hl⟩ := ho
  have hfoot : ∀ j, Foot b g lo' j → Foot b g lo j ∨ wr.heap.size ≤ j := fun j hj => by
    rcases hj with e | e | ⟨o, s, e⟩
    · exact .inl (.inl e)
    · exact .inl (.inr (.inl e))
    · rcases hl j o s e with k | k
      · exact .inl (.inr (.inr k))
      · exact .inr k
  have hln : ts'.length = ts.length := by
    have := hu.len
    rw [← hr.out, netOf_len, netOf_len] at this
    exact this
  have hab : ∀ j o s, ao = some ⟨j, o, s⟩ → j < wr.heap.size := fun j o s e => (World.ownsRow.lt h.bef.own j (by rw [e]; rfl)).2
  refine ⟨lo', lc', ts', ms', ⟨hn, (h.bef.far hf h.net.noStr (fun j o s e hj => h.apart j hj o s e)).more hq, fun j hj o s e => ?_, fun j hj => ?_, h.hib, ?_, fun x hx => ?_, hln.trans h.len⟩, hr⟩
  · rcases hfoot j hj with k | k
    · exact h.apart j k o s e
    · have := hab j o s e; omega
  · rcases hfoot j hj with k | k
    · exact h.hi j k
    · exact Nat.le_trans h.below.size k
  · exact h.below.trans (hf.below h.below.size (fun j hj hF => by have := h.hi j hF; omega))
  · obtain ⟨i, hi, hc⟩ := h.cov x hx
    have hil : i < ts.length := by rw [h.len]; exact hi
    refine ⟨i, hi, ?_⟩
    have h1 := hu.cov i (by rw [netOf_len]; exact hil)
    rw [← hr.out, netOf_at hil, netOf_at (by rw [hln]; exact hil)] at h1
    exact cov_trans (hn.held i (by rw [hln]; exact hil)).ok ((h.net.held i hil).ok.more hq) ((h.bef.held x hx).ok.more hq) h1 hc
end

/-- a table is appended to the row -/
theorem wpList_appB {w : World} {ops : Array Oper} {rest : List Oper} {o : Oper} {a : Act} {Q : Exit → Act → World → Prop} (hgd : o.guard = none) (s x : Operand)
    (ho : o.op = .call { callee := .builtin .append, args := #[s, x], argTypes := #[25, 25] }) (W : World) (m b g k : Nat) (lo : Option Addr) (lc : Nat) (ts : List Slot) (ms : List LSlot) (ao : Option Addr) (n cap : Nat) (bl : List Slot) (z : Slot) (H : Nat) (t : TypeId) (hH : w.heap[H]? = some (.cells (slotC z).toArray t (0, 0))) (hs : a.eval s = .slice ao n cap)
    (hx : a.eval x = .slice (some ⟨H, 0, none⟩) 1 1) (hn : n ≤ 1000) (h : SI W w m b g k lo lc ts ms ao n cap bl) (hz : Held w m z.T z.ao z.n) (hc : ∃ i, i < k ∧ Cov (ts[i]!.T) z.T)
    (hK : ∀ g' cap' w', SI W w' m b g k lo lc ts ms (some ⟨g', 0, none⟩) (n + 1) cap' (bl ++ [z]) → wpList Try.prog ops Q rest (a.put o.dst (.slice (some ⟨g', 0, none⟩) (n + 1) cap')) w') :
    wpList Try.prog ops Q (o :: rest) a w := by
  obtain ⟨i0, hi, hz0, hz1, hz2⟩ := info_parts infoT
  refine wpList_append_lies _ hgd s x 25 ho 0 34 i0 _ 9 88 Try.underlying25 hi hz0 hz1 hz2 rfl (by decide) _ n (flatT bl) hs h.bef.own ⟨H, 0, none⟩ 1 1 (slotC z) hx (by rw [slotC_len]) ?_ (slotC_one z) (by omega) (by unfold maxLen; omega) (by omega) (Nat.zero_le _) _ rfl ?_
  · intro j u hj
    rw [add_off, Nat.zero_add]
    simp only [World.cell?]
    rw [hH]
    simpa using hj
  · intro g' cap' w' hr hg hl hlt
    have hf := grown_frm (b := b) (g := g) hg
    have hns := h.bef.noStr
    have hld : (∃ o s, ao = some ⟨g', o, s⟩) ∨ g' = w.heap.size := hl.imp own_block id
    refine hK g' cap' w' ⟨h.net.far hf hns (fun j hj ⟨o, s, e⟩ => h.apart j hj o s e), ⟨by rw [List.length_append, h.bef.len]; rfl, by rw [flatT_app]; simpa [flatT] using hr, fun e => by omega, fun u hu => ?_⟩, fun j hj o s e => ?_, h.hi, fun j o s e => ?_, ?_, fun u hu => ?_, h.len⟩
    · rcases List.mem_append.1 hu with hu | hu
      · exact (h.bef.held u hu).frm hf hns
      · rw [List.mem_singleton] at hu
        subst hu
        exact hz.frm hf hns
    · cases e
      rcases hld with ⟨o, s, e⟩ | e
      · exact h.apart _ hj o s e
      · subst e
        rcases hj with e | e | ⟨o, s, e⟩
        · have := h.net.lt_b; omega
        · have := h.net.lt_g; omega
        · exact absurd (World.ownsRow.lt h.net.lt _ (by rw [e]; rfl)).2 (Nat.lt_irrefl _)
    · cases e
      rcases hld with ⟨o, s, e⟩ | e
      · exact h.hib _ o s e
      · rw [e]; exact h.below.size
    · exact h.below.trans (hf.below h.below.size (fun j hj ⟨o, s, e⟩ => by have := h.hib j o s e; omega))
    · rcases List.mem_append.1 hu with hu | hu
      · exact h.cov u hu
      · rw [List.mem_singleton] at hu
        subst hu
        exact hc
end Go.Proofs.Ytkpjckabdmmiaaa

/- SyncSettles, walked. (By gen_nsettles.py.) -/
set_option linter.unusedVariables false
set_option linter.unusedSimpArgs false
namespace Go.Proofs.Ytkpjckabdmmiaaa
open Go.RowKit Go.Shelf Go.Sort

def Phase (n0 : NetS) (h r i : Nat) (n : NetS) : Prop := (r = 0 ∧ First n0 n h i) ∨ (r = 1 ∧ Second n (n.T[h]!) h i) ∨ (r = 2 ∧ ∀ j, j < n.T.length → n.T[j]! = n.T[h]!)
theorem exch_len (n : NetS) (a c : Nat) : (n.exch a c).T.length = n.T.length := NetS.setT_len _ _ _
theorem Phase.step0 {m : Nat} {n0 n : NetS} {h i : Nat} (ho : n.Ok m) (h0 : n0.Ok m) (hh : h < n0.T.length) (hi : i < n0.T.length) (hp : Phase n0 h 0 i n) : Phase n0 h 0 (i + 1) (n.exch i h) := by
  rcases hp with ⟨_, hf⟩ | ⟨e, _⟩ | ⟨e, _⟩
  · exact .inl ⟨rfl, hf.step ho h0 hh hi⟩
  · omega
  · omega
theorem Phase.step1 {m : Nat} {n0 n : NetS} {h i : Nat} (ho : n.Ok m) (hh : h < n.T.length) (hi : i < n.T.length) (hp : Phase n0 h 1 i n) : Phase n0 h 1 (i + 1) (n.exch h i) := by
  rcases hp with ⟨e, _⟩ | ⟨_, hs⟩ | ⟨e, _⟩
  · omega
  · have := hs.step ho hh hi
    refine .inr (.inl ⟨rfl, ?_⟩)
    rw [this.hub]
    exact this
  · omega
theorem Phase.end0 {m : Nat} {n0 n : NetS} {h i : Nat} (ho : n.Ok m) (hh : h < n0.T.length) (hi : i = n0.T.length) (hp : Phase n0 h 0 i n) : Phase n0 h 1 0 n := by
  rcases hp with ⟨_, hf⟩ | ⟨e, _⟩ | ⟨e, _⟩
  · subst hi; exact .inr (.inl ⟨rfl, hf.second ho hh⟩)
  · omega
  · omega
theorem Phase.end1 {n0 n : NetS} {h i : Nat} (hi : i = n.T.length) (hp : Phase n0 h 1 i n) : Phase n0 h 2 0 n := by
  rcases hp with ⟨e, _⟩ | ⟨_, hs⟩ | ⟨e, _⟩
  · omega
  · subst hi; exact .inr (.inr ⟨rfl, hs.all⟩)
  · omega
theorem lose_first {n : NetS} (h : 0 < n.M.length) : n.lose 0 = (n.drop 0, 0) := by
  unfold NetS.lose
  rw [if_pos (show n.hasL 0 from ⟨by omega, by omega⟩)]
  rfl
theorem len_mailed {ts ts5 : List Slot} {ms ms5 : List LSlot} {x : Ltr} (h : netOf ts5 ms5 = (netOf ts ms).mailTo x) : ms5.length = ms.length + 1 := by
  rw [← netOf_lenM (ts := ts5) (ms := ms5), h]
  show ((netOf ts ms).M ++ [x]).length = _
  rw [List.length_append, netOf_lenM]; rfl
theorem len_exch {ts ts5 : List Slot} {ms ms5 : List LSlot} {a c : Nat} (h : netOf ts5 ms5 = (netOf ts ms).exch a c) : ms5.length = ms.length := by
  rw [← netOf_lenM (ts := ts5) (ms := ms5), h]
  show ((netOf ts ms).M).length = _
  rw [netOf_lenM]
theorem all_same {l : List Slot} {t : Tab} {m : Nat} (ht : t.Ok m) (h : ∀ j, j < l.length → l[j]!.T = t) (h0 : 0 < l.length) : (l.all fun x => sameT x.T l[0]!.T) = true := by
  rw [List.all_eq_true]
  intro x hx
  obtain ⟨i, hi, rfl⟩ := at_mem hx
  rw [h i hi, h 0 h0]
  exact (sameT_iff ht ht).2 rfl

set_option maxRecDepth 100000 in
set_option maxHeartbeats 4000000 in
theorem settles_bad (s hu : Nat) (ao : Option Addr) (la ca : Nat) (xs : List DeedD) (W : World) (h : Deeds W ao la xs) (hla : la ≤ 9223372036854775807) (hs : s ≤ 255) (hh : hu ≤ 255) (hb : isBrief xs la 100 = false) : Calls Try.prog 7 #[.int .u8 (s : Int), .slice ao la ca, .int .u8 (hu : Int)] W fun e w' => e = .returned (.bool true) ∧ Below W.heap.size W w' := by
  have BR := brief_any ao la ca 100 xs W h hla (by omega)
  rw [hb] at BR
  have BR := Lib.hid BR
  clear h
  go_enter Try.func7, Try.ntmps7
  go_wp2_with (first | (go_at_call 20; refine BR.out.mono ?_; rintro e w1 ⟨rfl, rfl⟩) | (go_at_call 10; refine (awake_any _).mono ?_; rintro e w1 ⟨rfl, hb1⟩; have B1 := Lib.hid hb1; clear hb1))
  go_ret
  exact ⟨rfl, B1.out⟩

set_option maxRecDepth 100000 in
set_option maxHeartbeats 16000000 in
theorem settles_good (s hu : Nat) (ao : Option Addr) (la ca : Nat) (xs : List DeedD) (W : World) (h : Deeds W ao la xs) (hla : la ≤ 9223372036854775807) (hs : s ≤ 255) (hh : hu ≤ 255) (hb : isBrief xs la 100 = true) (hl : la ≤ 100) : Calls Try.prog 7 #[.int .u8 (s : Int), .slice ao la ca, .int .u8 (hu : Int)] W fun e w' => e = .returned (.bool true) ∧ Below W.heap.size W w' := by
  have BR := brief_any ao la ca 100 xs W h hla (by omega)
  rw [hb] at BR
  have BR := Lib.hid BR
  have HD := Lib.hid h
  obtain ⟨k, hk⟩ : ∃ k, k = 1 + s % 8 := ⟨_, rfl⟩
  have k1 : 1 ≤ k := by omega
  have k8 : k ≤ 8 := by omega
  have hkz : 1 + (s : Int) % 8 = (k : Int) := by omega
  have NN := Lib.hid (newNet_ok k W k1 k8)
  have s0 : (0 : Int) ≤ (s : Int) := by omega
  have s1 : (s : Int) ≤ 255 := by omega
  have HK := Lib.hid hk
  clear h hb hla hk
  go_enter Try.func7, Try.ntmps7
  go_upto_region 5 with (first | (go_at_call 20; refine BR.out.mono ?_; rintro e w1 ⟨rfl, rfl⟩) | (go_at_call 21; refine NN.out.mono ?_; rintro e w2 ⟨rfl, hn2, hb2⟩; have N2 := Lib.hid hn2; have B2 := Lib.hid hb2; clear hn2 hb2))
  clear hkz BR NN
  obtain ⟨b, hbe⟩ : ∃ b, b = W.heap.size + 1 := ⟨_, rfl⟩
  obtain ⟨g, hge⟩ : ∃ g, g = W.heap.size := ⟨_, rfl⟩
  have S0 : Hid (SI W w2 0 b g k none 0 (List.replicate k slot0) [] none 0 0 []) := Lib.hid ⟨by rw [hbe, hge]; exact N2.out, Bef.start _, (fun j hj o s e => by cases e), (fun j hj => by
    rcases hj with e | e | ⟨o, s, e⟩
    · omega
    · omega
    · cases e), (fun j o s e => by cases e), B2.out, (fun x hx => by cases hx), by simp⟩
  rw [← hbe]
  clear hbe hge N2 B2 s0 s1 hs
  have hkp : (0 : Int) < (k : Int) := by omega
  have hlz : (la : Int) ≤ 100 := by omega
  go_wp2
  go_loopg [10, 11, 12, 13] la (fun gg s10 s11 _ _ wr => ∃ (i : Nat) (lo : Option Addr) (lc : Nat) (ts : List Slot) (ms : List LSlot) (bo : Option Addr) (cap : Nat) (bl : List Slot), s11 = .int .i64 (i : Int) ∧ i ≤ la ∧ la - i ≤ gg ∧ s10 = .slice bo i cap ∧ Hid (SI W wr i b g k lo lc ts ms bo i cap bl))
  case atStart => exact ⟨0, none, 0, _, [], none, 0, [], rfl, Nat.zero_le _, by omega, rfl, S0⟩
  case round =>
    clear S0
    obtain ⟨i, lo, lc, ts, ms, bo, cap, bl, rfl, hi, hgg, rfl, HS⟩ := hrel
    have i0 : (0 : Int) ≤ (i : Int) := by omega
    by_cases hlt : i < la
    · have t1 : (i : Int) < (la : Int) := by omega
      obtain ⟨ga, oa, hga, hd, hfine, hgl⟩ := (HD.out.keep HS.out.below).at hlt
      obtain ⟨x, hx⟩ : ∃ x, x = xs[i]! := ⟨_, rfl⟩
      rw [← hx] at hd hfine
      clear hx
      subst hga
      obtain ⟨d0, d1, d2, d3, d4⟩ := hd
      have CP := Lib.hid (perform_any HS.out.net (by omega) x hfine)
      have UP := Lib.hid (deed_up HS.out.net.ok x)
      have hq1 : (i : Int).tmod (k : Int) = ((i % k : Nat) : Int) := by rw [Int.tmod_eq_emod_of_nonneg (by omega)]; rfl
      have hqk : i % k < k := Nat.mod_lt _ (by omega)
      have hkne : ¬ (k : Int) = 0 := by omega
      have hkne2 : ¬ k = 0 := by omega
      clear hgl hfine
      go_wp2_with (first | (go_at_call 31; refine CP.out.mono ?_; intro e w3 ho; obtain rfl := ho.1; obtain ⟨lo', lc', ts', ms', hs3, hr3⟩ := HS.out.step ho (Nat.le_succ i) UP.out; have HS3 := Lib.hid hs3; have TB := netTable_in hs3.net (i % k) (by rw [hs3.len]; exact hqk); obtain ⟨y, hy⟩ : ∃ y, y = ts'[i % k]! := ⟨_, rfl⟩; rw [← hy] at TB; have TB := Lib.hid TB; have HY := Lib.hid hy; clear ho hs3 hr3 hy) | (go_at_call 32; refine TB.out.mono ?_; rintro e w4 ⟨rfl, hb4⟩; have HS4 := Lib.hid (HS3.out.keep hb4); clear hb4) | (at_builtin; refine wpList_appB rfl (.tmp 59) (.tmp 61) rfl W (i + 1) b g k lo' lc' ts' ms' bo i cap bl y (w4.heap.size + 1) 34 (block2 w4 _ _) rfl rfl (by omega) (HS4.out.keep (below2 w4 _ _)) (by have := HS4.out.net.held (i % k) (by rw [HS4.out.len]; exact hqk); rw [← HY.out] at this; exact this.keep (below2 w4 _ _)) ⟨i % k, hqk, by have := HS4.out.net.held (i % k) (by rw [HS4.out.len]; exact hqk); rw [← HY.out] at this ⊢; exact cov_refl this.ok⟩ ?_; intro g5 cap5 w5 hs5; have HS5 := Lib.hid hs5; clear hs5))
      go_roundg (la - (i + 1))
      case measure => omega
      case rel => exact ⟨i + 1, lo', lc', ts', ms', some ⟨g5, 0, none⟩, cap5, _, by go_num, by omega, Nat.le_refl _, rfl, HS5⟩
    · obtain rfl : i = la := by omega
      have t1 : ¬ (i : Int) < (i : Int) := by omega
      clear HD hlt HK
      go_wp2
      go_loopg [6] 257 (fun gg _ wr => ∃ (lo : Option Addr) (lc : Nat) (ts : List Slot) (ms : List LSlot), ms.length ≤ gg ∧ Hid (SI W wr i b g k lo lc ts ms bo i cap bl))
      case atStart => exact ⟨lo, lc, ts, ms, by have := HS.out.net.most; omega, HS⟩
      case round =>
        clear HS
        obtain ⟨lo, lc, ts, ms, hgm, HS⟩ := hrel
        have LT := Lib.hid (letters_any HS.out.net)
        have hmost := HS.out.net.most
        by_cases h2 : 248 < ms.length
        · have t2 : decide ((248 : Int) < (ms.length : Int)) = true := by simp; omega
          have t3 : (248 : Int) < (ms.length : Int) := by omega
          have e1 : (netOf ts ms).lose 0 = ((netOf ts ms).drop 0, 0) := lose_first (by rw [netOf_lenM]; omega)
          have E1 := Lib.hid e1
          clear e1
          go_wp2_with (first | (go_at_call 30; refine LT.out.mono ?_; rintro e w4 ⟨ao4, c4, rfl, hr4, hb4⟩; have HS4 := Lib.hid (HS.out.keep hb4); clear hr4 hb4) | (go_at_call 33; have LO := netLoseU HS4.out.net 0; rw [E1.out] at LO; refine LO.mono ?_; intro e w5 ho; obtain rfl := ho.1; obtain ⟨lo', lc', ts', ms', hs5, hr5⟩ := HS4.out.step ho (Nat.le_refl i) (NetS.Up.same HS4.out.net.ok rfl); have HS5 := Lib.hid hs5; have HL5 : Hid (ms'.length = ms.length - 1) := Lib.hid (by rw [← netOf_lenM (ts := ts') (ms := ms'), hr5.out]; show ((netOf ts ms).M.eraseIdx 0).length = _; rw [List.length_eraseIdx_of_lt (by rw [netOf_lenM]; omega), netOf_lenM]); clear LO ho hs5 hr5))
          go_roundg (gk - 1)
          case measure => omega
          case rel => exact ⟨lo', lc', ts', ms', by rw [HL5.out]; omega, HS5⟩
        · have t2 : decide ((248 : Int) < (ms.length : Int)) = false := by simp; omega
          have t3 : ¬ (248 : Int) < (ms.length : Int) := by omega
          obtain ⟨hN, hhN⟩ : ∃ hN, hN = hu % k := ⟨_, rfl⟩
          have hNk : hN < k := by rw [hhN]; exact Nat.mod_lt _ (by omega)
          have hkne : ¬ (k : Int) = 0 := by omega
          have hkne2 : ¬ k = 0 := by omega
          have hu0 : (0 : Int) ≤ (hu : Int) := by omega
          have hu1 : (hu : Int) ≤ 255 := by omega
          have hq2 : (hu : Int).tmod (k : Int) = (hN : Int) := by rw [Int.tmod_eq_emod_of_nonneg (by omega), hhN]; rfl
          have hq3 : (hu : Int) % (k : Int) = (hN : Int) := by rw [hhN]; rfl
          have hN0 : (0 : Int) ≤ (hN : Int) := by omega
          clear hhN
          go_wp2_with (go_at_call 30; refine LT.out.mono ?_; rintro e w4 ⟨ao4, c4, rfl, hr4, hb4⟩; have HS4 := Lib.hid (HS.out.keep hb4); clear hr4 hb4)
          go_loopg [15, 16, 17, 18] 2 (fun gg s15 _ _ _ wr => ∃ (r : Nat) (lo2 : Option Addr) (lc2 : Nat) (ts2 : List Slot) (ms2 : List LSlot), s15 = .int .i64 (r : Int) ∧ r ≤ 2 ∧ 2 - r ≤ gg ∧ ms2.length ≤ 248 ∧ Hid (SI W wr i b g k lo2 lc2 ts2 ms2 bo i cap bl) ∧ Hid (Phase (netOf ts ms) hN r 0 (netOf ts2 ms2)))
          case atStart => exact ⟨0, lo, lc, ts, ms, rfl, by omega, by omega, by omega, HS4, Lib.hid (.inl ⟨rfl, First.start HS4.out.net.ok (by rw [netOf_len, HS4.out.len]; exact hNk)⟩)⟩
          case round =>
            have OK0 := Lib.hid HS4.out.net.ok
            have LEN0 : Hid ((netOf ts ms).T.length = k) := Lib.hid (by rw [netOf_len]; exact HS4.out.len)
            clear HS HS4 LT h2 t2 t3 hgm hmost hq2 hq3
            generalize netOf ts ms = n0 at *
            obtain ⟨r, lo, lc, ts, ms, rfl, hr, hgr, hml, HS, HP⟩ := hrel
            by_cases hr2 : r < 2
            · have u1 : (r : Int) < 2 := by omega
              obtain ⟨W1, rfl⟩ : ∃ w, w = wr := ⟨wr, rfl⟩
              go_wp2
              go_loopg [16, 17, 18] k (fun gg s16 _ _ wq => ∃ (j : Nat) (lo2 : Option Addr) (lc2 : Nat) (ts2 : List Slot) (ms2 : List LSlot), s16 = .int .i64 (j : Int) ∧ j ≤ k ∧ k - j ≤ gg ∧ ms2.length ≤ 248 ∧ Hid (SI W wq i b g k lo2 lc2 ts2 ms2 bo i cap bl) ∧ Hid (Phase n0 hN r j (netOf ts2 ms2)))
              case atStart => exact ⟨0, lo, lc, ts, ms, rfl, Nat.zero_le _, by omega, hml, HS, HP⟩
              case round =>
                clear HS HP hml
                obtain ⟨j, lo, lc, ts, ms, rfl, hj, hgj, hml, HS, HP⟩ := hrel
                by_cases hjk : j < k
                · have u2 : (j : Int) < (k : Int) := by omega
                  have u3 : (0 : Int) ≤ (j : Int) := by omega
                  have u4 : IntKind.i64.wrap ((ms.length : Int) + 1 - 1) = (ms.length : Int) := by rw [IntWalk.i64_in _ (by omega)]; omega
                  have u5 : (ms.length : Int) + 1 - 1 = (ms.length : Int) := by omega
                  have hlt2 := HS.out.len
                  have SL := HS.out.net.ok
                  by_cases hr0 : r = 0
                  · subst hr0
                    have SE := netSendU HS.out.net (j : Int) (hN : Int)
                    rw [send_in (by rw [netOf_len, hlt2]; exact hjk) (by rw [netOf_len, hlt2]; exact hNk) (by rw [netOf_lenM]; omega)] at SE
                    have SE := Lib.hid SE
                    have PN := Lib.hid (HP.out.step0 SL OK0.out (by rw [LEN0.out]; exact hNk) (by rw [LEN0.out]; exact hjk))
                    clear hlt2 SL HP
                    go_wp2_with (first | (go_at_call 29; refine SE.out.mono ?_; intro e w5 ho; obtain rfl := ho.1; obtain ⟨lo5, lc5, ts5, ms5, hs5, hr5⟩ := HS.out.step ho (Nat.le_refl i) (NetS.Up.same HS.out.net.ok rfl); have HS5 := Lib.hid hs5; have HR5 := Lib.hid hr5.out; have LT5 := letters_any hs5.net; have hl5 := len_mailed hr5.out; rw [hl5] at LT5; have LT5 := Lib.hid LT5; clear ho hs5 hr5 hl5) | (go_at_call 30; refine LT5.out.mono ?_; rintro e w6 ⟨ao6, c6, rfl, hr6, hb6⟩; have HS6 := Lib.hid (HS5.out.keep hb6); clear hr6 hb6) | (go_at_call 34; have DE := netDelU HS6.out.net (by omega) ((ms.length : Nat) : Int) false; rw [HR5.out] at DE; rw [← netOf_lenM (ts := ts) (ms := ms), del_last] at DE; rw [netOf_lenM] at DE; refine DE.mono ?_; intro e w7 ho; obtain rfl := ho.1; obtain ⟨lo7, lc7, ts7, ms7, hs7, hr7⟩ := HS6.out.step ho (Nat.le_refl i) (by rw [HR5.out, ← del_last]; exact del_up (by rw [← HR5.out]; exact HS6.out.net.ok) _ _); have HS7 := Lib.hid hs7; have HR7 := Lib.hid hr7.out; clear DE ho hs7 hr7))
                    go_roundg (k - (j + 1))
                    case measure => omega
                    case rel => exact ⟨j + 1, lo7, lc7, ts7, ms7, by go_num, by omega, Nat.le_refl _, by rw [len_exch HR7.out]; exact hml, HS7, Lib.hid (by rw [HR7.out]; exact PN.out)⟩
                  · obtain rfl : r = 1 := by omega
                    have SE := netSendU HS.out.net (hN : Int) (j : Int)
                    rw [send_in (by rw [netOf_len, hlt2]; exact hNk) (by rw [netOf_len, hlt2]; exact hjk) (by rw [netOf_lenM]; omega)] at SE
                    have SE := Lib.hid SE
                    have PN := Lib.hid (HP.out.step1 SL (by rw [netOf_len, hlt2]; exact hNk) (by rw [netOf_len, hlt2]; exact hjk))
                    clear hlt2 SL HP
                    go_wp2_with (first | (go_at_call 29; refine SE.out.mono ?_; intro e w5 ho; obtain rfl := ho.1; obtain ⟨lo5, lc5, ts5, ms5, hs5, hr5⟩ := HS.out.step ho (Nat.le_refl i) (NetS.Up.same HS.out.net.ok rfl); have HS5 := Lib.hid hs5; have HR5 := Lib.hid hr5.out; have LT5 := letters_any hs5.net; have hl5 := len_mailed hr5.out; rw [hl5] at LT5; have LT5 := Lib.hid LT5; clear ho hs5 hr5 hl5) | (go_at_call 30; refine LT5.out.mono ?_; rintro e w6 ⟨ao6, c6, rfl, hr6, hb6⟩; have HS6 := Lib.hid (HS5.out.keep hb6); clear hr6 hb6) | (go_at_call 34; have DE := netDelU HS6.out.net (by omega) ((ms.length : Nat) : Int) false; rw [HR5.out] at DE; rw [← netOf_lenM (ts := ts) (ms := ms), del_last] at DE; rw [netOf_lenM] at DE; refine DE.mono ?_; intro e w7 ho; obtain rfl := ho.1; obtain ⟨lo7, lc7, ts7, ms7, hs7, hr7⟩ := HS6.out.step ho (Nat.le_refl i) (by rw [HR5.out, ← del_last]; exact del_up (by rw [← HR5.out]; exact HS6.out.net.ok) _ _); have HS7 := Lib.hid hs7; have HR7 := Lib.hid hr7.out; clear DE ho hs7 hr7))
                    go_roundg (k - (j + 1))
                    case measure => omega
                    case rel => exact ⟨j + 1, lo7, lc7, ts7, ms7, by go_num, by omega, Nat.le_refl _, by rw [len_exch HR7.out]; exact hml, HS7, Lib.hid (by rw [HR7.out]; exact PN.out)⟩
                · obtain rfl : j = k := by omega
                  have u2 : ¬ (j : Int) < (j : Int) := by omega
                  have HPE : Hid (Phase n0 hN (r + 1) 0 (netOf ts ms)) := by
                    by_cases hr0 : r = 0
                    · subst hr0
                      exact HP.out.end0 HS.out.net.ok (by rw [LEN0.out]; exact hNk) LEN0.out.symm
                    · obtain rfl : r = 1 := by omega
                      exact HP.out.end1 (by rw [netOf_len]; exact HS.out.len.symm)
                  clear HP
                  go_wp2
                  go_roundg (2 - (r + 1))
                  case measure => omega
                  case rel => exact ⟨r + 1, lo, lc, ts, ms, by go_num, by omega, Nat.le_refl _, hml, HS, HPE⟩
            · obtain rfl : r = 2 := by omega
              have u1 : ¬ ((2 : Nat) : Int) < 2 := by omega
              have HALL : Hid (∀ j, j < k → ts[j]!.T = ts[hN]!.T) := by
                rcases HP.out with ⟨e, _⟩ | ⟨e, _⟩ | ⟨_, ha⟩
                · omega
                · omega
                · intro j hj
                  have := ha j (by rw [netOf_len, HS.out.len]; exact hj)
                  rwa [netOf_at (by rw [HS.out.len]; exact hj), netOf_at (by rw [HS.out.len]; exact hNk)] at this
              have TB := netTable_in HS.out.net hN (by rw [HS.out.len]; exact hNk)
              obtain ⟨y, hy⟩ : ∃ y, y = ts[hN]! := ⟨_, rfl⟩
              rw [← hy] at TB HALL
              have TB := Lib.hid TB
              have HHY := HS.out.net.held hN (by rw [HS.out.len]; exact hNk)
              rw [← hy] at HHY
              have HHY := Lib.hid HHY
              clear hy HP OK0 LEN0
              go_wp2_with (go_at_call 32; refine TB.out.mono ?_; rintro e w4 ⟨rfl, hb4⟩; have B4 := Lib.hid hb4; clear hb4)
              obtain ⟨V5, hV5⟩ : ∃ V5, V5 = w4.alloc (.cells #[.int .i64 (y.T.seen 0 : Int), .int .i64 (y.T.seen 1 : Int), .int .i64 (y.T.seen 2 : Int), .int .i64 (y.T.seen 3 : Int), .int .i64 (y.T.seen 4 : Int), .int .i64 (y.T.seen 5 : Int), .int .i64 (y.T.seen 6 : Int), .int .i64 (y.T.seen 7 : Int), .slice y.ao y.n y.c] 34) := ⟨_, rfl⟩
              have B5 : Hid (Below w4.heap.size w4 V5) := Lib.hid (by rw [hV5]; exact box_below _ _)
              have BY : Hid (BoxAt V5 w4.heap.size y) := Lib.hid (by rw [hV5]; exact heap_alloc_new _ _)
              have HS5 := Lib.hid ((HS.out.keep B4.out).keep B5.out)
              have HY5 := Lib.hid ((HHY.out.keep B4.out).keep B5.out)
              rw [← hV5]
              clear hV5 HS B4 B5 HHY TB
              generalize w4.heap.size = D at BY ⊢
              go_loopg [21] i (fun gg s21 wr => ∃ (j : Nat), s21 = .int .i64 (j : Int) ∧ j ≤ i ∧ i - j ≤ gg ∧ Hid (SI W wr i b g k lo lc ts ms bo i cap bl) ∧ Hid (BoxAt wr D y) ∧ Hid (Held wr i y.T y.ao y.n))
              case atStart => exact ⟨0, rfl, Nat.zero_le _, by omega, HS5, BY, HY5⟩
              case round =>
                clear HS5 BY HY5
                obtain ⟨j, rfl, hj, hgj, HS, BY, HY⟩ := hrel
                by_cases hji : j < i
                · have u1 : (j : Int) < (i : Int) := by omega
                  have u2 : (0 : Int) ≤ (j : Int) := by omega
                  obtain ⟨gb, hgb, _⟩ := HS.out.bef.form (by omega)
                  subst hgb
                  obtain ⟨qa, qh, qm⟩ := HS.out.bef.at hji
                  obtain ⟨i0, hi0, hcv⟩ := HS.out.cov _ qm
                  rw [HALL.out i0 hi0] at hcv
                  obtain ⟨z, hz⟩ : ∃ z, z = bl[j]! := ⟨_, rfl⟩
                  rw [← hz] at qa qh hcv
                  clear hz qm hi0
                  have CO : Hid (∀ w, Below wr.heap.size wr w → Calls Try.prog 18 #[.agg #[.int .i64 (y.T.seen 0 : Int), .int .i64 (y.T.seen 1 : Int), .int .i64 (y.T.seen 2 : Int), .int .i64 (y.T.seen 3 : Int), .int .i64 (y.T.seen 4 : Int), .int .i64 (y.T.seen 5 : Int), .int .i64 (y.T.seen 6 : Int), .int .i64 (y.T.seen 7 : Int), .slice y.ao y.n y.c], .agg #[.int .i64 (z.T.seen 0 : Int), .int .i64 (z.T.seen 1 : Int), .int .i64 (z.T.seen 2 : Int), .int .i64 (z.T.seen 3 : Int), .int .i64 (z.T.seen 4 : Int), .int .i64 (z.T.seen 5 : Int), .int .i64 (z.T.seen 6 : Int), .int .i64 (z.T.seen 7 : Int), .slice z.ao z.n z.c]] w fun e w' => e = .returned (.bool true) ∧ Below w.heap.size w w') := Lib.hid fun w hb => by
                    have := coversA y.c z.c (HY.out.keep hb) (qh.keep hb) (by omega)
                    rwa [show sameT (merT y.T z.T) y.T = true from (sameT_iff (mer_ok HY.out.ok qh.ok (Nat.le_refl _) (Nat.le_refl _)) HY.out.ok).2 hcv] at this
                  obtain ⟨q0, q1, q2, q3, q4, q5, q6, q7, q8⟩ := qa
                  obtain ⟨r0, r1, r2, r3, r4, r5, r6, r7, r8⟩ := cell_nine BY.out
                  clear qh hcv
                  go_upto_region 35 with fail
                  go_region_law (((try go_simp); go_at_call 18; refine (CO.out wr.drew (drew_below wr)).mono ?_; rintro e w7 ⟨rfl, hb7⟩; have B7 := Lib.hid ((drew_below wr).trans hb7); clear hb7))
                  all_goals go_wp2
                  all_goals go_roundg (i - (j + 1))
                  all_goals first | exact ⟨j + 1, by go_num, by omega, Nat.le_refl _, Lib.hid (HS.out.keep B7.out), Lib.hid (BY.out.keep B7.out), Lib.hid (HY.out.keep B7.out)⟩ | omega
                · obtain rfl : j = i := by omega
                  have u1 : ¬ (j : Int) < (j : Int) := by omega
                  have ST := settled_any HS.out.net (by omega)
                  rw [all_same HY.out.ok (fun q hq => HALL.out q (by rw [← HS.out.len]; exact hq)) (by rw [HS.out.len]; omega)] at ST
                  have ST := Lib.hid ST
                  go_wp2_with (first | (go_at_call 35; refine ST.out.mono ?_; rintro e w8 ⟨rfl, hb8⟩; have B8 := Lib.hid (HS.out.below.trans (hb8.mono HS.out.below.size)); clear hb8) | (go_at_call 10; refine (awake_any _).mono ?_; rintro e w9 ⟨rfl, hb9⟩; have B9 := Lib.hid (B8.out.trans (hb9.mono B8.out.size)); clear hb9))
                  go_ret
                  exact ⟨rfl, B9.out⟩

theorem settles_walk (s hu : Nat) (ao : Option Addr) (la ca : Nat) (xs : List DeedD) (W : World) (h : Deeds W ao la xs) (hla : la ≤ 9223372036854775807) (hs : s ≤ 255) (hh : hu ≤ 255) : Calls Try.prog 7 #[.int .u8 (s : Int), .slice ao la ca, .int .u8 (hu : Int)] W fun e w' => e = .returned (.bool true) ∧ Below W.heap.size W w' := by
  cases hb : isBrief xs la 100
  · exact settles_bad s hu ao la ca xs W h hla hs hh hb
  · refine settles_good s hu ao la ca xs W h hla hs hh hb ?_
    unfold isBrief at hb
    rw [Bool.and_eq_true] at hb
    exact of_decide_eq_true hb.2
end Go.Proofs.Ytkpjckabdmmiaaa
