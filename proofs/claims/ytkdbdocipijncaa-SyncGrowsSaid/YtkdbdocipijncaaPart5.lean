/- Part 5 of the contracts: SSame0, SLaw, SNobodyW, SAlike, SActs, SShort, STabs. -/
import Derived.Carry
import Derived.Lib.SmallJoins
import Derived.ProofKit
import Derived.OpenShut
import Derived.ChangeMaps5
import Derived.Deep.Fields
import Derived.ChangeSame
import Derived.Deep.Slices
import Derived.Test.YtkdbdocipijncaaPart4

/- The law's same of two zero tables. (By gen_same0.py.) -/
set_option linter.unusedVariables false
set_option linter.unusedSimpArgs false
namespace Go.Proofs.Ytkdbdocipijncaa
open Go.RowKit Go.Shelf Go.Sort

set_option maxRecDepth 100000 in
set_option maxHeartbeats 2000000 in
theorem alike_nil (a1 a2 : Option Addr) (c1 c2 : Nat) (W : World) : Calls Try.prog 45 #[.slice a1 0 c1, .slice a2 0 c2] W fun e w' => e = .returned (.bool true) ∧ W = w' := by
  go_enter Try.func45, Try.ntmps45
  go_wp2
  go_loopg [5] 0 (fun gg s5 wr => s5 = .int .i64 0 ∧ wr = W)
  case atStart => exact ⟨rfl, rfl⟩
  case round =>
    obtain ⟨rfl, rfl⟩ := hrel
    go_wp2
    go_ret
    exact ⟨rfl, rfl⟩

theorem seenZ (z : Int) (W : World) : Calls Try.prog 44 #[.agg #[.int .i64 0, .int .i64 0, .int .i64 0, .int .i64 0, .int .i64 0, .int .i64 0, .int .i64 0, .int .i64 0, .slice none 0 0], .int .i64 z] W fun r w' => r = .returned (.int .i64 0) ∧ Below W.heap.size W w' := by
  by_cases h : 0 ≤ z ∧ z < 8
  · obtain ⟨i, rfl⟩ := Int.eq_ofNat_of_zero_le h.1
    exact seen_in (fun _ => 0) (.slice none 0 0) rfl i (by omega) W
  · exact seen_out (fun _ => 0) (.slice none 0 0) rfl z (by omega) W
theorem entriesZ (W : World) : Calls Try.prog 32 #[.agg #[.int .i64 0, .int .i64 0, .int .i64 0, .int .i64 0, .int .i64 0, .int .i64 0, .int .i64 0, .int .i64 0, .slice none 0 0]] W fun e w' => ∃ ao c, e = .returned (.slice ao 0 c) ∧ Below W.heap.size W w' := by
  refine (show Calls Try.prog 32 #[.agg #[.int .i64 0, .int .i64 0, .int .i64 0, .int .i64 0, .int .i64 0, .int .i64 0, .int .i64 0, .int .i64 0, .slice none 0 0]] W (OutE W.heap.size W []) from entries_any (fun _ => 0) none 0 0 [] W (El.nil W) (by omega)).mono ?_
  rintro e w' ⟨ao, c, he, _, hb⟩
  exact ⟨ao, c, he, hb⟩

set_option maxRecDepth 100000 in
set_option maxHeartbeats 8000000 in
theorem same_zero (W : World) : Calls Try.prog 16 #[.agg #[.int .i64 0, .int .i64 0, .int .i64 0, .int .i64 0, .int .i64 0, .int .i64 0, .int .i64 0, .int .i64 0, .slice none 0 0], .agg #[.int .i64 0, .int .i64 0, .int .i64 0, .int .i64 0, .int .i64 0, .int .i64 0, .int .i64 0, .int .i64 0, .slice none 0 0]] W fun e w' => e = .returned (.bool true) ∧ Below W.heap.size W w' := by
  obtain ⟨V, hV⟩ : ∃ V, V = (W.alloc (.cells #[.int .i64 0, .int .i64 0, .int .i64 0, .int .i64 0, .int .i64 0, .int .i64 0, .int .i64 0, .int .i64 0, .slice none 0 0] 34)).alloc (.cells #[.int .i64 0, .int .i64 0, .int .i64 0, .int .i64 0, .int .i64 0, .int .i64 0, .int .i64 0, .int .i64 0, .slice none 0 0] 36) := ⟨_, rfl⟩
  have HBV : Hid (Below W.heap.size W V) := Lib.hid (by rw [hV]; exact below2 W _ _)
  have TA : Hid (V.heap[W.heap.size]? = some (.cells #[.int .i64 0, .int .i64 0, .int .i64 0, .int .i64 0, .int .i64 0, .int .i64 0, .int .i64 0, .int .i64 0, .slice none 0 0] 34 (0, 0))) := Lib.hid (by rw [hV]; exact block1 W _ _)
  have TR : Hid (V.heap[W.heap.size + 1]? = some (.cells #[.int .i64 0, .int .i64 0, .int .i64 0, .int .i64 0, .int .i64 0, .int .i64 0, .int .i64 0, .int .i64 0, .slice none 0 0] 36 (0, 0))) := Lib.hid (by rw [hV]; exact block2 W _ _)
  have HV := Lib.hid hV
  clear hV
  go_enter Try.func16, Try.ntmps16
  go_upto_region 1 with fail
  rw [← HV.out]
  go_wp2
  go_loopg [5, 6] 12 (fun gg s5 s6 wr => ∃ z : Int, s5 = .int .i64 z ∧ -1 ≤ z ∧ z ≤ 9 ∧ 9 - z ≤ (gg : Int) ∧ Hid (Below V.heap.size V wr))
  case atStart => exact ⟨-1, rfl, by omega, by omega, by omega, Lib.hid (Below.refl _ _)⟩
  case round =>
    obtain ⟨z, rfl, h1, h2, hgg, HB⟩ := hrel
    obtain ⟨p0, p1, p2, p3, p4, p5, p6, p7, p8⟩ := cell_nine (row_keep HB.out TA.out)
    by_cases h3 : z ≤ 8
    · have g0 : IntKind.i64.wrap (z + 1) = z + 1 := IntWalk.i64_in _ (by omega)
      by_cases h4 : 0 ≤ z ∧ z < 8
      · obtain ⟨i, rfl⟩ := Int.eq_ofNat_of_zero_le h4.1
        have g1 : decide ((0 : Int) ≤ (i : Int)) = true := by simp
        have g2 : decide ((i : Int) < 8) = true := by simp; omega
        have g3 : (0 : Int) ≤ (i : Int) := h4.1
        have g4 : (i : Int) < 8 := h4.2
        have c1 : wr.cell? ⟨W.heap.size + 1, i, none⟩ = some (.int .i64 0) := nine_at (s := fun _ => 0) (row_keep HB.out TR.out) i (by omega)
        go_wp2_with (go_at_call 44; refine (seenZ _ _).mono ?_; rintro e w1 ⟨rfl, hb⟩; have HB1 := Lib.hid (HB.out.trans (hb.mono HB.out.size)); clear hb)
        go_roundg (8 - i)
        case measure => omega
        case rel => exact ⟨(i : Int) + 1, by go_num, by omega, by omega, by omega, HB1⟩
      · have g12 : (decide ((0 : Int) ≤ z) && decide (z < 8)) = false := by simp; omega
        by_cases h5 : z = -1
        · subst h5
          go_wp2_with (go_at_call 44; refine (seenZ _ _).mono ?_; rintro e w1 ⟨rfl, hb⟩; have HB1 := Lib.hid (HB.out.trans (hb.mono HB.out.size)); clear hb)
          go_roundg 9
          case measure => omega
          case rel => exact ⟨0, by go_num, by omega, by omega, by omega, HB1⟩
        · obtain rfl : z = 8 := by omega
          go_wp2_with (go_at_call 44; refine (seenZ _ _).mono ?_; rintro e w1 ⟨rfl, hb⟩; have HB1 := Lib.hid (HB.out.trans (hb.mono HB.out.size)); clear hb)
          go_roundg 0
          case measure => omega
          case rel => exact ⟨9, by go_num, by omega, by omega, by omega, HB1⟩
    · obtain rfl : z = 9 := by omega
      obtain ⟨q0, q1, q2, q3, q4, q5, q6, q7, q8⟩ := cell_nine (row_keep HB.out TR.out)
      go_upto_region 9 with fail
      go_region_held3 (fun w' => w'.cell? ⟨W.heap.size, 0, none⟩ = some (.int .i64 0) ∧ w'.cell? ⟨W.heap.size, 1, none⟩ = some (.int .i64 0) ∧ w'.cell? ⟨W.heap.size, 2, none⟩ = some (.int .i64 0) ∧ w'.cell? ⟨W.heap.size, 3, none⟩ = some (.int .i64 0) ∧ w'.cell? ⟨W.heap.size, 4, none⟩ = some (.int .i64 0) ∧ w'.cell? ⟨W.heap.size, 5, none⟩ = some (.int .i64 0) ∧ w'.cell? ⟨W.heap.size, 6, none⟩ = some (.int .i64 0) ∧ w'.cell? ⟨W.heap.size, 7, none⟩ = some (.int .i64 0) ∧ w'.cell? ⟨W.heap.size, 8, none⟩ = some (.slice none 0 0) ∧ w'.cell? ⟨W.heap.size + 1, 8, none⟩ = some (.slice none 0 0)) (first | (with_reducible exact ⟨by assumption, by assumption, by assumption, by assumption, by assumption, by assumption, by assumption, by assumption, by assumption, by assumption⟩) | go_keep) (first
        | (go_at_call 32; refine (entriesZ _).mono ?_; rintro e w1 ⟨ao, c, rfl, hb⟩; replace HB := Lib.hid (below_then (below_then HB.out (below_drewN (Below.refl wr.heap.size wr) 1)) hb); obtain ⟨y0, y1, y2, y3, y4, y5, y6, y7, y8⟩ := cell_nine (row_keep HB.out TA.out); have y9 := (cell_nine (row_keep HB.out TR.out)).2.2.2.2.2.2.2.2; clear hb)
        | (go_at_call 45; refine (alike_nil _ _ _ _ _).mono ?_; rintro e w1 ⟨rfl, rfl⟩))
      all_goals go_wp2_with fail
      all_goals go_ret
      all_goals exact ⟨rfl, HBV.out.trans (HB.out.mono HBV.out.size)⟩
end Go.Proofs.Ytkdbdocipijncaa

/- An argument that is an integer; a law's end. -/
set_option linter.unusedVariables false
set_option linter.unusedSimpArgs false
namespace Go.Proofs.Ytkdbdocipijncaa
open Go.ChangeShapes Go.WideShapes Go.RowKit Go.Joins

def InWord (z : Int) : Prop := -9223372036854775808 ≤ z ∧ z ≤ 9223372036854775807

set_option maxRecDepth 100000 in
theorem open_int {H : Type} {enc : TypeId × Value → H} {W : World} {v : Value} {d : DataW H} {p : List MemPlace} {base : Nat}
    (hv : Value.okWide Try.prog W .any base 3 v) (h : DataW.Trod enc Try.prog W 0 (fun _ => true) true 3 v d p) : ∃ n, v = .int .i64 n ∧ InWord n := by
  obtain ⟨n, rfl⟩ := okWide_int Try.underlying3 hv
  obtain ⟨fuel, hf⟩ := h
  obtain ⟨m, e0, _, w0⟩ := DataW.trod_int Try.underlying3 hf
  simp [Value.cells] at e0
  subst e0
  exact ⟨n, rfl, bounds_i64 w0⟩

/-- the arguments read on as they did -/
theorem trodAll_below {H : Type} {enc : TypeId × Value → H} {P : Program} (hl : laidOutB P = true) {W W' : World} (hb : Below W.heap.size W W') :
    ∀ {ts : List TypeId} {vs : List Value} {ds : List (DataW H)} {ps : List MemPlace}, (∀ t ∈ ts, P.readableRec t = true ∧ t < P.types.size) →
      DataW.TrodAll enc P W 0 (fun _ => true) true ts vs ds ps → (∀ x ∈ ps, x.block < W.heap.size) → DataW.TrodAll enc P W' 0 (fun b => decide (b < W.heap.size)) true ts vs ds ps
  | [], [], [], _, _, h, _ => h
  | t :: ts, v :: vs, d :: ds, _, ht, ⟨p, q, h1, h2, e⟩, hlt => by
    have h3 := ht t List.mem_cons_self
    exact ⟨p, q, Below.trod hl h3.1 h3.2 h1 hb (fun x hx => hlt x (by rw [e]; exact List.mem_append_left _ hx)),
      trodAll_below hl hb (fun t' ht' => ht t' (List.mem_cons_of_mem _ ht')) h2 (fun x hx => hlt x (by rw [e]; exact List.mem_append_right _ hx)), e⟩
  | [], _ :: _, _, _, _, h, _ => by simp [DataW.TrodAll] at h
  | [], [], _ :: _, _, _, h, _ => by simp [DataW.TrodAll] at h
  | _ :: _, [], _, _, _, h, _ => by simp [DataW.TrodAll] at h
  | _ :: _, _ :: _, [], _, _, h, _ => by simp [DataW.TrodAll] at h

/-- a law's end -/
theorem post_law {P : Program} {H : Type} {enc : TypeId × Value → H} {f : Func} {s : ChangeSpec} {apart fresh handsOn : Bool} {W W' : World} {args : Array Value} {ds : List (DataW H)} {before : List MemPlace} {t : TypeId}
    (hl : laidOutB P = true) (hts : ∀ t ∈ f.params.toList, P.readableRec t = true ∧ t < P.types.size)
    (hW : DataW.Whole enc P f.params.toList s.vars apart W args.toList ds [] before) (hvs : s.vars = []) (hrt : f.resultTypes = #[t]) (hub : P.underlying t = some .bool)
    (hA : DataW.TrodAll enc P W 0 (fun _ => true) true f.params.toList args.toList ds before)
    (hr : (s.fn H ds).results = [.lit (.bool true)]) (ha : (s.fn H ds).args = ds) (hv : (s.fn H ds).vars = []) (hb : Below W.heap.size W W') :
    s.post enc P f apart fresh handsOn false W args (.bool true) W' := by
  have hlt := hW.lt
  refine ⟨ds, [], before, [], before, [], hW, ?_, ?_, ?_, World.keptBut_mono (fun p hp => ⟨hp, ?_⟩) (hb.frame _), fun h => by cases h⟩
  · rw [List.append_nil, hr, hrt]
    exact trodAll_cons_mk (shut_bool hub _) trodAll_mk0
  · rw [List.append_nil, ha]
    exact trodAll_below hl hb hts hA (fun x hx => by simpa using hlt x hx)
  · rw [List.append_nil, hv, hvs]
    rfl
  · exact Or.inr (by simpa using hp)

set_option maxRecDepth 100000 in
theorem open_u8 {H : Type} {enc : TypeId × Value → H} {W : World} {v : Value} {d : DataW H} {p : List MemPlace} {base : Nat}
    (hv : Value.okWide Try.prog W .any base 5 v) (h : DataW.Trod enc Try.prog W 0 (fun _ => true) true 5 v d p) : ∃ n : Nat, v = .int .u8 (n : Int) ∧ n ≤ 255 := by
  obtain ⟨n, rfl⟩ := okWide_int Try.underlying5 hv
  obtain ⟨fuel, hf⟩ := h
  obtain ⟨m, e0, _, w0⟩ := DataW.trod_int Try.underlying5 hf
  simp [Value.cells] at e0
  subst e0
  have := bounds_u8 w0
  exact ⟨n.toNat, by rw [Int.toNat_of_nonneg this.1], by omega⟩
set_option maxRecDepth 100000 in
theorem open_str {H : Type} {enc : TypeId × Value → H} {W : World} {v : Value} {d : DataW H} {p : List MemPlace} {base : Nat}
    (hv : Value.okWide Try.prog W .any base 9 v) (h : DataW.Trod enc Try.prog W 0 (fun _ => true) true 9 v d p) : ∃ s : ByteArray, v = .string s := by
  obtain ⟨a0, rfl, _, _, w0⟩ := Go.ChangeMaps.open_string Try.underlying9 hv h
  exact ⟨a0, rfl⟩
end Go.Proofs.Ytkdbdocipijncaa

/- SyncNobody, walked. (By gen_nobody.py.) -/
set_option linter.unusedVariables false
set_option linter.unusedSimpArgs false
namespace Go.Proofs.Ytkdbdocipijncaa
open Go.ChangeShapes Go.WideShapes Go.RowKit Go.Joins Go.Deep Go.Shelf Go.Sort

theorem cell_five {w : World} {T : Nat} {a0 a1 a2 a3 a4 : Value} {ty : TypeId} (h : w.heap[T]? = some (.cells #[a0, a1, a2, a3, a4] ty (0, 0))) :
    w.cell? ⟨T, 0, none⟩ = some a0 ∧ w.cell? ⟨T, 1, none⟩ = some a1 ∧ w.cell? ⟨T, 2, none⟩ = some a2 ∧ w.cell? ⟨T, 3, none⟩ = some a3 ∧ w.cell? ⟨T, 4, none⟩ = some a4 := by
  refine ⟨?_, ?_, ?_, ?_, ?_⟩ <;> (simp only [World.cell?]; rw [h]; rfl)
theorem table_nilA (i : Int) (W : World) : Calls Try.prog 35 #[.pointer none, .int .i64 i] W fun e w' => e = .returned (.tuple #[.agg #[.int .i64 0, .int .i64 0, .int .i64 0, .int .i64 0, .int .i64 0, .int .i64 0, .int .i64 0, .int .i64 0, .slice none 0 0], .int .i64 1]) ∧ Below W.heap.size W w' := netTable_nil i W

/-- a struct by value whose fields are single cells, opened: its cells, each with its reading -/
theorem open_cells {H : Type} {enc : TypeId × Value → H} {P : Program} {w : World} {base b0 : Nat} {r : Reach} {spare : Nat → Bool} {held : Bool} {t : TypeId} {fs : Array Field} {v : Value} {d : DataW H} {p : List MemPlace}
    (he : P.underlying t = some (.struct fs)) (h1 : oneCellFields P fs = true) (hC : P.cellsOf t = fs.size) (hv : Value.okWide P w r b0 t v) (h : DataW.Trod enc P w base spare held t v d p) :
    ∃ cs : Array Value, v = .agg cs ∧ cs.size = fs.size ∧ ∀ (j : Nat) (tj : TypeId), fs[j]?.map (·.type) = some tj → ∃ (u : Value) (y : DataW H × List MemPlace) (m : Nat), cs[j]? = some u ∧ DataW.trod enc P w base spare held m tj [u] = some y := by
  obtain ⟨cs, rfl, hsz⟩ := okWide_struct he hv
  obtain ⟨fuel, hf⟩ := h
  obtain ⟨ys, m, _, _, hl, hyl, hg⟩ := DataW.trod_struct he hf
  refine ⟨cs, rfl, hsz.trans hC, fun j tj hjt => ?_⟩
  obtain ⟨f, hj, rfl⟩ := Option.map_eq_some_iff.1 hjt
  have hjs : j < fs.size := (Array.getElem?_eq_some_iff.1 hj).1
  have hjc : j < cs.toList.length := by simp; omega
  obtain ⟨o1, o2⟩ := Go.Deep.hone_of h1 j f hj
  have hr := hg j f hj
  rw [show (Value.agg cs).cells.toList = cs.toList from rfl, o1, o2, List.drop_eq_getElem_cons hjc] at hr
  have hy : ys[j]? = some (ys[j]'(by omega)) := List.getElem?_eq_getElem (by omega)
  refine ⟨cs.toList[j], ys[j]'(by omega), m, ?_, ?_⟩
  · rw [← Array.getElem?_toList, List.getElem?_eq_getElem hjc]
  · rw [← hy, ← hr]; rfl
theorem five_of {cs : Array Value} (h : cs.size = 5) {a0 a1 a2 a3 a4 : Value} (h0 : cs[0]? = some a0) (h1 : cs[1]? = some a1) (h2 : cs[2]? = some a2) (h3 : cs[3]? = some a3) (h4 : cs[4]? = some a4) : cs = #[a0, a1, a2, a3, a4] := by
  apply Array.ext_getElem?
  intro i
  rcases i with _ | _ | _ | _ | _ | i
  · simpa using h0
  · simpa using h1
  · simpa using h2
  · simpa using h3
  · simpa using h4
  · rw [Array.getElem?_eq_none (by omega), Array.getElem?_eq_none (by simp)]

set_option maxRecDepth 100000 in
theorem open_deed {H : Type} {enc : TypeId × Value → H} {W : World} {v : Value} {d : DataW H} {p : List MemPlace} {base : Nat}
    (hv : Value.okWide Try.prog W .any base 60 v) (h : DataW.Trod enc Try.prog W 0 (fun _ => true) true 60 v d p) :
    ∃ (kd a b : Int) (k u : ByteArray), v = .agg #[.int .u8 kd, .int .i64 a, .int .i64 b, .string k, .string u] := by
  obtain ⟨cs, rfl, hsz, hf⟩ := open_cells Try.underlying60 (by kernel_rfl) (by kernel_rfl) hv h
  obtain ⟨u0, y0, m0, e0, t0⟩ := hf 0 5 (by kernel_rfl)
  obtain ⟨u1, y1, m1, e1, t1⟩ := hf 1 3 (by kernel_rfl)
  obtain ⟨u2, y2, m2, e2, t2⟩ := hf 2 3 (by kernel_rfl)
  obtain ⟨u3, y3, m3, e3, t3⟩ := hf 3 9 (by kernel_rfl)
  obtain ⟨u4, y4, m4, e4, t4⟩ := hf 4 9 (by kernel_rfl)
  obtain ⟨n0, f0, _, _⟩ := DataW.trod_int Try.underlying5 t0
  obtain ⟨n1, f1, _, _⟩ := DataW.trod_int Try.underlying3 t1
  obtain ⟨n2, f2, _, _⟩ := DataW.trod_int Try.underlying3 t2
  obtain ⟨n3, f3, _, _⟩ := DataW.trod_string Try.underlying9 t3
  obtain ⟨n4, f4, _, _⟩ := DataW.trod_string Try.underlying9 t4
  cases f0; cases f1; cases f2; cases f3; cases f4
  exact ⟨n0, n1, n2, n3, n4, by rw [five_of (hsz.trans (by kernel_rfl)) e0 e1 e2 e3 e4]⟩

set_option maxRecDepth 100000 in
set_option maxHeartbeats 8000000 in
theorem nobody_walk (kd a b : Int) (k v : ByteArray) (keep : Bool) (W : World) :
    Calls Try.prog 7 #[.agg #[.int .u8 kd, .int .i64 a, .int .i64 b, .string k, .string v], .bool keep] W fun e w' => e = .returned (.bool true) ∧ Below W.heap.size W w' := by
  obtain ⟨V, hV⟩ : ∃ V, V = W.alloc (.cells #[.int .u8 kd, .int .i64 a, .int .i64 b, .string k, .string v] 60) := ⟨_, rfl⟩
  have HBV : Hid (Below W.heap.size W V) := Lib.hid (by rw [hV]; exact box_below W _)
  have TD : Hid (V.heap[W.heap.size]? = some (.cells #[.int .u8 kd, .int .i64 a, .int .i64 b, .string k, .string v] 60 (0, 0))) := Lib.hid (by rw [hV]; exact heap_alloc_new _ _)
  have BD : Hid (Below V.heap.size V V) := Lib.hid (Below.refl _ _)
  have HV := Lib.hid hV
  clear hV
  obtain ⟨d0, d1, d2, d3, d4⟩ := cell_five TD.out
  go_enter Try.func7, Try.ntmps7
  go_upto_region 2 with fail
  rw [← HV.out]
  go_wp2_with 
    (first
      | (go_at_call 35; refine (table_nilA a _).mono ?_; rintro e w6 ⟨rfl, hb⟩; replace BD := Lib.hid (below_then BD.out hb); clear d0 d1 d2 d3 d4; obtain ⟨d0, d1, d2, d3, d4⟩ := cell_five (row_keep BD.out TD.out); clear hb)
      | (go_at_call 16; refine (same_zero _).mono ?_; rintro e w6 ⟨rfl, hb⟩; replace BD := Lib.hid (below_then (below_then BD.out (box_below _ _)) hb); clear d0 d1 d2 d3 d4; obtain ⟨d0, d1, d2, d3, d4⟩ := cell_five (row_keep BD.out TD.out); clear hb)
      | (go_at_call 36; refine (netPut_nil _ _ _ _).mono ?_; rintro e w6 ⟨rfl, hb⟩; replace BD := Lib.hid (below_then BD.out hb); clear d0 d1 d2 d3 d4; obtain ⟨d0, d1, d2, d3, d4⟩ := cell_five (row_keep BD.out TD.out); clear hb)
      | (go_at_call 37; refine (netRemove_nil _ _ _).mono ?_; rintro e w6 ⟨rfl, hb⟩; replace BD := Lib.hid (below_then BD.out hb); clear d0 d1 d2 d3 d4; obtain ⟨d0, d1, d2, d3, d4⟩ := cell_five (row_keep BD.out TD.out); clear hb)
      | (go_at_call 33; refine (netSend_nil _ _ _).mono ?_; rintro e w6 ⟨rfl, hb⟩; replace BD := Lib.hid (below_then BD.out hb); clear d0 d1 d2 d3 d4; obtain ⟨d0, d1, d2, d3, d4⟩ := cell_five (row_keep BD.out TD.out); clear hb)
      | (go_at_call 38; refine (deliver_nil _ _ _).mono ?_; rintro e w6 ⟨rfl, rfl⟩)
      | (go_at_call 39; refine (lose_nil _ _).mono ?_; rintro e w6 ⟨rfl, rfl⟩)
      | (go_at_call 40; refine (sites_nil _).mono ?_; rintro e w6 ⟨rfl, rfl⟩)
      | (go_at_call 34; refine (letters_nil _).mono ?_; rintro e w6 ⟨rfl, rfl⟩)
      | (go_at_call 41; refine (settled_nil _).mono ?_; rintro e w6 ⟨rfl, rfl⟩)
      | (go_at_call 14; refine (awake_any _).mono ?_; rintro e w6 ⟨rfl, hb⟩; replace BD := Lib.hid (below_then BD.out hb); clear d0 d1 d2 d3 d4; obtain ⟨d0, d1, d2, d3, d4⟩ := cell_five (row_keep BD.out TD.out); clear hb))
  go_ret
  exact ⟨rfl, HBV.out.trans (BD.out.mono HBV.out.size)⟩
end Go.Proofs.Ytkdbdocipijncaa

/- The document's Alike of two lists that hold the same entries. -/
set_option linter.unusedVariables false
set_option linter.unusedSimpArgs false
namespace Go.Proofs.Ytkdbdocipijncaa
open Go.RowKit Go.Shelf Go.Sort

set_option maxRecDepth 100000 in
set_option maxHeartbeats 8000000 in
theorem alike_rows (g g' n c c' : Nat) (xs : List Ent) (W : World) (hx : xs.length = n) (r1 : RowE W g xs) (r2 : RowE W g' xs) (hn : n ≤ 900000) :
    Calls Try.prog 45 #[.slice (some ⟨g, 0, none⟩) n c, .slice (some ⟨g', 0, none⟩) n c'] W fun e w' => e = .returned (.bool true) ∧ Below W.heap.size W w' := by
  have R1 := Lib.hid r1
  have R2 := Lib.hid r2
  have hg := r1.1
  have hg' := r2.1
  clear r1 r2
  go_enter Try.func45, Try.ntmps45
  go_wp2
  go_loopg [5] n (fun gg s5 wr => ∃ i : Nat, s5 = .int .i64 (i : Int) ∧ i ≤ n ∧ n - i ≤ gg ∧ Hid (Below W.heap.size W wr))
  case atStart => exact ⟨0, rfl, Nat.zero_le _, by omega, Lib.hid (Below.refl _ _)⟩
  case round =>
    obtain ⟨i, rfl, hi, hgg, HB⟩ := hrel
    by_cases hlt : i < n
    · have t1 : (i : Int) < (n : Int) := by omega
      have t0 : (0 : Int) ≤ (i : Int) := by omega
      have a1 := (R1.out.2 i (by omega)).keep HB.out hg
      have a2 := (R2.out.2 i (by omega)).keep HB.out hg'
      generalize xs[i]! = x at a1 a2
      obtain ⟨p0, p1, p2, p3⟩ := a1
      obtain ⟨q0, q1, q2, q3⟩ := a2
      have hq : ∀ w, (binOp .neq 97 (.agg #[.string x.key, .string x.val, .int .i64 (x.site : Int), .int .i64 (x.count : Int)]) (.agg #[.string x.key, .string x.val, .int .i64 (x.site : Int), .int .i64 (x.count : Int)])).run Try.prog w = .ok (.bool false) w := fun w => by
        rw [run_neq_ent]
        simp [sameE]
      have hg2 := fun a b w => guard_ent .neq a b #[.string x.key, .string x.val, .int .i64 (x.site : Int), .int .i64 (x.count : Int)] #[.string x.key, .string x.val, .int .i64 (x.site : Int), .int .i64 (x.count : Int)] w
      have g0 : IntKind.i64.wrap ((i : Int) + 1) = (i : Int) + 1 := IntWalk.i64_in _ (by omega)
      go_upto_region 6 with fail
      go_region_held3 (fun w' => w'.cell? ⟨g, i * 4, none⟩ = some (.string x.key) ∧ w'.cell? ⟨g, i * 4 + 1, none⟩ = some (.string x.val) ∧ w'.cell? ⟨g, i * 4 + 2, none⟩ = some (.int .i64 (x.site : Int)) ∧ w'.cell? ⟨g, i * 4 + 3, none⟩ = some (.int .i64 (x.count : Int)) ∧ w'.cell? ⟨g', i * 4, none⟩ = some (.string x.key) ∧ w'.cell? ⟨g', i * 4 + 1, none⟩ = some (.string x.val) ∧ w'.cell? ⟨g', i * 4 + 2, none⟩ = some (.int .i64 (x.site : Int)) ∧ w'.cell? ⟨g', i * 4 + 3, none⟩ = some (.int .i64 (x.count : Int))) (go_keep) (fail)
      all_goals go_wp2
      all_goals go_roundg (n - (i + 1))
      all_goals first | exact ⟨i + 1, by go_num, by omega, Nat.le_refl _, Lib.hid (below_then HB.out (below_drewN (Below.refl wr.heap.size wr) 1))⟩ | omega
    · obtain rfl : i = n := by omega
      have t1 : ¬ (i : Int) < (i : Int) := by omega
      go_wp2
      go_ret
      exact ⟨rfl, HB.out⟩
theorem alike_same (ao ao' : Option Addr) (n c m c' : Nat) (xs : List Ent) (W : World) (h1 : El W ao n xs) (h2 : El W ao' m xs) (hn : n ≤ 900000) :
    Calls Try.prog 45 #[.slice ao n c, .slice ao' m c'] W fun e w' => e = .returned (.bool true) ∧ Below W.heap.size W w' := by
  obtain ⟨hx, h1⟩ := h1
  obtain ⟨hy, h2⟩ := h2
  obtain rfl : n = m := hx.symm.trans hy
  by_cases h0 : n = 0
  · subst h0
    exact (alike_nil ao ao' c c' W).mono fun e w' ⟨he, hw⟩ => ⟨he, by rw [← hw]; exact Below.refl _ _⟩
  · rcases h1 with ⟨_, h1⟩ | ⟨g, rfl, r1⟩
    · omega
    · rcases h2 with ⟨_, h2⟩ | ⟨g', rfl, r2⟩
      · omega
      · exact alike_rows g g' n c c' xs W hx r1 r2 hn
end Go.Proofs.Ytkdbdocipijncaa

/- Lists of acts and of deeds in memory; arguments that are such lists. -/
set_option linter.unusedVariables false
set_option linter.unusedSimpArgs false
namespace Go.Proofs.Ytkdbdocipijncaa
open Go.ChangeShapes Go.WideShapes Go.RowKit Go.Joins Go.Deep

/-- one field of a struct whose fields are single cells, out of the struct's reading at address a -/
theorem field_read {H : Type} {enc : TypeId × Value → H} {P : Program} {w : World} {base : Nat} {spare : Nat → Bool} {held : Bool} {e : TypeId} {fs : Array Field} {a : Addr} {cs : List Value} {n : Nat} {x : DataW H × List MemPlace}
    (he : P.underlying e = some (.struct fs)) (h1 : oneCellFields P fs = true) (hc : w.cells? base a (P.cellsOf e) = some cs) (ht : DataW.trod enc P w base spare held n e cs = some x) (hC : P.cellsOf e = fs.size) (j : Nat) (tj : TypeId) (hjt : fs[j]?.map (·.type) = some tj) :
    ∃ (v : Value) (y : DataW H × List MemPlace) (m : Nat), w.cell? (a.add j) = some v ∧ DataW.trod enc P w base spare held m tj [v] = some y := by
  obtain ⟨f, hj, rfl⟩ := Option.map_eq_some_iff.1 hjt
  obtain ⟨ys, m, _, _, hl, hyl, hf⟩ := DataW.trod_struct he ht
  obtain ⟨_, hcl, hat⟩ := World.cells?_some hc
  have hjs : j < fs.size := (Array.getElem?_eq_some_iff.1 hj).1
  have hjc : j < cs.length := by omega
  obtain ⟨o1, o2⟩ := Go.Deep.hone_of h1 j f hj
  have hr := hf j f hj
  rw [o1, o2, List.drop_eq_getElem_cons hjc] at hr
  have hy : ys[j]? = some (ys[j]'(by omega)) := List.getElem?_eq_getElem (by omega)
  refine ⟨cs[j], ys[j]'(by omega), m, ?_, ?_⟩
  · rw [hat j (by omega), List.getElem?_eq_getElem hjc]
  · rw [← hy, ← hr]; rfl

/-! ### acts -/
structure ActD where
  kind : Nat
  a : Nat
  b : Nat
  site : Int
  key : ByteArray
  val : ByteArray
instance : Inhabited ActD := ⟨⟨0, 0, 0, 0, ByteArray.empty, ByteArray.empty⟩⟩
def ActD.fine (x : ActD) : Prop := x.kind ≤ 255 ∧ x.a ≤ 255 ∧ x.b ≤ 255 ∧ InWord x.site
/-- the six cells of an act -/
def ActAt (w : World) (g o : Nat) (x : ActD) : Prop :=
  w.cell? ⟨g, o, none⟩ = some (.int .u8 (x.kind : Int)) ∧ w.cell? ⟨g, o + 1, none⟩ = some (.int .u8 (x.a : Int)) ∧ w.cell? ⟨g, o + 2, none⟩ = some (.int .u8 (x.b : Int)) ∧ w.cell? ⟨g, o + 3, none⟩ = some (.int .i64 x.site) ∧ w.cell? ⟨g, o + 4, none⟩ = some (.string x.key) ∧ w.cell? ⟨g, o + 5, none⟩ = some (.string x.val)
theorem ActAt.keep {w w' : World} {g o : Nat} {x : ActD} (h : ActAt w g o x) (hb : Below w.heap.size w w') : ActAt w' g o x := by
  obtain ⟨a, b, c, d, e, f⟩ := h
  exact ⟨cell_later hb a, cell_later hb b, cell_later hb c, cell_later hb d, cell_later hb e, cell_later hb f⟩
/-- a slice of acts -/
def Acts (w : World) (ao : Option Addr) (len : Nat) (xs : List ActD) : Prop :=
  xs.length = len ∧ (∀ x ∈ xs, x.fine) ∧ ∃ g o, (0 < len → ao = some ⟨g, o, none⟩) ∧ ∀ i, i < len → ActAt w g (o + i * 6) xs[i]!
theorem Acts.keep {w w' : World} {ao : Option Addr} {len : Nat} {xs : List ActD} (h : Acts w ao len xs) (hb : Below w.heap.size w w') : Acts w' ao len xs := by
  obtain ⟨h1, h0, g, o, h2, h3⟩ := h
  exact ⟨h1, h0, g, o, h2, fun i hi => (h3 i hi).keep hb⟩
theorem Acts.at {w : World} {ao : Option Addr} {len : Nat} {xs : List ActD} (h : Acts w ao len xs) {i : Nat} (hi : i < len) : ∃ g o, ao = some ⟨g, o, none⟩ ∧ ActAt w g (o + i * 6) xs[i]! ∧ xs[i]!.fine := by
  obtain ⟨h1, h0, g, o, h2, h3⟩ := h
  exact ⟨g, o, h2 (by omega), h3 i hi, h0 _ (by rw [getElem!_pos xs i (by omega)]; exact List.getElem_mem _)⟩

theorem u8_nat {n : Int} (h : (Lit.int .u8 n).wf = true) : ∃ m : Nat, (m : Int) = n ∧ m ≤ 255 := by
  have := bounds_u8 h
  exact ⟨n.toNat, Int.toNat_of_nonneg this.1, by omega⟩
set_option maxRecDepth 100000 in
theorem open_acts {H : Type} {enc : TypeId × Value → H} {W : World} {v : Value} {d : DataW H} {p : List MemPlace} {base : Nat}
    (hv : Value.okWide Try.prog W .any base 22 v) (h : DataW.Trod enc Try.prog W 0 (fun _ => true) true 22 v d p) :
    ∃ ao la ca xs, v = .slice ao la ca ∧ Acts W ao la xs ∧ la ≤ 9223372036854775807 := by
  obtain ⟨ao, la, ca, rfl⟩ := okWide_slice Try.underlying22 hv
  obtain ⟨fuel, hf⟩ := h
  have hC : Try.prog.cellsOf 83 = 6 := by kernel_rfl
  rcases Go.Deep.open_slice Try.underlying22 hf with ⟨e1, _⟩ | ⟨a, len, cap, m, n, D, Pl, e1, _, hlc, hcm, hm, _, hi⟩
  · simp [Value.cells] at e1
    obtain ⟨rfl, rfl, rfl⟩ := e1
    exact ⟨none, 0, 0, [], rfl, ⟨rfl, fun x hx => by (cases hx), 0, 0, fun h => by omega, fun i hi => by omega⟩, by omega⟩
  · simp [Value.cells] at e1
    obtain ⟨rfl, rfl, rfl⟩ := e1
    have hm2 : la ≤ m := by rw [hm]; split <;> omega
    have key : ∀ i, i < la → ∃ x : ActD, x.fine ∧ W.cell? (a.add (i * 6)) = some (.int .u8 (x.kind : Int)) ∧ W.cell? (a.add (i * 6 + 1)) = some (.int .u8 (x.a : Int)) ∧ W.cell? (a.add (i * 6 + 2)) = some (.int .u8 (x.b : Int)) ∧ W.cell? (a.add (i * 6 + 3)) = some (.int .i64 x.site) ∧ W.cell? (a.add (i * 6 + 4)) = some (.string x.key) ∧ W.cell? (a.add (i * 6 + 5)) = some (.string x.val) := fun i hil => by
      obtain ⟨cs', hc, ht⟩ := hi i (by omega)
      rw [hC] at hc
      have h1 : oneCellFields Try.prog _ = true := (by kernel_rfl : oneCellFields Try.prog (Try.prog.fieldsOf 83) = true)
      have he : Try.prog.underlying 83 = some (.struct (Try.prog.fieldsOf 83)) := by kernel_rfl
      have hs : Try.prog.cellsOf 83 = (Try.prog.fieldsOf 83).size := by kernel_rfl
      rw [← hC] at hc
      have rd := field_read he h1 hc ht hs
      obtain ⟨v0, y0, m0, c0, t0⟩ := rd 0 5 (by kernel_rfl)
      obtain ⟨v1, y1, m1, c1, t1⟩ := rd 1 5 (by kernel_rfl)
      obtain ⟨v2, y2, m2, c2, t2⟩ := rd 2 5 (by kernel_rfl)
      obtain ⟨v3, y3, m3, c3, t3⟩ := rd 3 3 (by kernel_rfl)
      obtain ⟨v4, y4, m4, c4, t4⟩ := rd 4 9 (by kernel_rfl)
      obtain ⟨v5, y5, m5, c5, t5⟩ := rd 5 9 (by kernel_rfl)
      obtain ⟨z0, e0, _, w0⟩ := DataW.trod_int Try.underlying5 t0
      obtain ⟨z1, e1, _, w1⟩ := DataW.trod_int Try.underlying5 t1
      obtain ⟨z2, e2, _, w2⟩ := DataW.trod_int Try.underlying5 t2
      obtain ⟨z3, e3, _, w3⟩ := DataW.trod_int Try.underlying3 t3
      obtain ⟨z4, e4, _, w4⟩ := DataW.trod_string Try.underlying9 t4
      obtain ⟨z5, e5, _, w5⟩ := DataW.trod_string Try.underlying9 t5
      obtain ⟨n0, rfl, b0⟩ := u8_nat w0
      obtain ⟨n1, rfl, b1⟩ := u8_nat w1
      obtain ⟨n2, rfl, b2⟩ := u8_nat w2
      simp only [List.cons.injEq, and_true] at e0 e1 e2 e3 e4 e5
      subst e0 e1 e2 e3 e4 e5
      simp only [Go.Deep.add_add] at c0 c1 c2 c3 c4 c5
      exact ⟨⟨n0, n1, n2, z3, z4, z5⟩, ⟨b0, b1, b2, bounds_i64 w3⟩, c0, c1, c2, c3, c4, c5⟩
    obtain ⟨f, hf2⟩ : ∃ f : Nat → ActD, ∀ i, i < la → (f i).fine ∧ W.cell? (a.add (i * 6)) = some (.int .u8 ((f i).kind : Int)) ∧ W.cell? (a.add (i * 6 + 1)) = some (.int .u8 ((f i).a : Int)) ∧ W.cell? (a.add (i * 6 + 2)) = some (.int .u8 ((f i).b : Int)) ∧ W.cell? (a.add (i * 6 + 3)) = some (.int .i64 (f i).site) ∧ W.cell? (a.add (i * 6 + 4)) = some (.string (f i).key) ∧ W.cell? (a.add (i * 6 + 5)) = some (.string (f i).val) := by
      refine ⟨fun i => if h : i < la then Classical.choose (key i h) else default, fun i hi => ?_⟩
      simp only [dif_pos hi]
      exact Classical.choose_spec (key i hi)
    refine ⟨some a, la, ca, (List.range la).map f, rfl, ⟨by simp, fun x hx => ?_, ?_⟩, by unfold maxLen at hcm; omega⟩
    · obtain ⟨i, hi, rfl⟩ := List.mem_map.1 hx
      exact (hf2 i (by simpa using hi)).1
    · by_cases h0 : 0 < la
      · obtain ⟨b, off, spot⟩ := a
        have hspot : spot = none := by simpa [Addr.add] using World.cell?_spot (hf2 0 (by omega)).2.1
        subst hspot
        refine ⟨b, off, fun _ => rfl, fun i hi => ?_⟩
        have h1 := (hf2 i hi).2
        have e : ((List.range la).map f)[i]! = f i := by rw [getElem!_pos _ i (by simpa using hi)]; simp
        rw [e]
        simp only [add_off] at h1
        exact h1
      · exact ⟨0, 0, fun h => by omega, fun i hi => by omega⟩
end Go.Proofs.Ytkdbdocipijncaa

/- The law's short. -/
set_option linter.unusedVariables false
set_option linter.unusedSimpArgs false
namespace Go.Proofs.Ytkdbdocipijncaa
open Go.RowKit Go.Shelf Go.Sort

/-- may the act stand? -/
def ActD.brief (x : ActD) : Prop := x.key.size ≤ 200 ∧ x.val.size ≤ 200
open Classical in
noncomputable def firstBad (xs : List ActD) (q : Nat) : Bool := decide (∀ j, j < q → xs[j]!.brief)
def shortB (xs : List ActD) (len : Nat) (most : Nat) : Prop := (∀ j, j < len → j < most → xs[j]!.brief)
open Classical in
noncomputable def isShort (xs : List ActD) (len most : Nat) : Bool := decide (shortB xs len most) && decide (len ≤ most)

theorem least_bad {p : Nat → Prop} : ∀ n, (∃ j, j < n ∧ ¬ p j) → ∃ k, k < n ∧ ¬ p k ∧ ∀ j, j < k → p j
  | 0, ⟨j, hj, _⟩ => absurd hj (Nat.not_lt_zero _)
  | n + 1, ⟨j, hj, hp⟩ => by
    by_cases h : ∃ j, j < n ∧ ¬ p j
    · obtain ⟨k, hk, h1, h2⟩ := least_bad n h
      exact ⟨k, by omega, h1, h2⟩
    · refine ⟨n, Nat.lt_succ_self n, ?_, fun i hi => Classical.byContradiction fun k => h ⟨i, hi, k⟩⟩
      have : j = n := Classical.byContradiction fun k => h ⟨j, by omega, hp⟩
      rwa [← this]

set_option maxRecDepth 100000 in
set_option maxHeartbeats 4000000 in
theorem short_any (ao : Option Addr) (la ca most : Nat) (xs : List ActD) (W : World) (h : Acts W ao la xs) (hla : la ≤ 9223372036854775807) (hm : most ≤ 1000) :
    Calls Try.prog 13 #[.slice ao la ca, .int .i64 (most : Int)] W fun e w' => e = .returned (.bool (isShort xs la most)) ∧ W = w' := by
  have HA := Lib.hid h
  have pm : (most : Int) ≤ 1000 := by omega
  have pl : (la : Int) ≤ 9223372036854775807 := by omega
  clear h
  by_cases hall : shortB xs la most
  · have e : isShort xs la most = decide (la ≤ most) := by unfold isShort; simp [hall]
    rw [e]
    have HS := Lib.hid hall
    clear e hall
    go_enter Try.func13, Try.ntmps13
    go_wp2
    go_loopg [5] la (fun gg s5 wr => ∃ j : Nat, s5 = .int .i64 (j : Int) ∧ j ≤ la ∧ la - j ≤ gg ∧ wr = W)
    case atStart => exact ⟨0, rfl, Nat.zero_le _, by omega, rfl⟩
    case round =>
      obtain ⟨j, rfl, hj, hgg, rfl⟩ := hrel
      by_cases h1 : j < la
      · have t1 : decide ((j : Int) < (la : Int)) = true := by simp; omega
        by_cases h2 : j < most
        · have t2 : decide ((j : Int) < (most : Int)) = true := by simp; omega
          have t3 : (j : Int) < (la : Int) := by omega
          have t4 : (0 : Int) ≤ (j : Int) := by omega
          obtain ⟨g, o, hg, hc, _⟩ := HA.out.at h1
          have hb := HS.out j h1 h2
          generalize xs[j]! = x at hc hb
          obtain ⟨c0, c1, c2, c3, c4, c5⟩ := hc
          subst hg
          have t5 : decide ((200 : Int) < (x.key.size : Int)) = false := by have := hb.1; simp; omega
          have t6 : decide ((200 : Int) < (x.val.size : Int)) = false := by have := hb.2; simp; omega
          clear hb
          go_wp2
          go_roundg (la - (j + 1))
          case measure => omega
          case rel => exact ⟨j + 1, by go_num, by omega, Nat.le_refl _, rfl⟩
        · have t2 : decide ((j : Int) < (most : Int)) = false := by simp; omega
          go_wp2
          go_ret
          exact ⟨by simp, rfl⟩
      · have t1 : decide ((j : Int) < (la : Int)) = false := by simp; omega
        go_wp2
        go_ret
        exact ⟨by simp, rfl⟩
  · have e : isShort xs la most = false := by unfold isShort; simp [hall]
    rw [e]
    obtain ⟨k, hk, hbad, hgood⟩ : ∃ k, k < la ∧ k < most ∧ ¬ xs[k]!.brief ∧ ∀ j, j < k → xs[j]!.brief := by
      have : ∃ j, j < min la most ∧ ¬ xs[j]!.brief := Classical.byContradiction fun c => hall fun j h1 h2 => Classical.byContradiction fun c' => c ⟨j, by omega, c'⟩
      obtain ⟨k, hk, h1, h2⟩ := least_bad (p := fun j => xs[j]!.brief) _ this
      exact ⟨k, by omega, by omega, h1, h2⟩
    have HK := Lib.hid hgood.1
    have HG := Lib.hid hgood.2
    clear e hall hgood
    go_enter Try.func13, Try.ntmps13
    go_wp2
    go_loopg [5] la (fun gg s5 wr => ∃ j : Nat, s5 = .int .i64 (j : Int) ∧ j ≤ k ∧ la - j ≤ gg ∧ wr = W)
    case atStart => exact ⟨0, rfl, Nat.zero_le _, by omega, rfl⟩
    case round =>
      obtain ⟨j, rfl, hj, hgg, rfl⟩ := hrel
      have h1 : j < la := by omega
      have t1 : decide ((j : Int) < (la : Int)) = true := by simp; omega
      have t2 : decide ((j : Int) < (most : Int)) = true := by simp; omega
      have t3 : (j : Int) < (la : Int) := by omega
      have t4 : (0 : Int) ≤ (j : Int) := by omega
      obtain ⟨g, o, hg, hc, _⟩ := HA.out.at h1
      by_cases hjk : j < k
      · have hb := HG.out j hjk
        generalize xs[j]! = x at hc hb
        obtain ⟨c0, c1, c2, c3, c4, c5⟩ := hc
        subst hg
        have t5 : decide ((200 : Int) < (x.key.size : Int)) = false := by have := hb.1; simp; omega
        have t6 : decide ((200 : Int) < (x.val.size : Int)) = false := by have := hb.2; simp; omega
        clear hb
        go_wp2
        go_roundg (la - (j + 1))
        case measure => omega
        case rel => exact ⟨j + 1, by go_num, by omega, by omega, rfl⟩
      · obtain rfl : j = k := by omega
        have hb := HK.out
        generalize xs[j]! = x at hc hb
        obtain ⟨c0, c1, c2, c3, c4, c5⟩ := hc
        subst hg
        by_cases h5 : 200 < x.key.size
        · have t5 : decide ((200 : Int) < (x.key.size : Int)) = true := by simp; omega
          clear hb
          go_wp2
          go_ret
          exact ⟨rfl, rfl⟩
        · have t5 : decide ((200 : Int) < (x.key.size : Int)) = false := by simp; omega
          have t6 : decide ((200 : Int) < (x.val.size : Int)) = true := by
            have : ¬ (x.key.size ≤ 200 ∧ x.val.size ≤ 200) := hb
            simp; omega
          clear hb
          go_wp2
          go_ret
          exact ⟨rfl, rfl⟩
end Go.Proofs.Ytkdbdocipijncaa

/- Rows of tables that are appended to. No function of the program is walked here. (By gen_tabs.py.) -/
set_option linter.unusedVariables false
set_option linter.unusedSimpArgs false
namespace Go.Proofs.Ytkdbdocipijncaa
open Go.RowKit Go.Shelf Go.Sort

/-- a table in a row -/
structure Slot where
  T : Tab
  ao : Option Addr
  n : Nat
  c : Nat
instance : Inhabited Slot := ⟨⟨Tab.none, none, 0, 0⟩⟩
def slotC (x : Slot) : List Value := [.int .i64 (x.T.seen 0 : Int), .int .i64 (x.T.seen 1 : Int), .int .i64 (x.T.seen 2 : Int), .int .i64 (x.T.seen 3 : Int), .int .i64 (x.T.seen 4 : Int), .int .i64 (x.T.seen 5 : Int), .int .i64 (x.T.seen 6 : Int), .int .i64 (x.T.seen 7 : Int), .slice x.ao x.n x.c]
def flatT (l : List Slot) : List Value := l.flatMap slotC
theorem slotC_len (x : Slot) : (slotC x).length = 9 := rfl
theorem flatT_len : ∀ l : List Slot, (flatT l).length = l.length * 9
  | [] => rfl
  | x :: l => by
    have := flatT_len l
    unfold flatT at *
    rw [List.flatMap_cons, List.length_append, this, slotC_len, List.length_cons]; omega
theorem flatT_get : ∀ (l : List Slot) (i c : Nat), c < 9 → (flatT l)[i * 9 + c]? = (l[i]?).bind fun x => (slotC x)[c]?
  | [], i, c, _ => by simp [flatT]
  | x :: l, 0, c, hc => by
    unfold flatT
    rw [List.flatMap_cons, Nat.zero_mul, Nat.zero_add, List.getElem?_append_left (by rw [slotC_len]; exact hc)]
    rfl
  | x :: l, i + 1, c, hc => by
    have := flatT_get l i c hc
    unfold flatT at *
    rw [List.flatMap_cons, List.getElem?_append_right (by rw [slotC_len]; omega), List.getElem?_cons_succ, ← this]
    congr 1
    rw [slotC_len]; omega
theorem flatT_app (l k : List Slot) : flatT (l ++ k) = flatT l ++ flatT k := by unfold flatT; simp
theorem slotC_one (x : Slot) : ∀ u ∈ slotC x, u.oneCell' = true := by
  intro u hu
  simp only [slotC, List.mem_cons, List.not_mem_nil, or_false] at hu
  rcases hu with rfl | rfl | rfl | rfl | rfl | rfl | rfl | rfl | rfl <;> rfl
/-- the nine cells of a table -/
def SlotAt (w : World) (g o : Nat) (x : Slot) : Prop := w.cell? ⟨g, o, none⟩ = some (.int .i64 (x.T.seen 0 : Int)) ∧ w.cell? ⟨g, o + 1, none⟩ = some (.int .i64 (x.T.seen 1 : Int)) ∧ w.cell? ⟨g, o + 2, none⟩ = some (.int .i64 (x.T.seen 2 : Int)) ∧ w.cell? ⟨g, o + 3, none⟩ = some (.int .i64 (x.T.seen 3 : Int)) ∧ w.cell? ⟨g, o + 4, none⟩ = some (.int .i64 (x.T.seen 4 : Int)) ∧ w.cell? ⟨g, o + 5, none⟩ = some (.int .i64 (x.T.seen 5 : Int)) ∧ w.cell? ⟨g, o + 6, none⟩ = some (.int .i64 (x.T.seen 6 : Int)) ∧ w.cell? ⟨g, o + 7, none⟩ = some (.int .i64 (x.T.seen 7 : Int)) ∧ w.cell? ⟨g, o + 8, none⟩ = some (.slice x.ao x.n x.c)
/-- what of a slice's block a reader sees: other blocks may differ -/
theorem RowE.far {w w' : World} {g T : Nat} {z : Int} {xs : List Ent} (h : RowE w g xs) (hT : w.cell? ⟨T, 0, none⟩ = some (.int .i64 z)) (hk : ∀ b o, b < w.heap.size → b ≠ T → w'.cell? ⟨b, o, none⟩ = w.cell? ⟨b, o, none⟩) (hs : w.heap.size ≤ w'.heap.size) : RowE w' g xs := by
  refine ⟨Nat.lt_of_lt_of_le h.1 hs, fun i hi => ?_⟩
  have hg : g ≠ T := by
    intro e
    subst e
    have := (h.2 0 (by omega)).1
    rw [Nat.zero_mul, hT] at this
    cases this
  obtain ⟨a, b, c, d⟩ := h.2 i hi
  exact ⟨(hk g _ h.1 hg).trans a, (hk g _ h.1 hg).trans b, (hk g _ h.1 hg).trans c, (hk g _ h.1 hg).trans d⟩
theorem El.far {w w' : World} {ao : Option Addr} {n T : Nat} {z : Int} {xs : List Ent} (h : El w ao n xs) (hT : w.cell? ⟨T, 0, none⟩ = some (.int .i64 z)) (hk : ∀ b o, b < w.heap.size → b ≠ T → w'.cell? ⟨b, o, none⟩ = w.cell? ⟨b, o, none⟩) (hs : w.heap.size ≤ w'.heap.size) : El w' ao n xs := by
  obtain ⟨h1, h2⟩ := h
  refine ⟨h1, ?_⟩
  rcases h2 with h2 | ⟨g, h2, h3⟩
  · exact .inl h2
  · exact .inr ⟨g, h2, h3.far hT hk hs⟩

/-- an own row of n ≥ 1 tables, each made with at most m writes -/
structure Tabs (w : World) (base m g n cap : Nat) (l : List Slot) : Prop where
  len : l.length = n
  pos : 1 ≤ n
  own : w.ownsRow base 34 9 (.slice (some ⟨g, 0, none⟩) n cap) n (flatT l)
  held : ∀ x ∈ l, Held w m x.T x.ao x.n
theorem Tabs.more {w : World} {base m q g n cap : Nat} {l : List Slot} (h : Tabs w base m g n cap l) (hq : m ≤ q) : Tabs w base q g n cap l := ⟨h.len, h.pos, h.own, fun x hx => (h.held x hx).more hq⟩
theorem Tabs.keep {w w' : World} {base m g n cap : Nat} {l : List Slot} (h : Tabs w base m g n cap l) (hb : Below w.heap.size w w') : Tabs w' base m g n cap l := by
  refine ⟨h.len, h.pos, ⟨h.own.1, ?_⟩, fun x hx => (h.held x hx).keep hb⟩
  rcases h.own.2 with h2 | ⟨g', cap', cur, h3, h4, h5, h6⟩
  · exact .inl h2
  · exact .inr ⟨g', cap', cur, h3, h4, (hb.block g' (Array.getElem?_eq_some_iff.1 h5).1).trans h5, h6⟩
theorem Tabs.cell {w : World} {base m g n cap : Nat} {l : List Slot} (h : Tabs w base m g n cap l) (o : Nat) (v : Value) (hv : (flatT l)[o]? = some v) : w.cell? ⟨g, o, none⟩ = some v := by
  rcases h.own.2 with ⟨h2, _⟩ | ⟨g', cap', cur, h2, hb, hg, hnc, hcm, hcs, ht⟩
  · cases h2
  · cases h2
    rw [← ht, List.getElem?_take] at hv
    split at hv
    · simp only [World.cell?, hg]
      simpa using hv
    · cases hv
theorem Tabs.at {w : World} {base m g n cap : Nat} {l : List Slot} (h : Tabs w base m g n cap l) {i : Nat} (hi : i < n) : SlotAt w g (i * 9) l[i]! ∧ Held w m l[i]!.T l[i]!.ao l[i]!.n ∧ l[i]! ∈ l := by
  have hil : i < l.length := by rw [h.len]; exact hi
  have hm : l[i]! ∈ l := by rw [getElem!_pos l i hil]; exact List.getElem_mem hil
  refine ⟨?_, h.held _ hm, hm⟩
  have hc : ∀ c v, c < 9 → (slotC l[i]!)[c]? = some v → w.cell? ⟨g, i * 9 + c, none⟩ = some v := fun c v hc hv => h.cell _ _ (by rw [flatT_get _ _ _ hc, List.getElem?_eq_getElem hil, ← getElem!_pos l i hil]; exact hv)
  exact ⟨hc 0 _ (by omega) rfl, hc 1 _ (by omega) rfl, hc 2 _ (by omega) rfl, hc 3 _ (by omega) rfl, hc 4 _ (by omega) rfl, hc 5 _ (by omega) rfl, hc 6 _ (by omega) rfl, hc 7 _ (by omega) rfl, hc 8 _ (by omega) rfl⟩
theorem infoT : (Try.prog.info? 34).map (fun i => (i.zero, i.size, i.bytes)) = some (some (.agg #[.int .i64 0, .int .i64 0, .int .i64 0, .int .i64 0, .int .i64 0, .int .i64 0, .int .i64 0, .int .i64 0, .slice none 0 0]), 9, 88) := by kernel_rfl

/-- a table is appended -/
theorem wpList_appT {w1 : World} {ops : Array Oper} {rest : List Oper} {o : Oper} {a : Act} {Q : Exit → Act → World → Prop} (hgd : o.guard = none) (s x : Operand)
    (ho : o.op = .call { callee := .builtin .append, args := #[s, x], argTypes := #[25, 25] }) (w : World) (t : TypeId) (base m g n cap : Nat) (l : List Slot) (z : Slot) (H : Nat) (hH : w.heap.size = H) (hw : w1 = w.alloc (.cells (slotC z).toArray t)) (hs : a.eval s = .slice (some ⟨g, 0, none⟩) n cap) (hown : Tabs w base m g n cap l) (hz : Held w m z.T z.ao z.n)
    (hx : a.eval x = .slice (some ⟨H, 0, none⟩) 1 1) (hn : n ≤ 1000000) (hbase : base ≤ w.heap.size)
    (h : ∀ g' cap' w', Tabs w' base m g' (n + 1) cap' (l ++ [z]) → Below base w w' → wpList Try.prog ops Q rest (a.put o.dst (.slice (some ⟨g', 0, none⟩) (n + 1) cap')) w') :
    wpList Try.prog ops Q (o :: rest) a w1 := by
  subst hw hH
  obtain ⟨i0, hi, hz0, hz1, hz2⟩ := info_parts infoT
  have hb0 := box_below w (.cells (slotC z).toArray t)
  have hT := (hown.keep hb0)
  have hZ := hz.keep hb0
  have c0 : ∃ y, (w.alloc (.cells (slotC z).toArray t)).cell? ⟨g, 0, none⟩ = some (.int .i64 y) := by
    have := (hT.at (i := 0) (by have := hown.pos; omega)).1.1
    exact ⟨_, by simpa using this⟩
  obtain ⟨y, c0⟩ := c0
  refine wpList_append_lies _ hgd s x 25 ho base 34 i0 _ 9 88 Try.underlying25 hi hz0 hz1 hz2 rfl (by decide) _ n (flatT l) hs hT.own ⟨w.heap.size, 0, none⟩ 1 1 (slotC z) hx (by rw [slotC_len]) ?_ (slotC_one z) (by omega) (by unfold maxLen; omega) (by omega) (by simp; omega) _ rfl ?_
  · intro j u hj
    rw [add_off, Nat.zero_add]
    simp only [World.cell?]
    rw [heap_alloc_new]
    simpa using hj
  · intro g' cap' w' hr hg _ _
    have hk : ∀ b o, b < (w.alloc (.cells (slotC z).toArray t)).heap.size → b ≠ g → w'.cell? ⟨b, o, none⟩ = (w.alloc (.cells (slotC z).toArray t)).cell? ⟨b, o, none⟩ := fun b o hb hne => World.cell?_of_block (a := ⟨b, o, none⟩) (hg.block b hb (fun e => hne (by simpa [Value.ownBlock] using e)))
    refine h g' cap' w' ⟨by rw [List.length_append, hown.len]; rfl, by omega, by rw [flatT_app]; simpa [flatT] using hr, fun u hu => ?_⟩ (((Below.refl base w).alloc hbase _).grown hg (by simp; omega) (fun j hj => (World.ownsRow.lt hT.own j hj).1))
    rcases List.mem_append.1 hu with hu | hu
    · exact ⟨(hT.held u hu).el.far c0 hk hg.size, (hT.held u hu).ok⟩
    · rw [List.mem_singleton] at hu
      subst hu
      exact ⟨hZ.el.far c0 hk hg.size, hZ.ok⟩

/-- .. at a step of a region that draws its order -/
theorem step_appT {w : World} {ops : Array Oper} {o : Oper} {a : Act} {K : Act → World → Prop} {Q : Exit → Act → World → Prop} {E : Prop} (hgd : o.guard = none) (s x : Operand)
    (ho : o.op = .call { callee := .builtin .append, args := #[s, x], argTypes := #[25, 25] }) (base m g n cap : Nat) (l : List Slot) (z : Slot) (H : Nat) (t : TypeId) (hH : w.heap[H]? = some (.cells (slotC z).toArray t (0, 0))) (hs : a.eval s = .slice (some ⟨g, 0, none⟩) n cap) (hown : Tabs w base m g n cap l) (hz : Held w m z.T z.ao z.n)
    (hx : a.eval x = .slice (some ⟨H, 0, none⟩) 1 1) (hn : n ≤ 1000000) (hbase : base ≤ w.heap.size)
    (h : ∀ g' cap' w', Tabs w' base m g' (n + 1) cap' (l ++ [z]) → Below base w w' → K (a.put o.dst (.slice (some ⟨g', 0, none⟩) (n + 1) cap')) w') :
    if Region.wanted o (yielded ops a.tmps) = true then Oper.wp Try.prog o a w K Q else E := by
  obtain ⟨i0, hi, hz0, hz1, hz2⟩ := info_parts infoT
  have c0 : ∃ y, w.cell? ⟨g, 0, none⟩ = some (.int .i64 y) := by
    have := (hown.at (i := 0) (by have := hown.pos; omega)).1.1
    exact ⟨_, by simpa using this⟩
  obtain ⟨y, c0⟩ := c0
  refine step_append_lies _ hgd s x 25 ho base 34 i0 _ 9 88 Try.underlying25 hi hz0 hz1 hz2 rfl (by decide) _ n (flatT l) hs hown.own ⟨H, 0, none⟩ 1 1 (slotC z) hx (by rw [slotC_len]) ?_ (slotC_one z) (by omega) (by unfold maxLen; omega) (by omega) hbase _ rfl ?_
  · intro j u hj
    rw [add_off, Nat.zero_add]
    simp only [World.cell?]
    rw [hH]
    simpa using hj
  · intro g' cap' w' hr hg _ _
    have hk : ∀ b o, b < w.heap.size → b ≠ g → w'.cell? ⟨b, o, none⟩ = w.cell? ⟨b, o, none⟩ := fun b o hb hne => World.cell?_of_block (a := ⟨b, o, none⟩) (hg.block b hb (fun e => hne (by simpa [Value.ownBlock] using e)))
    refine h g' cap' w' ⟨by rw [List.length_append, hown.len]; rfl, by omega, by rw [flatT_app]; simpa [flatT] using hr, fun u hu => ?_⟩ ((Below.refl base w).grown hg hbase (fun j hj => (World.ownsRow.lt hown.own j hj).1))
    rcases List.mem_append.1 hu with hu | hu
    · exact ⟨(hown.held u hu).el.far c0 hk hg.size, (hown.held u hu).ok⟩
    · rw [List.mem_singleton] at hu
      subst hu
      exact ⟨hz.el.far c0 hk hg.size, hz.ok⟩
end Go.Proofs.Ytkdbdocipijncaa
