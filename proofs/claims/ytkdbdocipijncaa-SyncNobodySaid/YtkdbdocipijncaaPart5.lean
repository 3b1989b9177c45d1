/- Part 5 of the contracts: SSame0, SLaw, SNobodyW. -/
import Derived.Carry
import Derived.Lib.SmallJoins
import Derived.ProofKit
import Derived.OpenShut
import Derived.ChangeMaps5
import Derived.Deep.Fields
import Derived.ChangeSame
import Derived.Test.YtkdbdocipijncaaPart4

/- The law's same of two zero tables. (By gen_same0.py.) -/
set_option linter.unusedVariables false
set_option linter.unusedSimpArgs false
namespace Go.Proofs.Ytkdbdocipijncaa
open Go.RowKit Go.Shelf Go.Sort

set_option maxRecDepth 100000 in
set_option maxHeartbeats 2000000 in
theorem alike_nil (a1 a2 : Option Addr) (c1 c2 : Nat) (W : World) : Calls Try.prog 45 #[.slice a1 0 c1, .slice a2 0 c2] W fun e w' => e = .returned (.bool true) ∧ W = w' := by
  go_enter Try.func45, Try.ntmps45
  go_wp2
  go_loopg [5] 0 (fun gg s5 wr => s5 = .int .i64 0 ∧ wr = W)
  case atStart => exact ⟨rfl, rfl⟩
  case round =>
    obtain ⟨rfl, rfl⟩ := hrel
    go_wp2
    go_ret
    exact ⟨rfl, rfl⟩

theorem seenZ (z : Int) (W : World) : Calls Try.prog 44 #[.agg #[.int .i64 0, .int .i64 0, .int .i64 0, .int .i64 0, .int .i64 0, .int .i64 0, .int .i64 0, .int .i64 0, .slice none 0 0], .int .i64 z] W fun r w' => r = .returned (.int .i64 0) ∧ Below W.heap.size W w' := by
  by_cases h : 0 ≤ z ∧ z < 8
  · obtain ⟨i, rfl⟩ := Int.eq_ofNat_of_zero_le h.1
    exact seen_in (fun _ => 0) (.slice none 0 0) rfl i (by omega) W
  · exact seen_out (fun _ => 0) (.slice none 0 0) rfl z (by omega) W
theorem entriesZ (W : World) : Calls Try.prog 32 #[.agg #[.int .i64 0, .int .i64 0, .int .i64 0, .int .i64 0, .int .i64 0, .int .i64 0, .int .i64 0, .int .i64 0, .slice none 0 0]] W fun e w' => ∃ ao c, e = .returned (.slice ao 0 c) ∧ Below W.heap.size W w' := by
  refine (show Calls Try.prog 32 #[.agg #[.int .i64 0, .int .i64 0, .int .i64 0, .int .i64 0, .int .i64 0, .int .i64 0, .int .i64 0, .int .i64 0, .slice none 0 0]] W (OutE W.heap.size W []) from entries_any (fun _ => 0) none 0 0 [] W (El.nil W) (by omega)).mono ?_
  rintro e w' ⟨ao, c, he, _, hb⟩
  exact ⟨ao, c, he, hb⟩

set_option maxRecDepth 100000 in
set_option maxHeartbeats 8000000 in
theorem same_zero (W : World) : Calls Try.prog 16 #[.agg #[.int .i64 0, .int .i64 0, .int .i64 0, .int .i64 0, .int .i64 0, .int .i64 0, .int .i64 0, .int .i64 0, .slice none 0 0], .agg #[.int .i64 0, .int .i64 0, .int .i64 0, .int .i64 0, .int .i64 0, .int .i64 0, .int .i64 0, .int .i64 0, .slice none 0 0]] W fun e w' => e = .returned (.bool true) ∧ Below W.heap.size W w' := by
  obtain ⟨V, hV⟩ : ∃ V, V = (W.alloc (.cells #[.int .i64 0, .int .i64 0, .int .i64 0, .int .i64 0, .int .i64 0, .int .i64 0, .int .i64 0, .int .i64 0, .slice none 0 0] 34)).alloc (.cells #[.int .i64 0, .int .i64 0, .int .i64 0, .int .i64 0, .int .i64 0, .int .i64 0, .int .i64 0, .int .i64 0, .slice none 0 0] 36) := ⟨_, rfl⟩
  have HBV : Hid (Below W.heap.size W V) := Lib.hid (by rw [hV]; exact below2 W _ _)
  have TA : Hid (V.heap[W.heap.size]? = some (.cells #[.int .i64 0, .int .i64 0, .int .i64 0, .int .i64 0, .int .i64 0, .int .i64 0, .int .i64 0, .int .i64 0, .slice none 0 0] 34 (0, 0))) := Lib.hid (by rw [hV]; exact block1 W _ _)
  have TR : Hid (V.heap[W.heap.size + 1]? = some (.cells #[.int .i64 0, .int .i64 0, .int .i64 0, .int .i64 0, .int .i64 0, .int .i64 0, .int .i64 0, .int .i64 0, .slice none 0 0] 36 (0, 0))) := Lib.hid (by rw [hV]; exact block2 W _ _)
  have HV := Lib.hid hV
  clear hV
  go_enter Try.func16, Try.ntmps16
  go_upto_region 1 with fail
  rw [← HV.out]
  go_wp2
  go_loopg [5, 6] 12 (fun gg s5 s6 wr => ∃ z : Int, s5 = .int .i64 z ∧ -1 ≤ z ∧ z ≤ 9 ∧ 9 - z ≤ (gg : Int) ∧ Hid (Below V.heap.size V wr))
  case atStart => exact ⟨-1, rfl, by omega, by omega, by omega, Lib.hid (Below.refl _ _)⟩
  case round =>
    obtain ⟨z, rfl, h1, h2, hgg, HB⟩ := hrel
    obtain ⟨p0, p1, p2, p3, p4, p5, p6, p7, p8⟩ := cell_nine (row_keep HB.out TA.out)
    by_cases h3 : z ≤ 8
    · have g0 : IntKind.i64.wrap (z + 1) = z + 1 := IntWalk.i64_in _ (by omega)
      by_cases h4 : 0 ≤ z ∧ z < 8
      · obtain ⟨i, rfl⟩ := Int.eq_ofNat_of_zero_le h4.1
        have g1 : decide ((0 : Int) ≤ (i : Int)) = true := by simp
        have g2 : decide ((i : Int) < 8) = true := by simp; omega
        have g3 : (0 : Int) ≤ (i : Int) := h4.1
        have g4 : (i : Int) < 8 := h4.2
        have c1 : wr.cell? ⟨W.heap.size + 1, i, none⟩ = some (.int .i64 0) := nine_at (s := fun _ => 0) (row_keep HB.out TR.out) i (by omega)
        go_wp2_with (go_at_call 44; refine (seenZ _ _).mono ?_; rintro e w1 ⟨rfl, hb⟩; have HB1 := Lib.hid (HB.out.trans (hb.mono HB.out.size)); clear hb)
        go_roundg (8 - i)
        case measure => omega
        case rel => exact ⟨(i : Int) + 1, by go_num, by omega, by omega, by omega, HB1⟩
      · have g12 : (decide ((0 : Int) ≤ z) && decide (z < 8)) = false := by simp; omega
        by_cases h5 : z = -1
        · subst h5
          go_wp2_with (go_at_call 44; refine (seenZ _ _).mono ?_; rintro e w1 ⟨rfl, hb⟩; have HB1 := Lib.hid (HB.out.trans (hb.mono HB.out.size)); clear hb)
          go_roundg 9
          case measure => omega
          case rel => exact ⟨0, by go_num, by omega, by omega, by omega, HB1⟩
        · obtain rfl : z = 8 := by omega
          go_wp2_with (go_at_call 44; refine (seenZ _ _).mono ?_; rintro e w1 ⟨rfl, hb⟩; have HB1 := Lib.hid (HB.out.trans (hb.mono HB.out.size)); clear hb)
          go_roundg 0
          case measure => omega
          case rel => exact ⟨9, by go_num, by omega, by omega, by omega, HB1⟩
    · obtain rfl : z = 9 := by omega
      obtain ⟨q0, q1, q2, q3, q4, q5, q6, q7, q8⟩ := cell_nine (row_keep HB.out TR.out)
      go_upto_region 9 with fail
      go_region_held3 (fun w' => w'.cell? ⟨W.heap.size, 0, none⟩ = some (.int .i64 0) ∧ w'.cell? ⟨W.heap.size, 1, none⟩ = some (.int .i64 0) ∧ w'.cell? ⟨W.heap.size, 2, none⟩ = some (.int .i64 0) ∧ w'.cell? ⟨W.heap.size, 3, none⟩ = some (.int .i64 0) ∧ w'.cell? ⟨W.heap.size, 4, none⟩ = some (.int .i64 0) ∧ w'.cell? ⟨W.heap.size, 5, none⟩ = some (.int .i64 0) ∧ w'.cell? ⟨W.heap.size, 6, none⟩ = some (.int .i64 0) ∧ w'.cell? ⟨W.heap.size, 7, none⟩ = some (.int .i64 0) ∧ w'.cell? ⟨W.heap.size, 8, none⟩ = some (.slice none 0 0) ∧ w'.cell? ⟨W.heap.size + 1, 8, none⟩ = some (.slice none 0 0)) (first | (with_reducible exact ⟨by assumption, by assumption, by assumption, by assumption, by assumption, by assumption, by assumption, by assumption, by assumption, by assumption⟩) | go_keep) (first
        | (go_at_call 32; refine (entriesZ _).mono ?_; rintro e w1 ⟨ao, c, rfl, hb⟩; replace HB := Lib.hid (below_then (below_then HB.out (below_drewN (Below.refl wr.heap.size wr) 1)) hb); obtain ⟨y0, y1, y2, y3, y4, y5, y6, y7, y8⟩ := cell_nine (row_keep HB.out TA.out); have y9 := (cell_nine (row_keep HB.out TR.out)).2.2.2.2.2.2.2.2; clear hb)
        | (go_at_call 45; refine (alike_nil _ _ _ _ _).mono ?_; rintro e w1 ⟨rfl, rfl⟩))
      all_goals go_wp2_with fail
      all_goals go_ret
      all_goals exact ⟨rfl, HBV.out.trans (HB.out.mono HBV.out.size)⟩
end Go.Proofs.Ytkdbdocipijncaa

/- An argument that is an integer; a law's end. -/
set_option linter.unusedVariables false
set_option linter.unusedSimpArgs false
namespace Go.Proofs.Ytkdbdocipijncaa
open Go.ChangeShapes Go.WideShapes Go.RowKit Go.Joins

def InWord (z : Int) : Prop := -9223372036854775808 ≤ z ∧ z ≤ 9223372036854775807

set_option maxRecDepth 100000 in
theorem open_int {H : Type} {enc : TypeId × Value → H} {W : World} {v : Value} {d : DataW H} {p : List MemPlace} {base : Nat}
    (hv : Value.okWide Try.prog W .any base 3 v) (h : DataW.Trod enc Try.prog W 0 (fun _ => true) true 3 v d p) : ∃ n, v = .int .i64 n ∧ InWord n := by
  obtain ⟨n, rfl⟩ := okWide_int Try.underlying3 hv
  obtain ⟨fuel, hf⟩ := h
  obtain ⟨m, e0, _, w0⟩ := DataW.trod_int Try.underlying3 hf
  simp [Value.cells] at e0
  subst e0
  exact ⟨n, rfl, bounds_i64 w0⟩

/-- the arguments read on as they did -/
theorem trodAll_below {H : Type} {enc : TypeId × Value → H} {P : Program} (hl : laidOutB P = true) {W W' : World} (hb : Below W.heap.size W W') :
    ∀ {ts : List TypeId} {vs : List Value} {ds : List (DataW H)} {ps : List MemPlace}, (∀ t ∈ ts, P.readableRec t = true ∧ t < P.types.size) →
      DataW.TrodAll enc P W 0 (fun _ => true) true ts vs ds ps → (∀ x ∈ ps, x.block < W.heap.size) → DataW.TrodAll enc P W' 0 (fun b => decide (b < W.heap.size)) true ts vs ds ps
  | [], [], [], _, _, h, _ => h
  | t :: ts, v :: vs, d :: ds, _, ht, ⟨p, q, h1, h2, e⟩, hlt => by
    have h3 := ht t List.mem_cons_self
    exact ⟨p, q, Below.trod hl h3.1 h3.2 h1 hb (fun x hx => hlt x (by rw [e]; exact List.mem_append_left _ hx)),
      trodAll_below hl hb (fun t' ht' => ht t' (List.mem_cons_of_mem _ ht')) h2 (fun x hx => hlt x (by rw [e]; exact List.mem_append_right _ hx)), e⟩
  | [], _ :: _, _, _, _, h, _ => by simp [DataW.TrodAll] at h
  | [], [], _ :: _, _, _, h, _ => by simp [DataW.TrodAll] at h
  | _ :: _, [], _, _, _, h, _ => by simp [DataW.TrodAll] at h
  | _ :: _, _ :: _, [], _, _, h, _ => by simp [DataW.TrodAll] at h

/-- a law's end -/
theorem post_law {P : Program} {H : Type} {enc : TypeId × Value → H} {f : Func} {s : ChangeSpec} {apart fresh handsOn : Bool} {W W' : World} {args : Array Value} {ds : List (DataW H)} {before : List MemPlace} {t : TypeId}
    (hl : laidOutB P = true) (hts : ∀ t ∈ f.params.toList, P.readableRec t = true ∧ t < P.types.size)
    (hW : DataW.Whole enc P f.params.toList s.vars apart W args.toList ds [] before) (hvs : s.vars = []) (hrt : f.resultTypes = #[t]) (hub : P.underlying t = some .bool)
    (hA : DataW.TrodAll enc P W 0 (fun _ => true) true f.params.toList args.toList ds before)
    (hr : (s.fn H ds).results = [.lit (.bool true)]) (ha : (s.fn H ds).args = ds) (hv : (s.fn H ds).vars = []) (hb : Below W.heap.size W W') :
    s.post enc P f apart fresh handsOn false W args (.bool true) W' := by
  have hlt := hW.lt
  refine ⟨ds, [], before, [], before, [], hW, ?_, ?_, ?_, World.keptBut_mono (fun p hp => ⟨hp, ?_⟩) (hb.frame _), fun h => by cases h⟩
  · rw [List.append_nil, hr, hrt]
    exact trodAll_cons_mk (shut_bool hub _) trodAll_mk0
  · rw [List.append_nil, ha]
    exact trodAll_below hl hb hts hA (fun x hx => by simpa using hlt x hx)
  · rw [List.append_nil, hv, hvs]
    rfl
  · exact Or.inr (by simpa using hp)

set_option maxRecDepth 100000 in
theorem open_u8 {H : Type} {enc : TypeId × Value → H} {W : World} {v : Value} {d : DataW H} {p : List MemPlace} {base : Nat}
    (hv : Value.okWide Try.prog W .any base 5 v) (h : DataW.Trod enc Try.prog W 0 (fun _ => true) true 5 v d p) : ∃ n : Nat, v = .int .u8 (n : Int) ∧ n ≤ 255 := by
  obtain ⟨n, rfl⟩ := okWide_int Try.underlying5 hv
  obtain ⟨fuel, hf⟩ := h
  obtain ⟨m, e0, _, w0⟩ := DataW.trod_int Try.underlying5 hf
  simp [Value.cells] at e0
  subst e0
  have := bounds_u8 w0
  exact ⟨n.toNat, by rw [Int.toNat_of_nonneg this.1], by omega⟩
set_option maxRecDepth 100000 in
theorem open_str {H : Type} {enc : TypeId × Value → H} {W : World} {v : Value} {d : DataW H} {p : List MemPlace} {base : Nat}
    (hv : Value.okWide Try.prog W .any base 9 v) (h : DataW.Trod enc Try.prog W 0 (fun _ => true) true 9 v d p) : ∃ s : ByteArray, v = .string s := by
  obtain ⟨a0, rfl, _, _, w0⟩ := Go.ChangeMaps.open_string Try.underlying9 hv h
  exact ⟨a0, rfl⟩
end Go.Proofs.Ytkdbdocipijncaa

/- SyncNobody, walked. (By gen_nobody.py.) -/
set_option linter.unusedVariables false
set_option linter.unusedSimpArgs false
namespace Go.Proofs.Ytkdbdocipijncaa
open Go.ChangeShapes Go.WideShapes Go.RowKit Go.Joins Go.Deep Go.Shelf Go.Sort

theorem cell_five {w : World} {T : Nat} {a0 a1 a2 a3 a4 : Value} {ty : TypeId} (h : w.heap[T]? = some (.cells #[a0, a1, a2, a3, a4] ty (0, 0))) :
    w.cell? ⟨T, 0, none⟩ = some a0 ∧ w.cell? ⟨T, 1, none⟩ = some a1 ∧ w.cell? ⟨T, 2, none⟩ = some a2 ∧ w.cell? ⟨T, 3, none⟩ = some a3 ∧ w.cell? ⟨T, 4, none⟩ = some a4 := by
  refine ⟨?_, ?_, ?_, ?_, ?_⟩ <;> (simp only [World.cell?]; rw [h]; rfl)
theorem table_nilA (i : Int) (W : World) : Calls Try.prog 35 #[.pointer none, .int .i64 i] W fun e w' => e = .returned (.tuple #[.agg #[.int .i64 0, .int .i64 0, .int .i64 0, .int .i64 0, .int .i64 0, .int .i64 0, .int .i64 0, .int .i64 0, .slice none 0 0], .int .i64 1]) ∧ Below W.heap.size W w' := netTable_nil i W

/-- a struct by value whose fields are single cells, opened: its cells, each with its reading -/
theorem open_cells {H : Type} {enc : TypeId × Value → H} {P : Program} {w : World} {base b0 : Nat} {r : Reach} {spare : Nat → Bool} {held : Bool} {t : TypeId} {fs : Array Field} {v : Value} {d : DataW H} {p : List MemPlace}
    (he : P.underlying t = some (.struct fs)) (h1 : oneCellFields P fs = true) (hC : P.cellsOf t = fs.size) (hv : Value.okWide P w r b0 t v) (h : DataW.Trod enc P w base spare held t v d p) :
    ∃ cs : Array Value, v = .agg cs ∧ cs.size = fs.size ∧ ∀ (j : Nat) (tj : TypeId), fs[j]?.map (·.type) = some tj → ∃ (u : Value) (y : DataW H × List MemPlace) (m : Nat), cs[j]? = some u ∧ DataW.trod enc P w base spare held m tj [u] = some y := by
  obtain ⟨cs, rfl, hsz⟩ := okWide_struct he hv
  obtain ⟨fuel, hf⟩ := h
  obtain ⟨ys, m, _, _, hl, hyl, hg⟩ := DataW.trod_struct he hf
  refine ⟨cs, rfl, hsz.trans hC, fun j tj hjt => ?_⟩
  obtain ⟨f, hj, rfl⟩ := Option.map_eq_some_iff.1 hjt
  have hjs : j < fs.size := (Array.getElem?_eq_some_iff.1 hj).1
  have hjc : j < cs.toList.length := by simp; omega
  obtain ⟨o1, o2⟩ := Go.Deep.hone_of h1 j f hj
  have hr := hg j f hj
  rw [show (Value.agg cs).cells.toList = cs.toList from rfl, o1, o2, List.drop_eq_getElem_cons hjc] at hr
  have hy : ys[j]? = some (ys[j]'(by omega)) := List.getElem?_eq_getElem (by omega)
  refine ⟨cs.toList[j], ys[j]'(by omega), m, ?_, ?_⟩
  · rw [← Array.getElem?_toList, List.getElem?_eq_getElem hjc]
  · rw [← hy, ← hr]; rfl
theorem five_of {cs : Array Value} (h : cs.size = 5) {a0 a1 a2 a3 a4 : Value} (h0 : cs[0]? = some a0) (h1 : cs[1]? = some a1) (h2 : cs[2]? = some a2) (h3 : cs[3]? = some a3) (h4 : cs[4]? = some a4) : cs = #[a0, a1, a2, a3, a4] := by
  apply Array.ext_getElem?
  intro i
  rcases i with _ | _ | _ | _ | _ | i
  · simpa using h0
  · simpa using h1
  · simpa using h2
  · simpa using h3
  · simpa using h4
  · rw [Array.getElem?_eq_none (by omega), Array.getElem?_eq_none (by simp)]

set_option maxRecDepth 100000 in
theorem open_deed {H : Type} {enc : TypeId × Value → H} {W : World} {v : Value} {d : DataW H} {p : List MemPlace} {base : Nat}
    (hv : Value.okWide Try.prog W .any base 60 v) (h : DataW.Trod enc Try.prog W 0 (fun _ => true) true 60 v d p) :
    ∃ (kd a b : Int) (k u : ByteArray), v = .agg #[.int .u8 kd, .int .i64 a, .int .i64 b, .string k, .string u] := by
  obtain ⟨cs, rfl, hsz, hf⟩ := open_cells Try.underlying60 (by kernel_rfl) (by kernel_rfl) hv h
  obtain ⟨u0, y0, m0, e0, t0⟩ := hf 0 5 (by kernel_rfl)
  obtain ⟨u1, y1, m1, e1, t1⟩ := hf 1 3 (by kernel_rfl)
  obtain ⟨u2, y2, m2, e2, t2⟩ := hf 2 3 (by kernel_rfl)
  obtain ⟨u3, y3, m3, e3, t3⟩ := hf 3 9 (by kernel_rfl)
  obtain ⟨u4, y4, m4, e4, t4⟩ := hf 4 9 (by kernel_rfl)
  obtain ⟨n0, f0, _, _⟩ := DataW.trod_int Try.underlying5 t0
  obtain ⟨n1, f1, _, _⟩ := DataW.trod_int Try.underlying3 t1
  obtain ⟨n2, f2, _, _⟩ := DataW.trod_int Try.underlying3 t2
  obtain ⟨n3, f3, _, _⟩ := DataW.trod_string Try.underlying9 t3
  obtain ⟨n4, f4, _, _⟩ := DataW.trod_string Try.underlying9 t4
  cases f0; cases f1; cases f2; cases f3; cases f4
  exact ⟨n0, n1, n2, n3, n4, by rw [five_of (hsz.trans (by kernel_rfl)) e0 e1 e2 e3 e4]⟩

set_option maxRecDepth 100000 in
set_option maxHeartbeats 8000000 in
theorem nobody_walk (kd a b : Int) (k v : ByteArray) (keep : Bool) (W : World) :
    Calls Try.prog 7 #[.agg #[.int .u8 kd, .int .i64 a, .int .i64 b, .string k, .string v], .bool keep] W fun e w' => e = .returned (.bool true) ∧ Below W.heap.size W w' := by
  obtain ⟨V, hV⟩ : ∃ V, V = W.alloc (.cells #[.int .u8 kd, .int .i64 a, .int .i64 b, .string k, .string v] 60) := ⟨_, rfl⟩
  have HBV : Hid (Below W.heap.size W V) := Lib.hid (by rw [hV]; exact box_below W _)
  have TD : Hid (V.heap[W.heap.size]? = some (.cells #[.int .u8 kd, .int .i64 a, .int .i64 b, .string k, .string v] 60 (0, 0))) := Lib.hid (by rw [hV]; exact heap_alloc_new _ _)
  have BD : Hid (Below V.heap.size V V) := Lib.hid (Below.refl _ _)
  have HV := Lib.hid hV
  clear hV
  obtain ⟨d0, d1, d2, d3, d4⟩ := cell_five TD.out
  go_enter Try.func7, Try.ntmps7
  go_upto_region 2 with fail
  rw [← HV.out]
  go_wp2_with 
    (first
      | (go_at_call 35; refine (table_nilA a _).mono ?_; rintro e w6 ⟨rfl, hb⟩; replace BD := Lib.hid (below_then BD.out hb); clear d0 d1 d2 d3 d4; obtain ⟨d0, d1, d2, d3, d4⟩ := cell_five (row_keep BD.out TD.out); clear hb)
      | (go_at_call 16; refine (same_zero _).mono ?_; rintro e w6 ⟨rfl, hb⟩; replace BD := Lib.hid (below_then (below_then BD.out (box_below _ _)) hb); clear d0 d1 d2 d3 d4; obtain ⟨d0, d1, d2, d3, d4⟩ := cell_five (row_keep BD.out TD.out); clear hb)
      | (go_at_call 36; refine (netPut_nil _ _ _ _).mono ?_; rintro e w6 ⟨rfl, hb⟩; replace BD := Lib.hid (below_then BD.out hb); clear d0 d1 d2 d3 d4; obtain ⟨d0, d1, d2, d3, d4⟩ := cell_five (row_keep BD.out TD.out); clear hb)
      | (go_at_call 37; refine (netRemove_nil _ _ _).mono ?_; rintro e w6 ⟨rfl, hb⟩; replace BD := Lib.hid (below_then BD.out hb); clear d0 d1 d2 d3 d4; obtain ⟨d0, d1, d2, d3, d4⟩ := cell_five (row_keep BD.out TD.out); clear hb)
      | (go_at_call 33; refine (netSend_nil _ _ _).mono ?_; rintro e w6 ⟨rfl, hb⟩; replace BD := Lib.hid (below_then BD.out hb); clear d0 d1 d2 d3 d4; obtain ⟨d0, d1, d2, d3, d4⟩ := cell_five (row_keep BD.out TD.out); clear hb)
      | (go_at_call 38; refine (deliver_nil _ _ _).mono ?_; rintro e w6 ⟨rfl, rfl⟩)
      | (go_at_call 39; refine (lose_nil _ _).mono ?_; rintro e w6 ⟨rfl, rfl⟩)
      | (go_at_call 40; refine (sites_nil _).mono ?_; rintro e w6 ⟨rfl, rfl⟩)
      | (go_at_call 34; refine (letters_nil _).mono ?_; rintro e w6 ⟨rfl, rfl⟩)
      | (go_at_call 41; refine (settled_nil _).mono ?_; rintro e w6 ⟨rfl, rfl⟩)
      | (go_at_call 14; refine (awake_any _).mono ?_; rintro e w6 ⟨rfl, hb⟩; replace BD := Lib.hid (below_then BD.out hb); clear d0 d1 d2 d3 d4; obtain ⟨d0, d1, d2, d3, d4⟩ := cell_five (row_keep BD.out TD.out); clear hb))
  go_ret
  exact ⟨rfl, HBV.out.trans (BD.out.mono HBV.out.size)⟩
end Go.Proofs.Ytkdbdocipijncaa
