/- Part 13 of the contracts: NDeliver, NNew, NLetters, NSettled, NUni, SLat2, SStrs. -/
import Derived.Test.YtpghehckojdgeaaPart12

/- A net's Deliver. (By gen_ndeliver.py.) -/
set_option linter.unusedVariables false
set_option linter.unusedSimpArgs false
namespace Go.Proofs.Ytpghehckojdgeaa
open Go.RowKit Go.Shelf Go.Sort

set_option maxRecDepth 100000 in
set_option maxHeartbeats 4000000 in
theorem netDel_out {W : World} {m b g : Nat} {lo : Option Addr} {lc : Nat} {ts : List Slot} {ms : List LSlot} (h : NetR W m b g lo lc ts ms) (z : Int) (keep : Bool) (hz : ¬ (0 ≤ z ∧ z < (ms.length : Int))) :
    Calls Try.prog 43 #[.pointer (some ⟨b, 0, none⟩), .int .i64 z, .bool keep] W fun e w' => e = .returned (.int .i64 3) ∧ W = w' := by
  have FI := Lib.hid (ltr_out b g ts.length ms.length lc lo z W h.cells.1 h.cells.2 (by have := h.pos; omega) hz)
  clear h
  go_enter Try.func43, Try.ntmps43
  go_wp2_with (go_at_call 73; refine FI.out.mono ?_; rintro e w1 ⟨rfl, rfl⟩)
  go_ret
  exact ⟨rfl, rfl⟩
theorem cell11 {w : World} {T : Nat} {a0 a1 a2 a3 a4 a5 a6 a7 a8 a9 a10 : Value} {ty : TypeId} (h : w.heap[T]? = some (.cells #[a0, a1, a2, a3, a4, a5, a6, a7, a8, a9, a10] ty (0, 0))) :
    w.cell? ⟨T, 0, none⟩ = some a0 ∧ w.cell? ⟨T, 1, none⟩ = some a1 ∧ w.cell? ⟨T, 2, none⟩ = some a2 ∧ w.cell? ⟨T, 3, none⟩ = some a3 ∧ w.cell? ⟨T, 4, none⟩ = some a4 ∧ w.cell? ⟨T, 5, none⟩ = some a5 ∧ w.cell? ⟨T, 6, none⟩ = some a6 ∧ w.cell? ⟨T, 7, none⟩ = some a7 ∧ w.cell? ⟨T, 8, none⟩ = some a8 ∧ w.cell? ⟨T, 9, none⟩ = some a9 ∧ w.cell? ⟨T, 10, none⟩ = some a10 := by
  refine ⟨?_, ?_, ?_, ?_, ?_, ?_, ?_, ?_, ?_, ?_, ?_⟩
  all_goals (simp only [World.cell?]; rw [h]; simp; done)

set_option maxRecDepth 100000 in
set_option maxHeartbeats 16000000 in
theorem netDel_keep {W : World} {m b g : Nat} {lo : Option Addr} {lc : Nat} {ts : List Slot} {ms : List LSlot} (h : NetR W m b g lo lc ts ms) (hm : m ≤ 40000) (i : Nat) (hi : i < ms.length) :
    Calls Try.prog 43 #[.pointer (some ⟨b, 0, none⟩), .int .i64 (i : Int), .bool true] W fun e w' => e = .returned (.int .i64 0) ∧ ∃ z : Slot, Hid (z.T = merT ts[ms[i]!.rcv]!.T ms[i]!.S.T) ∧ NetR w' m b g lo lc (ts.set ms[i]!.rcv z) ms ∧ Frm (fun j => j = g) W w' := by
  have FI := Lib.hid (ltr_in b g ts.length ms.length lc lo i W h.cells.1 h.cells.2 (by have := h.pos; omega) (by omega) (by omega))
  obtain ⟨gl, hgl, hgs⟩ := h.form (by omega)
  have la := h.ltrAt hgl hi
  have c1 := h.cells.2
  have hto := (h.idx i hi).2
  have hfew := h.few
  have HHX := h.mail i hi
  have HI := Lib.hid hi
  have HM256 := h.most
  obtain ⟨x, hx⟩ : ∃ x, x = ms[i]! := ⟨_, rfl⟩
  have HXI := Lib.hid hx
  rw [← hx] at la hto HHX ⊢
  clear hx
  obtain ⟨t, ht⟩ : ∃ t, t = x.rcv := ⟨_, rfl⟩
  have HT := Lib.hid ht
  rw [← ht] at hto ⊢
  clear ht
  have HHY := h.held t hto
  obtain ⟨y, hy⟩ : ∃ y, y = ts[t]! := ⟨_, rfl⟩
  have HYI := Lib.hid hy
  rw [← hy] at HHY ⊢
  clear hy
  unfold LSlotAt at la
  rw [← HT.out] at la
  obtain ⟨l0, l1, l2, l3, l4, l5, l6, l7, l8, l9, l10⟩ := la
  rw [hgl] at c1
  have c0 := h.cells.1
  obtain ⟨V, hV⟩ : ∃ V, V = W.alloc (.cells #[.int .i64 (x.frm : Int), .int .i64 (t : Int), .int .i64 (x.S.T.seen 0 : Int), .int .i64 (x.S.T.seen 1 : Int), .int .i64 (x.S.T.seen 2 : Int), .int .i64 (x.S.T.seen 3 : Int), .int .i64 (x.S.T.seen 4 : Int), .int .i64 (x.S.T.seen 5 : Int), .int .i64 (x.S.T.seen 6 : Int), .int .i64 (x.S.T.seen 7 : Int), .slice x.S.ao x.S.n x.S.c] 114) := ⟨_, rfl⟩
  have HB : Hid (Below W.heap.size W V) := Lib.hid (by rw [hV]; exact box_below W _)
  have HN := Lib.hid (h.keep HB.out)
  have HBX : Hid (V.heap[W.heap.size]? = some (.cells #[.int .i64 (x.frm : Int), .int .i64 (t : Int), .int .i64 (x.S.T.seen 0 : Int), .int .i64 (x.S.T.seen 1 : Int), .int .i64 (x.S.T.seen 2 : Int), .int .i64 (x.S.T.seen 3 : Int), .int .i64 (x.S.T.seen 4 : Int), .int .i64 (x.S.T.seen 5 : Int), .int .i64 (x.S.T.seen 6 : Int), .int .i64 (x.S.T.seen 7 : Int), .slice x.S.ao x.S.n x.S.c] 114 (0, 0))) := Lib.hid (by rw [hV]; exact heap_alloc_new _ _)
  obtain ⟨PT, hPT⟩ : ∃ PT, PT = merT y.T x.S.T := ⟨_, rfl⟩
  have MA : Hid (∀ w, Below V.heap.size V w → Calls Try.prog 25 #[.agg #[.int .i64 (y.T.seen 0 : Int), .int .i64 (y.T.seen 1 : Int), .int .i64 (y.T.seen 2 : Int), .int .i64 (y.T.seen 3 : Int), .int .i64 (y.T.seen 4 : Int), .int .i64 (y.T.seen 5 : Int), .int .i64 (y.T.seen 6 : Int), .int .i64 (y.T.seen 7 : Int), .slice y.ao y.n y.c], .agg #[.int .i64 (x.S.T.seen 0 : Int), .int .i64 (x.S.T.seen 1 : Int), .int .i64 (x.S.T.seen 2 : Int), .int .i64 (x.S.T.seen 3 : Int), .int .i64 (x.S.T.seen 4 : Int), .int .i64 (x.S.T.seen 5 : Int), .int .i64 (x.S.T.seen 6 : Int), .int .i64 (x.S.T.seen 7 : Int), .slice x.S.ao x.S.n x.S.c]] w fun e w' => ∃ z : Slot, e = .returned (.agg #[.int .i64 (z.T.seen 0 : Int), .int .i64 (z.T.seen 1 : Int), .int .i64 (z.T.seen 2 : Int), .int .i64 (z.T.seen 3 : Int), .int .i64 (z.T.seen 4 : Int), .int .i64 (z.T.seen 5 : Int), .int .i64 (z.T.seen 6 : Int), .int .i64 (z.T.seen 7 : Int), .slice z.ao z.n z.c]) ∧ Hid (z.T = PT) ∧ Held w' m z.T z.ao z.n ∧ Below w.heap.size w w') := Lib.hid fun w hb => (mergeA y.c x.S.c ((HHY.keep HB.out).keep hb) ((HHX.keep HB.out).keep hb) hm).mono fun e w' ⟨T', a', n', c', h1, h2, h3, h4⟩ => ⟨⟨T', a', n', c'⟩, h1, Lib.hid (h2.out.trans hPT.symm), h3, h4⟩
  rw [← hPT]
  have HTO := Lib.hid hto
  have hp := h.pos
  have HGL := Lib.hid hgl
  generalize hkk : ts.length = kk at *
  have HKK := Lib.hid hkk
  clear hkk
  generalize hnn : ms.length = n at *
  have HNN := Lib.hid hnn
  clear hnn
  have k1 : (0 : Int) ≤ (i : Int) := by omega
  have k2 : (i : Int) < (n : Int) := by omega
  have k3 : (0 : Int) ≤ (t : Int) := by omega
  have k4 : (t : Int) < (kk : Int) := by omega
  have HV := Lib.hid hV
  clear hV hPT h hgl HHX HHY
  go_enter Try.func43, Try.ntmps43
  go_upto_region 5 with (go_at_call 73; refine FI.out.mono ?_; rintro e w1 ⟨rfl, rfl⟩)
  rw [← HV.out]
  clear l0 l1 l2 l3 l4 l5 l6 l7 l8 l9 l10 c0 c1
  obtain ⟨d0, d1, d2, d3, d4, d5, d6, d7, d8, d9, d10⟩ := cell11 HBX.out
  have pa := HN.out.tabAt (i := t) (by rw [HKK.out]; exact HTO.out)
  rw [← HYI.out] at pa
  obtain ⟨p0, p1, p2, p3, p4, p5, p6, p7, p8⟩ := pa
  have c0 := HN.out.cells.1
  rw [HKK.out] at c0
  refine wp_region_late (S := fun w' => w'.cell? ⟨b, 0, none⟩ = some (.slice (some ⟨g, 0, none⟩) kk kk) ∧ w'.cell? ⟨W.heap.size, 1, none⟩ = some (.int .i64 (t : Int)) ∧ w'.cell? ⟨g, t * 9, none⟩ = some (.int .i64 (y.T.seen 0 : Int)) ∧ w'.cell? ⟨g, t * 9 + 1, none⟩ = some (.int .i64 (y.T.seen 1 : Int)) ∧ w'.cell? ⟨g, t * 9 + 2, none⟩ = some (.int .i64 (y.T.seen 2 : Int)) ∧ w'.cell? ⟨g, t * 9 + 3, none⟩ = some (.int .i64 (y.T.seen 3 : Int)) ∧ w'.cell? ⟨g, t * 9 + 4, none⟩ = some (.int .i64 (y.T.seen 4 : Int)) ∧ w'.cell? ⟨g, t * 9 + 5, none⟩ = some (.int .i64 (y.T.seen 5 : Int)) ∧ w'.cell? ⟨g, t * 9 + 6, none⟩ = some (.int .i64 (y.T.seen 6 : Int)) ∧ w'.cell? ⟨g, t * 9 + 7, none⟩ = some (.int .i64 (y.T.seen 7 : Int)) ∧ w'.cell? ⟨g, t * 9 + 8, none⟩ = some (.slice y.ao y.n y.c) ∧ w'.cell? ⟨W.heap.size, 2, none⟩ = some (.int .i64 (x.S.T.seen 0 : Int)) ∧ w'.cell? ⟨W.heap.size, 3, none⟩ = some (.int .i64 (x.S.T.seen 1 : Int)) ∧ w'.cell? ⟨W.heap.size, 4, none⟩ = some (.int .i64 (x.S.T.seen 2 : Int)) ∧ w'.cell? ⟨W.heap.size, 5, none⟩ = some (.int .i64 (x.S.T.seen 3 : Int)) ∧ w'.cell? ⟨W.heap.size, 6, none⟩ = some (.int .i64 (x.S.T.seen 4 : Int)) ∧ w'.cell? ⟨W.heap.size, 7, none⟩ = some (.int .i64 (x.S.T.seen 5 : Int)) ∧ w'.cell? ⟨W.heap.size, 8, none⟩ = some (.int .i64 (x.S.T.seen 6 : Int)) ∧ w'.cell? ⟨W.heap.size, 9, none⟩ = some (.int .i64 (x.S.T.seen 7 : Int)) ∧ w'.cell? ⟨W.heap.size, 10, none⟩ = some (.slice x.S.ao x.S.n x.S.c)) 18 (by kernel_rfl) ⟨c0, d1, p0, p1, p2, p3, p4, p5, p6, p7, p8, d2, d3, d4, d5, d6, d7, d8, d9, d10⟩ (fun hS => ?_)
  refine wpAnyT_take (i := 0) (v := ?v0) rfl (by kernel_rfl) (by kernel_rfl) (by kernel_rfl) (by kernel_rfl) (fun _ _ _ h => h) (Or.inl ⟨by rfl, ?hy0⟩) hS ?rest0
  case hy0 => (intro w hSw; (try dsimp only at hSw); (first | (go_simp; done) | (go_simp; with_reducible rfl)))
  try simp only [Act.put, List.setIfInBounds_toArray, List.set_cons_zero, List.set_cons_succ]
  refine wpAnyT_take (i := 1) (v := ?v1) rfl (by kernel_rfl) (by kernel_rfl) (by kernel_rfl) (by kernel_rfl) (fun _ _ _ h => h) (Or.inl ⟨by rfl, ?hy1⟩) hS ?rest1
  case hy1 => (intro w hSw; (try dsimp only at hSw); (first | (go_simp; done) | (go_simp; with_reducible rfl)))
  try simp only [Act.put, List.setIfInBounds_toArray, List.set_cons_zero, List.set_cons_succ]
  refine wpAnyT_take (i := 2) (v := ?v2) rfl (by kernel_rfl) (by kernel_rfl) (by kernel_rfl) (by kernel_rfl) (fun _ _ _ h => h) (Or.inl ⟨by rfl, ?hy2⟩) hS ?rest2
  case hy2 => (intro w hSw; (try dsimp only at hSw); (first | (go_simp; done) | (go_simp; with_reducible rfl)))
  try simp only [Act.put, List.setIfInBounds_toArray, List.set_cons_zero, List.set_cons_succ]
  refine wpAnyT_take (i := 3) (v := ?v3) rfl (by kernel_rfl) (by kernel_rfl) (by kernel_rfl) (by kernel_rfl) (fun _ _ _ h => h) (Or.inl ⟨by rfl, ?hy3⟩) hS ?rest3
  case hy3 => (intro w hSw; (try dsimp only at hSw); (first | (go_simp; done) | (go_simp; with_reducible rfl)))
  try simp only [Act.put, List.setIfInBounds_toArray, List.set_cons_zero, List.set_cons_succ]
  refine wpAnyT_take (i := 4) (v := ?v4) rfl (by kernel_rfl) (by kernel_rfl) (by kernel_rfl) (by kernel_rfl) (fun _ _ _ h => h) (Or.inl ⟨by rfl, ?hy4⟩) hS ?rest4
  case hy4 => (intro w hSw; (try dsimp only at hSw); (first | (go_simp; done) | (go_simp; with_reducible rfl)))
  try simp only [Act.put, List.setIfInBounds_toArray, List.set_cons_zero, List.set_cons_succ]
  refine wpAnyT_take (i := 5) (v := ?v5) rfl (by kernel_rfl) (by kernel_rfl) (by kernel_rfl) (by kernel_rfl) (fun _ _ _ h => h) (Or.inl ⟨by rfl, ?hy5⟩) hS ?rest5
  case hy5 => (intro w hSw; (try dsimp only at hSw); (first | (go_simp; done) | (go_simp; with_reducible rfl)))
  try simp only [Act.put, List.setIfInBounds_toArray, List.set_cons_zero, List.set_cons_succ]
  refine wpAnyT_take (i := 6) (v := ?v6) rfl (by kernel_rfl) (by kernel_rfl) (by kernel_rfl) (by kernel_rfl) (fun _ _ _ h => h) (Or.inl ⟨by rfl, ?hy6⟩) hS ?rest6
  case hy6 => (intro w hSw; (try dsimp only at hSw); (first | (go_simp; done) | (go_simp; with_reducible rfl)))
  try simp only [Act.put, List.setIfInBounds_toArray, List.set_cons_zero, List.set_cons_succ]
  refine wpAnyT_take (i := 7) (v := ?v7) rfl (by kernel_rfl) (by kernel_rfl) (by kernel_rfl) (by kernel_rfl) (fun _ _ _ h => h) (Or.inl ⟨by rfl, ?hy7⟩) hS ?rest7
  case hy7 => (intro w hSw; (try dsimp only at hSw); (first | (go_simp; done) | (go_simp; with_reducible rfl)))
  try simp only [Act.put, List.setIfInBounds_toArray, List.set_cons_zero, List.set_cons_succ]
  refine wpAnyT_take (i := 8) (v := ?v8) rfl (by kernel_rfl) (by kernel_rfl) (by kernel_rfl) (by kernel_rfl) (fun _ _ _ h => h) (Or.inl ⟨by rfl, ?hy8⟩) hS ?rest8
  case hy8 => (intro w hSw; (try dsimp only at hSw); (first | (go_simp; done) | (go_simp; with_reducible rfl)))
  try simp only [Act.put, List.setIfInBounds_toArray, List.set_cons_zero, List.set_cons_succ]
  refine wpAnyT_take (i := 9) (v := ?v9) rfl (by kernel_rfl) (by kernel_rfl) (by kernel_rfl) (by kernel_rfl) (fun _ _ _ h => h) (Or.inl ⟨by rfl, ?hy9⟩) hS ?rest9
  case hy9 => (intro w hSw; (try dsimp only at hSw); (first | (go_simp; done) | (go_simp; with_reducible rfl)))
  try simp only [Act.put, List.setIfInBounds_toArray, List.set_cons_zero, List.set_cons_succ]
  refine wpAnyT_take (i := 10) (v := ?v10) rfl (by kernel_rfl) (by kernel_rfl) (by kernel_rfl) (by kernel_rfl) (fun _ _ _ h => h) (Or.inl ⟨by rfl, ?hy10⟩) hS ?rest10
  case hy10 => (intro w hSw; (try dsimp only at hSw); (first | (go_simp; done) | (go_simp; with_reducible rfl)))
  try simp only [Act.put, List.setIfInBounds_toArray, List.set_cons_zero, List.set_cons_succ]
  refine wpAnyT_take (i := 11) (v := ?v11) rfl (by kernel_rfl) (by kernel_rfl) (by kernel_rfl) (by kernel_rfl) (fun _ _ _ h => h) (Or.inl ⟨by rfl, ?hy11⟩) hS ?rest11
  case hy11 => (intro w hSw; (try dsimp only at hSw); (first | (go_simp; done) | (go_simp; with_reducible rfl)))
  try simp only [Act.put, List.setIfInBounds_toArray, List.set_cons_zero, List.set_cons_succ]
  refine wpAnyT_take (i := 12) (v := ?v12) rfl (by kernel_rfl) (by kernel_rfl) (by kernel_rfl) (by kernel_rfl) (fun _ _ _ h => h) (Or.inl ⟨by rfl, ?hy12⟩) hS ?rest12
  case hy12 => (intro w hSw; (try dsimp only at hSw); (first | (go_simp; done) | (go_simp; with_reducible rfl)))
  try simp only [Act.put, List.setIfInBounds_toArray, List.set_cons_zero, List.set_cons_succ]
  refine wpAnyT_take (i := 13) (v := ?v13) rfl (by kernel_rfl) (by kernel_rfl) (by kernel_rfl) (by kernel_rfl) (fun _ _ _ h => h) (Or.inl ⟨by rfl, ?hy13⟩) hS ?rest13
  case hy13 => (intro w hSw; (try dsimp only at hSw); (first | (go_simp; done) | (go_simp; with_reducible rfl)))
  try simp only [Act.put, List.setIfInBounds_toArray, List.set_cons_zero, List.set_cons_succ]
  refine wpAnyT_take (i := 14) (v := ?v14) rfl (by kernel_rfl) (by kernel_rfl) (by kernel_rfl) (by kernel_rfl) (fun _ _ _ h => h) (Or.inl ⟨by rfl, ?hy14⟩) hS ?rest14
  case hy14 => (intro w hSw; (try dsimp only at hSw); (first | (go_simp; done) | (go_simp; with_reducible rfl)))
  try simp only [Act.put, List.setIfInBounds_toArray, List.set_cons_zero, List.set_cons_succ]
  refine wpAnyT_take (i := 15) (v := ?v15) rfl (by kernel_rfl) (by kernel_rfl) (by kernel_rfl) (by kernel_rfl) (fun _ _ _ h => h) (Or.inl ⟨by rfl, ?hy15⟩) hS ?rest15
  case hy15 => (intro w hSw; (try dsimp only at hSw); (first | (go_simp; done) | (go_simp; with_reducible rfl)))
  try simp only [Act.put, List.setIfInBounds_toArray, List.set_cons_zero, List.set_cons_succ]
  refine wpAnyT_step 16 rfl (by kernel_rfl) (by decide) (fun K hK => ?_)
  try go_simp
  go_at_call 25
  refine (MA.out V.drew (drew_below V)).mono ?_
  rintro e w4 ⟨z, rfl, hx, hh, hb⟩
  have HX := Lib.hid hx
  have HH4 := Lib.hid hh
  have B4 := Lib.hid ((drew_below V).trans hb)
  have N4 := Lib.hid (HN.out.keep B4.out)
  have pa := N4.out.tabAt (i := t) (by rw [HKK.out]; exact HTO.out)
  rw [← HYI.out] at pa
  obtain ⟨r0, r1, r2, r3, r4, r5, r6, r7, r8⟩ := pa
  have c4 := N4.out.cells.1
  rw [HKK.out] at c4
  have q1 := cell_later B4.out d1
  have q2 := cell_later B4.out d2
  have q3 := cell_later B4.out d3
  have q4 := cell_later B4.out d4
  have q5 := cell_later B4.out d5
  have q6 := cell_later B4.out d6
  have q7 := cell_later B4.out d7
  have q8 := cell_later B4.out d8
  have q9 := cell_later B4.out d9
  have q10 := cell_later B4.out d10
  have f0 := (N4.out.free (t * 9)).2
  have f1 := (N4.out.free (t * 9 + 1)).2
  have f2 := (N4.out.free (t * 9 + 2)).2
  have f3 := (N4.out.free (t * 9 + 3)).2
  have f4 := (N4.out.free (t * 9 + 4)).2
  have f5 := (N4.out.free (t * 9 + 5)).2
  have f6 := (N4.out.free (t * 9 + 6)).2
  have f7 := (N4.out.free (t * 9 + 7)).2
  have f8 := (N4.out.free (t * 9 + 8)).2
  clear hx hh hb
  refine hK.out _ _ ⟨c4, q1, r0, r1, r2, r3, r4, r5, r6, r7, r8, q2, q3, q4, q5, q6, q7, q8, q9, q10⟩ (fun hS => ?_)
  clear hK K
  try simp only [Act.put, List.setIfInBounds_toArray, List.set_cons_zero, List.set_cons_succ]
  refine wpAnyT_take (i := 17) (v := ?v17) rfl (by kernel_rfl) (by kernel_rfl) (by kernel_rfl) (by kernel_rfl) (fun _ _ _ h => h) (Or.inl ⟨by rfl, ?hy17⟩) hS ?rest17
  case hy17 => (intro w hSw; (try dsimp only at hSw); (first | (go_simp; done) | (go_simp; with_reducible rfl)))
  try simp only [Act.put, List.setIfInBounds_toArray, List.set_cons_zero, List.set_cons_succ]
  refine wpAnyT_last rfl (by kernel_rfl) (by kernel_rfl) (fun K hK => ?_)
  go_simp
  refine hK.out _ _ ?_
  clear hK K
  all_goals go_wp2
  all_goals go_ret
  all_goals exact ⟨rfl, z, HX.out, N4.out.store9' (by rw [HKK.out]; exact HTO.out) HH4.out (HB.out.trans (B4.out.mono HB.out.size))⟩

set_option maxRecDepth 100000 in
set_option maxHeartbeats 16000000 in
theorem netDel_drop {W : World} {m b g : Nat} {lo : Option Addr} {lc : Nat} {ts : List Slot} {ms : List LSlot} (h : NetR W m b g lo lc ts ms) (hm : m ≤ 40000) (i : Nat) (hi : i < ms.length) :
    Calls Try.prog 43 #[.pointer (some ⟨b, 0, none⟩), .int .i64 (i : Int), .bool false] W fun e w' => e = .returned (.int .i64 0) ∧ ∃ z : Slot, Hid (z.T = merT ts[ms[i]!.rcv]!.T ms[i]!.S.T) ∧ NetR w' m b g lo lc (ts.set ms[i]!.rcv z) (ms.eraseIdx i) ∧ Frm (Foot b g lo) W w' := by
  have FI := Lib.hid (ltr_in b g ts.length ms.length lc lo i W h.cells.1 h.cells.2 (by have := h.pos; omega) (by omega) (by omega))
  obtain ⟨gl, hgl, hgs⟩ := h.form (by omega)
  have la := h.ltrAt hgl hi
  have c1 := h.cells.2
  have hto := (h.idx i hi).2
  have hfew := h.few
  have HHX := h.mail i hi
  have HI := Lib.hid hi
  have HM256 := h.most
  obtain ⟨x, hx⟩ : ∃ x, x = ms[i]! := ⟨_, rfl⟩
  have HXI := Lib.hid hx
  rw [← hx] at la hto HHX ⊢
  clear hx
  obtain ⟨t, ht⟩ : ∃ t, t = x.rcv := ⟨_, rfl⟩
  have HT := Lib.hid ht
  rw [← ht] at hto ⊢
  clear ht
  have HHY := h.held t hto
  obtain ⟨y, hy⟩ : ∃ y, y = ts[t]! := ⟨_, rfl⟩
  have HYI := Lib.hid hy
  rw [← hy] at HHY ⊢
  clear hy
  unfold LSlotAt at la
  rw [← HT.out] at la
  obtain ⟨l0, l1, l2, l3, l4, l5, l6, l7, l8, l9, l10⟩ := la
  rw [hgl] at c1
  have c0 := h.cells.1
  obtain ⟨V, hV⟩ : ∃ V, V = W.alloc (.cells #[.int .i64 (x.frm : Int), .int .i64 (t : Int), .int .i64 (x.S.T.seen 0 : Int), .int .i64 (x.S.T.seen 1 : Int), .int .i64 (x.S.T.seen 2 : Int), .int .i64 (x.S.T.seen 3 : Int), .int .i64 (x.S.T.seen 4 : Int), .int .i64 (x.S.T.seen 5 : Int), .int .i64 (x.S.T.seen 6 : Int), .int .i64 (x.S.T.seen 7 : Int), .slice x.S.ao x.S.n x.S.c] 114) := ⟨_, rfl⟩
  have HB : Hid (Below W.heap.size W V) := Lib.hid (by rw [hV]; exact box_below W _)
  have HN := Lib.hid (h.keep HB.out)
  have HBX : Hid (V.heap[W.heap.size]? = some (.cells #[.int .i64 (x.frm : Int), .int .i64 (t : Int), .int .i64 (x.S.T.seen 0 : Int), .int .i64 (x.S.T.seen 1 : Int), .int .i64 (x.S.T.seen 2 : Int), .int .i64 (x.S.T.seen 3 : Int), .int .i64 (x.S.T.seen 4 : Int), .int .i64 (x.S.T.seen 5 : Int), .int .i64 (x.S.T.seen 6 : Int), .int .i64 (x.S.T.seen 7 : Int), .slice x.S.ao x.S.n x.S.c] 114 (0, 0))) := Lib.hid (by rw [hV]; exact heap_alloc_new _ _)
  obtain ⟨PT, hPT⟩ : ∃ PT, PT = merT y.T x.S.T := ⟨_, rfl⟩
  have MA : Hid (∀ w, Below V.heap.size V w → Calls Try.prog 25 #[.agg #[.int .i64 (y.T.seen 0 : Int), .int .i64 (y.T.seen 1 : Int), .int .i64 (y.T.seen 2 : Int), .int .i64 (y.T.seen 3 : Int), .int .i64 (y.T.seen 4 : Int), .int .i64 (y.T.seen 5 : Int), .int .i64 (y.T.seen 6 : Int), .int .i64 (y.T.seen 7 : Int), .slice y.ao y.n y.c], .agg #[.int .i64 (x.S.T.seen 0 : Int), .int .i64 (x.S.T.seen 1 : Int), .int .i64 (x.S.T.seen 2 : Int), .int .i64 (x.S.T.seen 3 : Int), .int .i64 (x.S.T.seen 4 : Int), .int .i64 (x.S.T.seen 5 : Int), .int .i64 (x.S.T.seen 6 : Int), .int .i64 (x.S.T.seen 7 : Int), .slice x.S.ao x.S.n x.S.c]] w fun e w' => ∃ z : Slot, e = .returned (.agg #[.int .i64 (z.T.seen 0 : Int), .int .i64 (z.T.seen 1 : Int), .int .i64 (z.T.seen 2 : Int), .int .i64 (z.T.seen 3 : Int), .int .i64 (z.T.seen 4 : Int), .int .i64 (z.T.seen 5 : Int), .int .i64 (z.T.seen 6 : Int), .int .i64 (z.T.seen 7 : Int), .slice z.ao z.n z.c]) ∧ Hid (z.T = PT) ∧ Held w' m z.T z.ao z.n ∧ Below w.heap.size w w') := Lib.hid fun w hb => (mergeA y.c x.S.c ((HHY.keep HB.out).keep hb) ((HHX.keep HB.out).keep hb) hm).mono fun e w' ⟨T', a', n', c', h1, h2, h3, h4⟩ => ⟨⟨T', a', n', c'⟩, h1, Lib.hid (h2.out.trans hPT.symm), h3, h4⟩
  rw [← hPT]
  have HTO := Lib.hid hto
  have hp := h.pos
  have HGL := Lib.hid hgl
  generalize hkk : ts.length = kk at *
  have HKK := Lib.hid hkk
  clear hkk
  generalize hnn : ms.length = n at *
  have HNN := Lib.hid hnn
  clear hnn
  have k1 : (0 : Int) ≤ (i : Int) := by omega
  have k2 : (i : Int) < (n : Int) := by omega
  have k3 : (0 : Int) ≤ (t : Int) := by omega
  have k4 : (t : Int) < (kk : Int) := by omega
  have HV := Lib.hid hV
  clear hV hPT h hgl HHX HHY
  go_enter Try.func43, Try.ntmps43
  go_upto_region 5 with (go_at_call 73; refine FI.out.mono ?_; rintro e w1 ⟨rfl, rfl⟩)
  rw [← HV.out]
  clear l0 l1 l2 l3 l4 l5 l6 l7 l8 l9 l10 c0 c1
  obtain ⟨d0, d1, d2, d3, d4, d5, d6, d7, d8, d9, d10⟩ := cell11 HBX.out
  have pa := HN.out.tabAt (i := t) (by rw [HKK.out]; exact HTO.out)
  rw [← HYI.out] at pa
  obtain ⟨p0, p1, p2, p3, p4, p5, p6, p7, p8⟩ := pa
  have c0 := HN.out.cells.1
  rw [HKK.out] at c0
  refine wp_region_late (S := fun w' => w'.cell? ⟨b, 0, none⟩ = some (.slice (some ⟨g, 0, none⟩) kk kk) ∧ w'.cell? ⟨W.heap.size, 1, none⟩ = some (.int .i64 (t : Int)) ∧ w'.cell? ⟨g, t * 9, none⟩ = some (.int .i64 (y.T.seen 0 : Int)) ∧ w'.cell? ⟨g, t * 9 + 1, none⟩ = some (.int .i64 (y.T.seen 1 : Int)) ∧ w'.cell? ⟨g, t * 9 + 2, none⟩ = some (.int .i64 (y.T.seen 2 : Int)) ∧ w'.cell? ⟨g, t * 9 + 3, none⟩ = some (.int .i64 (y.T.seen 3 : Int)) ∧ w'.cell? ⟨g, t * 9 + 4, none⟩ = some (.int .i64 (y.T.seen 4 : Int)) ∧ w'.cell? ⟨g, t * 9 + 5, none⟩ = some (.int .i64 (y.T.seen 5 : Int)) ∧ w'.cell? ⟨g, t * 9 + 6, none⟩ = some (.int .i64 (y.T.seen 6 : Int)) ∧ w'.cell? ⟨g, t * 9 + 7, none⟩ = some (.int .i64 (y.T.seen 7 : Int)) ∧ w'.cell? ⟨g, t * 9 + 8, none⟩ = some (.slice y.ao y.n y.c) ∧ w'.cell? ⟨W.heap.size, 2, none⟩ = some (.int .i64 (x.S.T.seen 0 : Int)) ∧ w'.cell? ⟨W.heap.size, 3, none⟩ = some (.int .i64 (x.S.T.seen 1 : Int)) ∧ w'.cell? ⟨W.heap.size, 4, none⟩ = some (.int .i64 (x.S.T.seen 2 : Int)) ∧ w'.cell? ⟨W.heap.size, 5, none⟩ = some (.int .i64 (x.S.T.seen 3 : Int)) ∧ w'.cell? ⟨W.heap.size, 6, none⟩ = some (.int .i64 (x.S.T.seen 4 : Int)) ∧ w'.cell? ⟨W.heap.size, 7, none⟩ = some (.int .i64 (x.S.T.seen 5 : Int)) ∧ w'.cell? ⟨W.heap.size, 8, none⟩ = some (.int .i64 (x.S.T.seen 6 : Int)) ∧ w'.cell? ⟨W.heap.size, 9, none⟩ = some (.int .i64 (x.S.T.seen 7 : Int)) ∧ w'.cell? ⟨W.heap.size, 10, none⟩ = some (.slice x.S.ao x.S.n x.S.c)) 18 (by kernel_rfl) ⟨c0, d1, p0, p1, p2, p3, p4, p5, p6, p7, p8, d2, d3, d4, d5, d6, d7, d8, d9, d10⟩ (fun hS => ?_)
  refine wpAnyT_take (i := 0) (v := ?v0) rfl (by kernel_rfl) (by kernel_rfl) (by kernel_rfl) (by kernel_rfl) (fun _ _ _ h => h) (Or.inl ⟨by rfl, ?hy0⟩) hS ?rest0
  case hy0 => (intro w hSw; (try dsimp only at hSw); (first | (go_simp; done) | (go_simp; with_reducible rfl)))
  try simp only [Act.put, List.setIfInBounds_toArray, List.set_cons_zero, List.set_cons_succ]
  refine wpAnyT_take (i := 1) (v := ?v1) rfl (by kernel_rfl) (by kernel_rfl) (by kernel_rfl) (by kernel_rfl) (fun _ _ _ h => h) (Or.inl ⟨by rfl, ?hy1⟩) hS ?rest1
  case hy1 => (intro w hSw; (try dsimp only at hSw); (first | (go_simp; done) | (go_simp; with_reducible rfl)))
  try simp only [Act.put, List.setIfInBounds_toArray, List.set_cons_zero, List.set_cons_succ]
  refine wpAnyT_take (i := 2) (v := ?v2) rfl (by kernel_rfl) (by kernel_rfl) (by kernel_rfl) (by kernel_rfl) (fun _ _ _ h => h) (Or.inl ⟨by rfl, ?hy2⟩) hS ?rest2
  case hy2 => (intro w hSw; (try dsimp only at hSw); (first | (go_simp; done) | (go_simp; with_reducible rfl)))
  try simp only [Act.put, List.setIfInBounds_toArray, List.set_cons_zero, List.set_cons_succ]
  refine wpAnyT_take (i := 3) (v := ?v3) rfl (by kernel_rfl) (by kernel_rfl) (by kernel_rfl) (by kernel_rfl) (fun _ _ _ h => h) (Or.inl ⟨by rfl, ?hy3⟩) hS ?rest3
  case hy3 => (intro w hSw; (try dsimp only at hSw); (first | (go_simp; done) | (go_simp; with_reducible rfl)))
  try simp only [Act.put, List.setIfInBounds_toArray, List.set_cons_zero, List.set_cons_succ]
  refine wpAnyT_take (i := 4) (v := ?v4) rfl (by kernel_rfl) (by kernel_rfl) (by kernel_rfl) (by kernel_rfl) (fun _ _ _ h => h) (Or.inl ⟨by rfl, ?hy4⟩) hS ?rest4
  case hy4 => (intro w hSw; (try dsimp only at hSw); (first | (go_simp; done) | (go_simp; with_reducible rfl)))
  try simp only [Act.put, List.setIfInBounds_toArray, List.set_cons_zero, List.set_cons_succ]
  refine wpAnyT_take (i := 5) (v := ?v5) rfl (by kernel_rfl) (by kernel_rfl) (by kernel_rfl) (by kernel_rfl) (fun _ _ _ h => h) (Or.inl ⟨by rfl, ?hy5⟩) hS ?rest5
  case hy5 => (intro w hSw; (try dsimp only at hSw); (first | (go_simp; done) | (go_simp; with_reducible rfl)))
  try simp only [Act.put, List.setIfInBounds_toArray, List.set_cons_zero, List.set_cons_succ]
  refine wpAnyT_take (i := 6) (v := ?v6) rfl (by kernel_rfl) (by kernel_rfl) (by kernel_rfl) (by kernel_rfl) (fun _ _ _ h => h) (Or.inl ⟨by rfl, ?hy6⟩) hS ?rest6
  case hy6 => (intro w hSw; (try dsimp only at hSw); (first | (go_simp; done) | (go_simp; with_reducible rfl)))
  try simp only [Act.put, List.setIfInBounds_toArray, List.set_cons_zero, List.set_cons_succ]
  refine wpAnyT_take (i := 7) (v := ?v7) rfl (by kernel_rfl) (by kernel_rfl) (by kernel_rfl) (by kernel_rfl) (fun _ _ _ h => h) (Or.inl ⟨by rfl, ?hy7⟩) hS ?rest7
  case hy7 => (intro w hSw; (try dsimp only at hSw); (first | (go_simp; done) | (go_simp; with_reducible rfl)))
  try simp only [Act.put, List.setIfInBounds_toArray, List.set_cons_zero, List.set_cons_succ]
  refine wpAnyT_take (i := 8) (v := ?v8) rfl (by kernel_rfl) (by kernel_rfl) (by kernel_rfl) (by kernel_rfl) (fun _ _ _ h => h) (Or.inl ⟨by rfl, ?hy8⟩) hS ?rest8
  case hy8 => (intro w hSw; (try dsimp only at hSw); (first | (go_simp; done) | (go_simp; with_reducible rfl)))
  try simp only [Act.put, List.setIfInBounds_toArray, List.set_cons_zero, List.set_cons_succ]
  refine wpAnyT_take (i := 9) (v := ?v9) rfl (by kernel_rfl) (by kernel_rfl) (by kernel_rfl) (by kernel_rfl) (fun _ _ _ h => h) (Or.inl ⟨by rfl, ?hy9⟩) hS ?rest9
  case hy9 => (intro w hSw; (try dsimp only at hSw); (first | (go_simp; done) | (go_simp; with_reducible rfl)))
  try simp only [Act.put, List.setIfInBounds_toArray, List.set_cons_zero, List.set_cons_succ]
  refine wpAnyT_take (i := 10) (v := ?v10) rfl (by kernel_rfl) (by kernel_rfl) (by kernel_rfl) (by kernel_rfl) (fun _ _ _ h => h) (Or.inl ⟨by rfl, ?hy10⟩) hS ?rest10
  case hy10 => (intro w hSw; (try dsimp only at hSw); (first | (go_simp; done) | (go_simp; with_reducible rfl)))
  try simp only [Act.put, List.setIfInBounds_toArray, List.set_cons_zero, List.set_cons_succ]
  refine wpAnyT_take (i := 11) (v := ?v11) rfl (by kernel_rfl) (by kernel_rfl) (by kernel_rfl) (by kernel_rfl) (fun _ _ _ h => h) (Or.inl ⟨by rfl, ?hy11⟩) hS ?rest11
  case hy11 => (intro w hSw; (try dsimp only at hSw); (first | (go_simp; done) | (go_simp; with_reducible rfl)))
  try simp only [Act.put, List.setIfInBounds_toArray, List.set_cons_zero, List.set_cons_succ]
  refine wpAnyT_take (i := 12) (v := ?v12) rfl (by kernel_rfl) (by kernel_rfl) (by kernel_rfl) (by kernel_rfl) (fun _ _ _ h => h) (Or.inl ⟨by rfl, ?hy12⟩) hS ?rest12
  case hy12 => (intro w hSw; (try dsimp only at hSw); (first | (go_simp; done) | (go_simp; with_reducible rfl)))
  try simp only [Act.put, List.setIfInBounds_toArray, List.set_cons_zero, List.set_cons_succ]
  refine wpAnyT_take (i := 13) (v := ?v13) rfl (by kernel_rfl) (by kernel_rfl) (by kernel_rfl) (by kernel_rfl) (fun _ _ _ h => h) (Or.inl ⟨by rfl, ?hy13⟩) hS ?rest13
  case hy13 => (intro w hSw; (try dsimp only at hSw); (first | (go_simp; done) | (go_simp; with_reducible rfl)))
  try simp only [Act.put, List.setIfInBounds_toArray, List.set_cons_zero, List.set_cons_succ]
  refine wpAnyT_take (i := 14) (v := ?v14) rfl (by kernel_rfl) (by kernel_rfl) (by kernel_rfl) (by kernel_rfl) (fun _ _ _ h => h) (Or.inl ⟨by rfl, ?hy14⟩) hS ?rest14
  case hy14 => (intro w hSw; (try dsimp only at hSw); (first | (go_simp; done) | (go_simp; with_reducible rfl)))
  try simp only [Act.put, List.setIfInBounds_toArray, List.set_cons_zero, List.set_cons_succ]
  refine wpAnyT_take (i := 15) (v := ?v15) rfl (by kernel_rfl) (by kernel_rfl) (by kernel_rfl) (by kernel_rfl) (fun _ _ _ h => h) (Or.inl ⟨by rfl, ?hy15⟩) hS ?rest15
  case hy15 => (intro w hSw; (try dsimp only at hSw); (first | (go_simp; done) | (go_simp; with_reducible rfl)))
  try simp only [Act.put, List.setIfInBounds_toArray, List.set_cons_zero, List.set_cons_succ]
  refine wpAnyT_step 16 rfl (by kernel_rfl) (by decide) (fun K hK => ?_)
  try go_simp
  go_at_call 25
  refine (MA.out V.drew (drew_below V)).mono ?_
  rintro e w4 ⟨z, rfl, hx, hh, hb⟩
  have HX := Lib.hid hx
  have HH4 := Lib.hid hh
  have B4 := Lib.hid ((drew_below V).trans hb)
  have N4 := Lib.hid (HN.out.keep B4.out)
  have pa := N4.out.tabAt (i := t) (by rw [HKK.out]; exact HTO.out)
  rw [← HYI.out] at pa
  obtain ⟨r0, r1, r2, r3, r4, r5, r6, r7, r8⟩ := pa
  have c4 := N4.out.cells.1
  rw [HKK.out] at c4
  have q1 := cell_later B4.out d1
  have q2 := cell_later B4.out d2
  have q3 := cell_later B4.out d3
  have q4 := cell_later B4.out d4
  have q5 := cell_later B4.out d5
  have q6 := cell_later B4.out d6
  have q7 := cell_later B4.out d7
  have q8 := cell_later B4.out d8
  have q9 := cell_later B4.out d9
  have q10 := cell_later B4.out d10
  have f0 := (N4.out.free (t * 9)).2
  have f1 := (N4.out.free (t * 9 + 1)).2
  have f2 := (N4.out.free (t * 9 + 2)).2
  have f3 := (N4.out.free (t * 9 + 3)).2
  have f4 := (N4.out.free (t * 9 + 4)).2
  have f5 := (N4.out.free (t * 9 + 5)).2
  have f6 := (N4.out.free (t * 9 + 6)).2
  have f7 := (N4.out.free (t * 9 + 7)).2
  have f8 := (N4.out.free (t * 9 + 8)).2
  clear hx hh hb
  refine hK.out _ _ ⟨c4, q1, r0, r1, r2, r3, r4, r5, r6, r7, r8, q2, q3, q4, q5, q6, q7, q8, q9, q10⟩ (fun hS => ?_)
  clear hK K
  try simp only [Act.put, List.setIfInBounds_toArray, List.set_cons_zero, List.set_cons_succ]
  refine wpAnyT_take (i := 17) (v := ?v17) rfl (by kernel_rfl) (by kernel_rfl) (by kernel_rfl) (by kernel_rfl) (fun _ _ _ h => h) (Or.inl ⟨by rfl, ?hy17⟩) hS ?rest17
  case hy17 => (intro w hSw; (try dsimp only at hSw); (first | (go_simp; done) | (go_simp; with_reducible rfl)))
  try simp only [Act.put, List.setIfInBounds_toArray, List.set_cons_zero, List.set_cons_succ]
  refine wpAnyT_last rfl (by kernel_rfl) (by kernel_rfl) (fun K hK => ?_)
  go_simp
  refine hK.out _ _ ?_
  clear hK K
  all_goals
    have S9 := Lib.hid (N4.out.store9' (by rw [HKK.out]; exact HTO.out) HH4.out (HB.out.trans (B4.out.mono HB.out.size)))
    have LO := Lib.hid (netLose_in S9.out.1 i (by rw [HNN.out]; exact HI.out))
    unfold set9 at LO
    clear r0 r1 r2 r3 r4 r5 r6 r7 r8 f0 f1 f2 f3 f4 f5 f6 f7 f8 p0 p1 p2 p3 p4 p5 p6 p7 p8 d0 d1 d2 d3 d4 d5 d6 d7 d8 d9 d10 c0 c4 q1 q2 q3 q4 q5 q6 q7 q8 q9 q10
    go_wp2_with (go_at_call 45; refine LO.out.mono ?_; rintro e w5 ⟨rfl, hn5, hf5⟩; have HN5 := Lib.hid hn5; have HF5 := Lib.hid hf5; clear hn5 hf5)
    go_ret
    exact ⟨rfl, z, HX.out, HN5.out, (S9.out.2.wide (fun j e => .inr (.inl e))).trans HF5.out (fun _ _ e => e)⟩
end Go.Proofs.Ytpghehckojdgeaa

/- NewNet. (By gen_nnew.py.) -/
set_option linter.unusedVariables false
set_option linter.unusedSimpArgs false
namespace Go.Proofs.Ytpghehckojdgeaa
open Go.RowKit Go.Shelf Go.Sort

def slot0 : Slot := ⟨Tab.none, none, 0, 0⟩
theorem make_t1 (w : World) : (Instr.makeSlice 25 (.int .i64 1) (.int .i64 1)).run Try.prog w = .ok (.slice (some ⟨w.heap.size, 0, none⟩) 1 1) (w.alloc (.cells (flatT (List.replicate 1 slot0)).toArray 34)) := by kernel_rfl
theorem make_t2 (w : World) : (Instr.makeSlice 25 (.int .i64 2) (.int .i64 2)).run Try.prog w = .ok (.slice (some ⟨w.heap.size, 0, none⟩) 2 2) (w.alloc (.cells (flatT (List.replicate 2 slot0)).toArray 34)) := by kernel_rfl
theorem make_t3 (w : World) : (Instr.makeSlice 25 (.int .i64 3) (.int .i64 3)).run Try.prog w = .ok (.slice (some ⟨w.heap.size, 0, none⟩) 3 3) (w.alloc (.cells (flatT (List.replicate 3 slot0)).toArray 34)) := by kernel_rfl
theorem make_t4 (w : World) : (Instr.makeSlice 25 (.int .i64 4) (.int .i64 4)).run Try.prog w = .ok (.slice (some ⟨w.heap.size, 0, none⟩) 4 4) (w.alloc (.cells (flatT (List.replicate 4 slot0)).toArray 34)) := by kernel_rfl
theorem make_t5 (w : World) : (Instr.makeSlice 25 (.int .i64 5) (.int .i64 5)).run Try.prog w = .ok (.slice (some ⟨w.heap.size, 0, none⟩) 5 5) (w.alloc (.cells (flatT (List.replicate 5 slot0)).toArray 34)) := by kernel_rfl
theorem make_t6 (w : World) : (Instr.makeSlice 25 (.int .i64 6) (.int .i64 6)).run Try.prog w = .ok (.slice (some ⟨w.heap.size, 0, none⟩) 6 6) (w.alloc (.cells (flatT (List.replicate 6 slot0)).toArray 34)) := by kernel_rfl
theorem make_t7 (w : World) : (Instr.makeSlice 25 (.int .i64 7) (.int .i64 7)).run Try.prog w = .ok (.slice (some ⟨w.heap.size, 0, none⟩) 7 7) (w.alloc (.cells (flatT (List.replicate 7 slot0)).toArray 34)) := by kernel_rfl
theorem make_t8 (w : World) : (Instr.makeSlice 25 (.int .i64 8) (.int .i64 8)).run Try.prog w = .ok (.slice (some ⟨w.heap.size, 0, none⟩) 8 8) (w.alloc (.cells (flatT (List.replicate 8 slot0)).toArray 34)) := by kernel_rfl
theorem make_tables (k : Nat) (h1 : 1 ≤ k) (h8 : k ≤ 8) (w : World) : (Instr.makeSlice 25 (.int .i64 (k : Int)) (.int .i64 (k : Int))).run Try.prog w = .ok (.slice (some ⟨w.heap.size, 0, none⟩) k k) (w.alloc (.cells (flatT (List.replicate k slot0)).toArray 34)) := by
  have : k = 1 ∨ k = 2 ∨ k = 3 ∨ k = 4 ∨ k = 5 ∨ k = 6 ∨ k = 7 ∨ k = 8 := by omega
  rcases this with rfl | rfl | rfl | rfl | rfl | rfl | rfl | rfl
  · exact make_t1 w
  · exact make_t2 w
  · exact make_t3 w
  · exact make_t4 w
  · exact make_t5 w
  · exact make_t6 w
  · exact make_t7 w
  · exact make_t8 w
theorem rep_at {α : Type} [Inhabited α] {k i : Nat} {x : α} (hi : i < k) : (List.replicate k x)[i]! = x := by
  rw [getElem!_pos _ i (by simpa using hi)]; simp
theorem NetR.start (W : World) (k : Nat) (h1 : 1 ≤ k) (h8 : k ≤ 8) :
    NetR ((W.alloc (.cells (flatT (List.replicate k slot0)).toArray 34)).alloc (.cells #[.slice (some ⟨W.heap.size, 0, none⟩) k k, .slice none 0 0] 88)) 0 (W.heap.size + 1) W.heap.size none 0 (List.replicate k slot0) [] := by
  refine ⟨?_, block1 W _ _, World.ownsRow_nil _ _ _ _, by omega, (fun o s e => by cases e), (fun o s e => by cases e), (fun j o s e => by cases e), fun i hi => ?_, fun i hi => ?_, fun i hi => ?_, by simpa using h1, by simpa using h8, by simp⟩
  · rw [List.length_replicate]; exact block2 W _ _
  · rw [List.length_replicate] at hi
    rw [rep_at hi]
    exact Held.none _
  · simp at hi
  · simp at hi

set_option maxRecDepth 100000 in
set_option maxHeartbeats 4000000 in
theorem newNet_bad (z : Int) (W : World) (hz : z < 1 ∨ 8 < z) :
    Calls Try.prog 19 #[.int .i64 z] W fun e w' => e = .returned (.tuple #[.pointer none, .int .i64 2]) ∧ W = w' := by
  by_cases h1 : z < 1
  · have d1 : decide (z < 1) = true := by simpa using h1
    go_enter Try.func19, Try.ntmps19
    go_wp2
    go_ret2
    exact ⟨rfl, rfl⟩
  · have d1 : decide (z < 1) = false := by simpa using h1
    have h8 : 8 < z := by omega
    have d2 : decide (8 < z) = true := by simpa using h8
    go_enter Try.func19, Try.ntmps19
    go_wp2
    go_ret2
    exact ⟨rfl, rfl⟩

set_option maxRecDepth 100000 in
set_option maxHeartbeats 4000000 in
theorem newNet_ok (k : Nat) (W : World) (h1 : 1 ≤ k) (h8 : k ≤ 8) :
    Calls Try.prog 19 #[.int .i64 (k : Int)] W fun e w' => e = .returned (.tuple #[.pointer (some ⟨W.heap.size + 1, 0, none⟩), .int .i64 0]) ∧ NetR w' 0 (W.heap.size + 1) W.heap.size none 0 (List.replicate k slot0) [] ∧ Below W.heap.size W w' := by
  have HS := Lib.hid (NetR.start W k h1 h8)
  have mk := make_tables k h1 h8
  have d1 : decide ((k : Int) < 1) = false := by simp; omega
  have d2 : decide (8 < (k : Int)) = false := by simp; omega
  have e1 : ¬ (k : Int) < 1 := by omega
  have e2 : ¬ 8 < (k : Int) := by omega
  generalize (flatT (List.replicate k slot0)).toArray = cs at mk HS
  go_enter Try.func19, Try.ntmps19
  go_wp2
  go_ret2
  exact ⟨rfl, HS.out, below2 W _ _⟩
end Go.Proofs.Ytpghehckojdgeaa

/- A net's Letters. (By gen_nletters.py.) -/
set_option linter.unusedVariables false
set_option linter.unusedSimpArgs false
namespace Go.Proofs.Ytpghehckojdgeaa
open Go.RowKit Go.Shelf Go.Sort

def flatP (l : List (Int × Int)) : List Value := l.flatMap fun p => [.int .i64 p.1, .int .i64 p.2]
theorem flatP_app (l k : List (Int × Int)) : flatP (l ++ k) = flatP l ++ flatP k := by unfold flatP; simp
theorem flatP_len : ∀ l : List (Int × Int), (flatP l).length = l.length * 2
  | [] => rfl
  | x :: l => by
    have := flatP_len l
    unfold flatP at *
    simp [List.flatMap_cons, this]; omega
theorem infoP : (Try.prog.info? 90).map (fun i => (i.zero, i.size, i.bytes)) = some (some (.agg #[.int .i64 0, .int .i64 0]), 2, 16) := by kernel_rfl
/-- a pair is appended -/
theorem wpList_appP {w : World} {ops : Array Oper} {rest : List Oper} {o : Oper} {a : Act} {Q : Exit → Act → World → Prop} (hgd : o.guard = none) (s x : Operand)
    (ho : o.op = .call { callee := .builtin .append, args := #[s, x], argTypes := #[70, 70] }) (base n c : Nat) (ao : Option Addr) (l : List (Int × Int)) (p q : Int) (H : Nat) (t : TypeId) (hH : w.heap[H]? = some (.cells #[.int .i64 p, .int .i64 q] t (0, 0))) (hs : a.eval s = .slice ao n c) (hown : w.ownsRow base 90 2 (.slice ao n c) n (flatP l))
    (hx : a.eval x = .slice (some ⟨H, 0, none⟩) 1 1) (hn : n ≤ 1000) (hbase : base ≤ w.heap.size)
    (h : ∀ g' cap' w', w'.ownsRow base 90 2 (.slice (some ⟨g', 0, none⟩) (n + 1) cap') (n + 1) (flatP (l ++ [(p, q)])) → Below base w w' → wpList Try.prog ops Q rest (a.put o.dst (.slice (some ⟨g', 0, none⟩) (n + 1) cap')) w') :
    wpList Try.prog ops Q (o :: rest) a w := by
  obtain ⟨i0, hi, hz0, hz1, hz2⟩ := info_parts infoP
  refine wpList_append_lies _ hgd s x 70 ho base 90 i0 _ 2 16 Try.underlying70 hi hz0 hz1 hz2 rfl (by decide) _ n (flatP l) hs hown ⟨H, 0, none⟩ 1 1 [.int .i64 p, .int .i64 q] hx rfl ?_ (fun u hu => by simp at hu; rcases hu with rfl | rfl <;> rfl) (by omega) (by unfold maxLen; omega) (by omega) hbase _ rfl ?_
  · intro j u hj
    rw [add_off, Nat.zero_add]
    simp only [World.cell?]
    rw [hH]
    simpa using hj
  · intro g' cap' w' hr hg hl hlt
    exact h g' cap' w' (by rw [flatP_app]; simpa [flatP] using hr) ((Below.refl base w).grown hg hbase (fun j hj => (World.ownsRow.lt hown j hj).1))
def pairsOf (ms : List LSlot) : List (Int × Int) := ms.map fun x => ((x.frm : Int), (x.rcv : Int))
theorem pairs_succ {ms : List LSlot} {i : Nat} (hi : i < ms.length) : pairsOf (ms.take (i + 1)) = pairsOf (ms.take i) ++ [(((ms[i]!).frm : Int), ((ms[i]!).rcv : Int))] := by
  unfold pairsOf
  rw [List.take_succ_eq_append_getElem hi, getElem!_pos ms i hi, List.map_append]
  rfl

set_option maxRecDepth 100000 in
set_option maxHeartbeats 16000000 in
theorem letters_any {W : World} {m b g : Nat} {lo : Option Addr} {lc : Nat} {ts : List Slot} {ms : List LSlot} (h : NetR W m b g lo lc ts ms) :
    Calls Try.prog 28 #[.pointer (some ⟨b, 0, none⟩)] W fun e w' => ∃ ao c, e = .returned (.slice ao ms.length c) ∧ w'.ownsRow W.heap.size 90 2 (.slice ao ms.length c) ms.length (flatP (pairsOf ms)) ∧ Below W.heap.size W w' := by
  have UA := Lib.hid (usable_raw b g ts.length W h.cells.1 (by have := h.pos; omega))
  have c1 := h.cells.2
  have HN := Lib.hid h
  have hmost := h.most
  obtain ⟨n, hn⟩ : ∃ n, n = ms.length := ⟨_, rfl⟩
  rw [← hn] at c1 hmost ⊢
  have HNN := Lib.hid hn
  clear h hn
  have n0 : (0 : Int) ≤ (n : Int) := by omega
  go_enter Try.func28, Try.ntmps28
  go_wp2_with (go_at_call 67; refine UA.out.mono ?_; rintro e w1 ⟨rfl, rfl⟩)
  go_loopg [3, 5, 14] n (fun gg s3 _ s14 wr => ∃ (i c : Nat) (ao : Option Addr), s14 = .int .i64 (i : Int) ∧ i ≤ n ∧ n - i ≤ gg ∧ s3 = .slice ao i c ∧ Hid (wr.ownsRow W.heap.size 90 2 (.slice ao i c) i (flatP (pairsOf (ms.take i)))) ∧ Hid (Below W.heap.size W wr))
  case atStart => exact ⟨0, 0, none, rfl, Nat.zero_le _, by omega, rfl, Lib.hid (World.ownsRow_nil _ _ _ _), Lib.hid (Below.refl _ _)⟩
  case round =>
    obtain ⟨i, c, ao, rfl, hi, hgg, rfl, HO, HB⟩ := hrel
    have i0 : (0 : Int) ≤ (i : Int) := by omega
    by_cases hlt : i < n
    · have t1 : (i : Int) < (n : Int) := by omega
      have NR := Lib.hid (HN.out.keep HB.out)
      obtain ⟨gl, hgl, _⟩ := NR.out.form (by rw [← HNN.out]; omega)
      have la := NR.out.ltrAt hgl (i := i) (by rw [← HNN.out]; exact hlt)
      have HPS := Lib.hid (pairs_succ (ms := ms) (i := i) (by rw [← HNN.out]; exact hlt))
      obtain ⟨x, hx⟩ : ∃ x, x = ms[i]! := ⟨_, rfl⟩
      rw [← hx] at la HPS
      obtain ⟨l0, l1, l2, l3, l4, l5, l6, l7, l8, l9, l10⟩ := la
      clear hx
      subst hgl
      have HOV := Lib.hid ((HO.out.alloc (.cells #[.int .i64 (x.frm : Int), .int .i64 (x.rcv : Int), .int .i64 (x.S.T.seen 0 : Int), .int .i64 (x.S.T.seen 1 : Int), .int .i64 (x.S.T.seen 2 : Int), .int .i64 (x.S.T.seen 3 : Int), .int .i64 (x.S.T.seen 4 : Int), .int .i64 (x.S.T.seen 5 : Int), .int .i64 (x.S.T.seen 6 : Int), .int .i64 (x.S.T.seen 7 : Int), .slice x.S.ao x.S.n x.S.c] 114)).alloc (.cells #[.int .i64 (x.frm : Int), .int .i64 (x.rcv : Int)] 90))
      have BV := Lib.hid (HB.out.trans ((below2 wr (.cells #[.int .i64 (x.frm : Int), .int .i64 (x.rcv : Int), .int .i64 (x.S.T.seen 0 : Int), .int .i64 (x.S.T.seen 1 : Int), .int .i64 (x.S.T.seen 2 : Int), .int .i64 (x.S.T.seen 3 : Int), .int .i64 (x.S.T.seen 4 : Int), .int .i64 (x.S.T.seen 5 : Int), .int .i64 (x.S.T.seen 6 : Int), .int .i64 (x.S.T.seen 7 : Int), .slice x.S.ao x.S.n x.S.c] 114) (.cells #[.int .i64 (x.frm : Int), .int .i64 (x.rcv : Int)] 90)).mono HB.out.size))
      go_wp2_with (at_builtin; refine wpList_appP rfl (.tmp 18) (.tmp 24) rfl W.heap.size i c ao _ (x.frm : Int) (x.rcv : Int) (wr.heap.size + 1) 90 (block2 wr _ _) rfl HOV.out rfl (by omega) BV.out.size ?_; intro g5 cap5 w5 hr5 hb5; have HR5 := Lib.hid hr5; have HB5 := Lib.hid (BV.out.trans hb5); clear hr5 hb5)
      go_roundg (n - (i + 1))
      case measure => omega
      case rel => exact ⟨i + 1, cap5, some ⟨g5, 0, none⟩, by go_num, by omega, Nat.le_refl _, rfl, Lib.hid (by rw [HPS.out]; exact HR5.out), HB5⟩
    · obtain rfl : i = n := by omega
      have t1 : ¬ (i : Int) < (i : Int) := by omega
      go_wp2
      go_ret
      have := HO.out
      rw [List.take_of_length_le (by rw [← HNN.out]; exact Nat.le_refl _)] at this
      exact ⟨ao, c, rfl, this, HB.out⟩
end Go.Proofs.Ytpghehckojdgeaa

/- A net's Settled. (By gen_nsettled.py.) -/
set_option linter.unusedVariables false
set_option linter.unusedSimpArgs false
namespace Go.Proofs.Ytpghehckojdgeaa
open Go.RowKit Go.Shelf Go.Sort

set_option maxRecDepth 100000 in
set_option maxHeartbeats 4000000 in
theorem settled1_any {W : World} {m D : Nat} {x y : Slot} (hx : Held W m x.T x.ao x.n) (hy : Held W m y.T y.ao y.n) (hD : BoxAt W D y) (hm : m ≤ 40000) :
    Calls Try.prog 70 #[.agg #[.int .i64 (x.T.seen 0 : Int), .int .i64 (x.T.seen 1 : Int), .int .i64 (x.T.seen 2 : Int), .int .i64 (x.T.seen 3 : Int), .int .i64 (x.T.seen 4 : Int), .int .i64 (x.T.seen 5 : Int), .int .i64 (x.T.seen 6 : Int), .int .i64 (x.T.seen 7 : Int), .slice x.ao x.n x.c], .pointer (some ⟨D, 0, none⟩)] W fun e w' => e = .returned (.bool (!(sameT x.T y.T))) ∧ Below W.heap.size W w' := by
  have EQ : Hid (∀ w, Below W.heap.size W w → Calls Try.prog 14 #[.agg #[.int .i64 (x.T.seen 0 : Int), .int .i64 (x.T.seen 1 : Int), .int .i64 (x.T.seen 2 : Int), .int .i64 (x.T.seen 3 : Int), .int .i64 (x.T.seen 4 : Int), .int .i64 (x.T.seen 5 : Int), .int .i64 (x.T.seen 6 : Int), .int .i64 (x.T.seen 7 : Int), .slice x.ao x.n x.c], .agg #[.int .i64 (y.T.seen 0 : Int), .int .i64 (y.T.seen 1 : Int), .int .i64 (y.T.seen 2 : Int), .int .i64 (y.T.seen 3 : Int), .int .i64 (y.T.seen 4 : Int), .int .i64 (y.T.seen 5 : Int), .int .i64 (y.T.seen 6 : Int), .int .i64 (y.T.seen 7 : Int), .slice y.ao y.n y.c]] w fun e w' => e = .returned (.bool (sameT x.T y.T)) ∧ Below w.heap.size w w') := Lib.hid fun w hb => equalA x.c y.c (hx.keep hb) (hy.keep hb) hm
  obtain ⟨V, hV⟩ : ∃ V, V = W.alloc (.cells #[.int .i64 (x.T.seen 0 : Int), .int .i64 (x.T.seen 1 : Int), .int .i64 (x.T.seen 2 : Int), .int .i64 (x.T.seen 3 : Int), .int .i64 (x.T.seen 4 : Int), .int .i64 (x.T.seen 5 : Int), .int .i64 (x.T.seen 6 : Int), .int .i64 (x.T.seen 7 : Int), .slice x.ao x.n x.c] 34) := ⟨_, rfl⟩
  have HB : Hid (Below W.heap.size W V) := Lib.hid (by rw [hV]; exact box_below W _)
  have BX : Hid (BoxAt V W.heap.size x) := Lib.hid (by rw [hV]; exact heap_alloc_new _ _)
  have BY := Lib.hid (hD.keep HB.out)
  obtain ⟨p0, p1, p2, p3, p4, p5, p6, p7, p8⟩ := cell_nine BX.out
  obtain ⟨r0, r1, r2, r3, r4, r5, r6, r7, r8⟩ := cell_nine BY.out
  generalize sameT x.T y.T = q at EQ ⊢
  have HV := Lib.hid hV
  clear hV hx hy hD
  go_enter Try.func70, Try.ntmps70
  go_upto_region 1 with fail
  rw [← HV.out]
  go_wp2_with (go_at_call 14; refine (EQ.out V HB.out).mono ?_; rintro e w2 ⟨rfl, hb2⟩; have B2 := Lib.hid (HB.out.trans (hb2.mono HB.out.size)); clear hb2)
  go_ret
  exact ⟨rfl, B2.out⟩
theorem attach_at {l : List Slot} {j : Nat} (hj : j < l.length) [Inhabited {x // x ∈ l}] : (l.attach[j]!).1 = l[j]! := by
  rw [getElem!_pos _ j (by simpa using hj), getElem!_pos l j hj]; simp
theorem isAggT : ∀ w, (isAgg 34).run Try.prog w = .ok true w := Try.isAgg34
theorem sizeT : ∀ w, (Go.sizeOf 34).run Try.prog w = .ok 9 w := Try.sizeOf34
theorem contains_any {W : World} {m b g D : Nat} {lo : Option Addr} {lc : Nat} {ts : List Slot} {ms : List LSlot} (h : NetR W m b g lo lc ts ms) {y : Slot} (hy : Held W m y.T y.ao y.n) (hD : BoxAt W D y) (hm : m ≤ 40000) :
    Calls Try.prog 69 #[.slice (some ⟨g, 0, none⟩) ts.length ts.length, .func (.func 70) #[] #[.pointer (some ⟨D, 0, none⟩)]] W fun e w' => e = .returned (.bool (!(ts.all fun x => sameT x.T y.T))) ∧ Below W.heap.size W w' := by
  have e75 : ∀ args w, (callFunc 70 args).run Try.prog w = .ok (.enter 70 args) w := enters_of Try.func70 (by kernel_rfl) rfl
  haveI : Inhabited {x // x ∈ ts} := ⟨⟨ts[0]!, mem_at h.pos⟩⟩
  have hp : PredBelow Try.prog 70 #[.pointer (some ⟨D, 0, none⟩)] (fun x : {x // x ∈ ts} => .agg (slotC x.1).toArray) (fun x => !(sameT x.1.T y.T)) W := fun w' x hb => by
    obtain ⟨i, hi, hxi⟩ := at_mem x.2
    have hx := h.held i hi
    rw [hxi] at hx
    exact (settled1_any (hx.keep hb) (hy.keep hb) (hD.keep hb) hm).mono fun e w'' ⟨he, hb''⟩ => ⟨he, below_then hb hb''⟩
  have := AnyQ.slices_ContainsFunc Try.containsT 9 isAggT sizeT (fun x : {x // x ∈ ts} => slotC x.1) (fun x => slotC_len x.1) (fun x => !(sameT x.1.T y.T)) 70 #[.pointer (some ⟨D, 0, none⟩)] e75 g 0 ts.length ts.length ts.attach W hp (by simp) (by have := h.few; omega) h.lt_g (fun j hj i v hv => by
    simp only [List.length_attach] at hj
    rw [attach_at hj] at hv
    have hi : i < 9 := by
      have := (List.getElem?_eq_some_iff.1 hv).1
      rwa [slotC_len] at this
    rw [Nat.zero_add]
    exact h.cellT _ _ (by rw [flatT_get _ _ _ hi, List.getElem?_eq_getElem hj, ← getElem!_pos ts j hj]; exact hv))
  change Calls Try.prog 69 _ _ _ at this
  have e : (List.take ts.length ts.attach).any (fun x => !(sameT x.1.T y.T)) = !(ts.all fun x => sameT x.T y.T) := by
    rw [List.take_of_length_le (by simp), ← List.not_all_eq_any_not]
    congr 1
    rw [Bool.eq_iff_iff]
    simp
  rw [e] at this
  exact this

set_option maxRecDepth 100000 in
set_option maxHeartbeats 4000000 in
theorem settled_any {W : World} {m b g : Nat} {lo : Option Addr} {lc : Nat} {ts : List Slot} {ms : List LSlot} (h : NetR W m b g lo lc ts ms) (hm : m ≤ 40000) :
    Calls Try.prog 37 #[.pointer (some ⟨b, 0, none⟩)] W fun e w' => e = .returned (.bool (ts.all fun x => sameT x.T ts[0]!.T)) ∧ Below W.heap.size W w' := by
  have UA := Lib.hid (usable_raw b g ts.length W h.cells.1 (by have := h.pos; omega))
  have hp := h.pos
  have HHY := h.held 0 hp
  have sa := h.tabAt hp
  have hfew := h.few
  rw [Nat.zero_mul] at sa
  obtain ⟨y, hy⟩ : ∃ y, y = ts[0]! := ⟨_, rfl⟩
  rw [← hy] at HHY sa ⊢
  clear hy
  obtain ⟨p0, p1, p2, p3, p4, p5, p6, p7, p8⟩ := sa
  simp only [Nat.zero_add] at p0 p1 p2 p3 p4 p5 p6 p7 p8
  obtain ⟨V, hV⟩ : ∃ V, V = W.alloc (.cells #[.int .i64 (y.T.seen 0 : Int), .int .i64 (y.T.seen 1 : Int), .int .i64 (y.T.seen 2 : Int), .int .i64 (y.T.seen 3 : Int), .int .i64 (y.T.seen 4 : Int), .int .i64 (y.T.seen 5 : Int), .int .i64 (y.T.seen 6 : Int), .int .i64 (y.T.seen 7 : Int), .slice y.ao y.n y.c] 34) := ⟨_, rfl⟩
  have HB : Hid (Below W.heap.size W V) := Lib.hid (by rw [hV]; exact box_below W _)
  have BY : Hid (BoxAt V W.heap.size y) := Lib.hid (by rw [hV]; exact heap_alloc_new _ _)
  have HN := h.keep HB.out
  have CO := Lib.hid (contains_any HN (HHY.keep HB.out) BY.out hm)
  have c0 := h.cells.1
  have d0 := HN.cells.1
  generalize (ts.all fun x => sameT x.T y.T) = q at CO ⊢
  generalize ts.length = kk at *
  have HV := Lib.hid hV
  have k1 : (0 : Int) < (kk : Int) := by omega
  clear hV h HN HHY
  go_enter Try.func37, Try.ntmps37
  go_upto_region 4 with (go_at_call 67; refine UA.out.mono ?_; rintro e w1 ⟨rfl, rfl⟩)
  rw [← HV.out]
  go_wp2_with (go_at_call 69; refine CO.out.mono ?_; rintro e w2 ⟨rfl, hb2⟩; have B2 := Lib.hid (HB.out.trans (hb2.mono HB.out.size)); clear hb2)
  go_ret
  exact ⟨by simp, B2.out⟩
end Go.Proofs.Ytpghehckojdgeaa

/- The functions of nets, each in one contract. (By gen_nuni.py.) -/
set_option linter.unusedVariables false
set_option linter.unusedSimpArgs false
namespace Go.Proofs.Ytpghehckojdgeaa
open Go.RowKit Go.Shelf Go.Sort

theorem map_erase {α β : Type} (f : α → β) : ∀ (l : List α) (i : Nat), (l.eraseIdx i).map f = (l.map f).eraseIdx i
  | [], _ => by simp
  | _ :: _, 0 => by simp
  | x :: l, i + 1 => by simp [map_erase f l i]
def NetS.has (n : NetS) (z : Int) : Prop := 0 ≤ z ∧ z < (n.T.length : Int)
instance (n : NetS) (z : Int) : Decidable (n.has z) := by unfold NetS.has; infer_instance
def NetS.hasL (n : NetS) (z : Int) : Prop := 0 ≤ z ∧ z < (n.M.length : Int)
instance (n : NetS) (z : Int) : Decidable (n.hasL z) := by unfold NetS.hasL; infer_instance
noncomputable def NetS.put (n : NetS) (z : Int) (k v : ByteArray) : NetS × Int :=
  if n.has z then (if (putR (n.T[z.toNat]!) z k v).2 = 0 then (n.setT z.toNat (putR (n.T[z.toNat]!) z k v).1, 0) else (n, (putR (n.T[z.toNat]!) z k v).2)) else (n, 80)
noncomputable def NetS.rem (n : NetS) (z : Int) (k : ByteArray) : NetS × Int := if n.has z then (n.setT z.toNat (remT (n.T[z.toNat]!) k), 0) else (n, 80)
def NetS.send (n : NetS) (a b : Int) : NetS × Int :=
  if n.has a ∧ n.has b then (if n.M.length = 256 then (n, 5) else (n.mailTo ⟨a.toNat, b.toNat, n.T[a.toNat]!⟩, 0)) else (n, 80)
def NetS.lose (n : NetS) (z : Int) : NetS × Int := if n.hasL z then (n.drop z.toNat, 0) else (n, 3)
noncomputable def NetS.mergeIn (n : NetS) (i : Nat) : NetS := n.setT (n.M[i]!).rcv (merT (n.T[(n.M[i]!).rcv]!) (n.M[i]!).T)
noncomputable def NetS.deliver (n : NetS) (z : Int) (keep : Bool) : NetS × Int :=
  if n.hasL z then (if keep = true then (n.mergeIn z.toNat, 0) else ((n.mergeIn z.toNat).drop z.toNat, 0)) else (n, 3)

/-- a net's function returns a number, and the net is as it says -/
def OutN (W : World) (m b g : Nat) (lo : Option Addr) (r : NetS × Int) (e : Ending) (w' : World) : Prop :=
  e = .returned (.int .i64 r.2) ∧ ∃ lo' lc' ts' ms', NetR w' m b g lo' lc' ts' ms' ∧ Hid (netOf ts' ms' = r.1) ∧ Frm (Foot b g lo) W w' ∧ (∀ j o s, lo' = some ⟨j, o, s⟩ → (∃ o s, lo = some ⟨j, o, s⟩) ∨ W.heap.size ≤ j)
theorem lo_same {W : World} {lo : Option Addr} : ∀ j o s, lo = some ⟨j, o, s⟩ → (∃ o s, lo = some ⟨j, o, s⟩) ∨ W.heap.size ≤ j := fun j o s e => .inl ⟨o, s, e⟩
section
variable {W : World} {m b g : Nat} {lo : Option Addr} {lc : Nat} {ts : List Slot} {ms : List LSlot}
theorem OutN.same {q : Nat} {r : NetS × Int} {e : Ending} {w' : World} (h : NetR W m b g lo lc ts ms) (hq : m ≤ q) (he : e = .returned (.int .i64 r.2)) (hr : r.1 = netOf ts ms) (hb : Below W.heap.size W w') : OutN W q b g lo r e w' :=
  ⟨he, lo, lc, ts, ms, (h.keep hb).more hq, Lib.hid hr.symm, Frm.of_below hb, lo_same⟩
theorem netOf_len : (netOf ts ms).T.length = ts.length := by simp [netOf]
theorem netOf_lenM : (netOf ts ms).M.length = ms.length := by simp [netOf]
theorem netOf_at {i : Nat} (hi : i < ts.length) : (netOf ts ms).T[i]! = ts[i]!.T := map_at _ hi
theorem netOf_atM {i : Nat} (hi : i < ms.length) : (netOf ts ms).M[i]! = ⟨ms[i]!.frm, ms[i]!.rcv, ms[i]!.S.T⟩ := map_at _ hi
theorem netOf_set (i : Nat) (x : Slot) : netOf (ts.set i x) ms = (netOf ts ms).setT i x.T := by unfold netOf NetS.setT; rw [List.map_set]
theorem netOf_drop (i : Nat) : netOf ts (ms.eraseIdx i) = (netOf ts ms).drop i := by
  unfold netOf NetS.drop
  congr 1
  exact map_erase _ _ _
theorem netOf_app (x : LSlot) : netOf ts (ms ++ [x]) = (netOf ts ms).mailTo ⟨x.frm, x.rcv, x.S.T⟩ := by unfold netOf NetS.mailTo; rw [List.map_append]; rfl
theorem not_has {z : Int} (h : ¬ (netOf ts ms).has z) : ¬ (0 ≤ z ∧ z < (ts.length : Int)) := by unfold NetS.has at h; rwa [netOf_len] at h
theorem of_has {z : Int} (h : (netOf ts ms).has z) : ∃ i : Nat, z = (i : Int) ∧ i < ts.length := by
  unfold NetS.has at h
  rw [netOf_len] at h
  exact ⟨z.toNat, by omega, by omega⟩
theorem of_hasL {z : Int} (h : (netOf ts ms).hasL z) : ∃ i : Nat, z = (i : Int) ∧ i < ms.length := by
  unfold NetS.hasL at h
  rw [netOf_lenM] at h
  exact ⟨z.toNat, by omega, by omega⟩
theorem netPutU (h : NetR W m b g lo lc ts ms) (hm : m ≤ 40000) (z : Int) (k v : ByteArray) :
    Calls Try.prog 47 #[.pointer (some ⟨b, 0, none⟩), .int .i64 z, .string k, .string v] W (OutN W (m + 1) b g lo ((netOf ts ms).put z k v)) := by
  unfold NetS.put
  by_cases hz : (netOf ts ms).has z
  · rw [if_pos hz]
    obtain ⟨i, rfl, hi⟩ := of_has hz
    rw [Int.toNat_natCast, netOf_at hi]
    by_cases he : (putR ts[i]!.T i k v).2 = 0
    · rw [if_pos he]
      refine (netPut_ok h hm i hi k v he.symm).mono ?_
      rintro e w' ⟨rfl, x, hx, hn, hf⟩
      exact ⟨rfl, lo, lc, _, ms, hn, Lib.hid (by rw [netOf_set, hx.out]), hf.wide (fun j e => .inr (.inl e)), lo_same⟩
    · rw [if_neg he]
      refine (netPut_err h hm i hi k v _ rfl he).mono ?_
      rintro e w' ⟨rfl, hb⟩
      exact OutN.same h (Nat.le_succ m) rfl rfl hb
  · rw [if_neg hz]
    refine (netPut_out h z k v (not_has hz)).mono ?_
    rintro e w' ⟨rfl, hb⟩
    exact OutN.same h (Nat.le_succ m) rfl rfl hb
theorem netRemU (h : NetR W m b g lo lc ts ms) (hm : m ≤ 40000) (z : Int) (k : ByteArray) :
    Calls Try.prog 40 #[.pointer (some ⟨b, 0, none⟩), .int .i64 z, .string k] W (OutN W m b g lo ((netOf ts ms).rem z k)) := by
  unfold NetS.rem
  by_cases hz : (netOf ts ms).has z
  · rw [if_pos hz]
    obtain ⟨i, rfl, hi⟩ := of_has hz
    rw [Int.toNat_natCast, netOf_at hi]
    refine (netRem_in h hm i hi k).mono ?_
    rintro e w' ⟨rfl, x, hx, hn, hf⟩
    exact ⟨rfl, lo, lc, _, ms, hn, Lib.hid (by rw [netOf_set, hx.out]), hf.wide (fun j e => .inr (.inl e)), lo_same⟩
  · rw [if_neg hz]
    refine (netRem_out h z k (not_has hz)).mono ?_
    rintro e w' ⟨rfl, hb⟩
    exact OutN.same h (Nat.le_refl m) rfl rfl hb
theorem netSendU (h : NetR W m b g lo lc ts ms) (z0 z1 : Int) :
    Calls Try.prog 27 #[.pointer (some ⟨b, 0, none⟩), .int .i64 z0, .int .i64 z1] W (OutN W m b g lo ((netOf ts ms).send z0 z1)) := by
  unfold NetS.send
  by_cases hz : (netOf ts ms).has z0 ∧ (netOf ts ms).has z1
  · rw [if_pos hz]
    obtain ⟨i, rfl, hi⟩ := of_has hz.1
    obtain ⟨j, rfl, hj⟩ := of_has hz.2
    rw [Int.toNat_natCast, Int.toNat_natCast, netOf_at hi, netOf_lenM]
    by_cases hf : ms.length = 256
    · rw [if_pos hf]
      refine (netSend_full h i j hi hj hf).mono ?_
      rintro e w' ⟨rfl, hb⟩
      exact OutN.same h (Nat.le_refl m) rfl rfl hb
    · rw [if_neg hf]
      refine (netSend_in h i j hi hj (by have := h.most; omega)).mono ?_
      rintro e w' ⟨rfl, g', lc', hn, hfr, hl⟩
      exact ⟨rfl, _, lc', ts, _, hn, Lib.hid (by rw [netOf_app]), hfr, fun j o s e => by cases e; exact hl⟩
  · rw [if_neg hz]
    refine (netSend_out h z0 z1 (fun c => hz ⟨by unfold NetS.has; rw [netOf_len]; exact c.1, by unfold NetS.has; rw [netOf_len]; exact c.2⟩)).mono ?_
    rintro e w' ⟨rfl, hb⟩
    exact OutN.same h (Nat.le_refl m) rfl rfl hb
theorem netLoseU (h : NetR W m b g lo lc ts ms) (z : Int) :
    Calls Try.prog 45 #[.pointer (some ⟨b, 0, none⟩), .int .i64 z] W (OutN W m b g lo ((netOf ts ms).lose z)) := by
  unfold NetS.lose
  by_cases hz : (netOf ts ms).hasL z
  · rw [if_pos hz]
    obtain ⟨i, rfl, hi⟩ := of_hasL hz
    rw [Int.toNat_natCast]
    refine (netLose_in h i hi).mono ?_
    rintro e w' ⟨rfl, hn, hf⟩
    exact ⟨rfl, lo, lc, ts, _, hn, Lib.hid (netOf_drop i), hf, lo_same⟩
  · rw [if_neg hz]
    refine (netLose_out h z (by unfold NetS.hasL at hz; rwa [netOf_lenM] at hz)).mono ?_
    rintro e w' ⟨rfl, rfl⟩
    exact OutN.same h (Nat.le_refl m) rfl rfl (Below.refl _ _)
theorem netDelU (h : NetR W m b g lo lc ts ms) (hm : m ≤ 40000) (z : Int) (keep : Bool) :
    Calls Try.prog 43 #[.pointer (some ⟨b, 0, none⟩), .int .i64 z, .bool keep] W (OutN W m b g lo ((netOf ts ms).deliver z keep)) := by
  unfold NetS.deliver
  by_cases hz : (netOf ts ms).hasL z
  · rw [if_pos hz]
    obtain ⟨i, rfl, hi⟩ := of_hasL hz
    have hto := (h.idx i hi).2
    have em : (netOf ts ms).mergeIn i = (netOf ts ms).setT ms[i]!.rcv (merT ts[ms[i]!.rcv]!.T ms[i]!.S.T) := by
      unfold NetS.mergeIn
      rw [netOf_atM hi]
      show NetS.setT _ ms[i]!.rcv (merT ((netOf ts ms).T[ms[i]!.rcv]!) ms[i]!.S.T) = _
      rw [netOf_at hto]
    rw [Int.toNat_natCast, em]
    cases keep with
    | true =>
      rw [if_pos rfl]
      refine (netDel_keep h hm i hi).mono ?_
      rintro e w' ⟨rfl, x, hx, hn, hf⟩
      exact ⟨rfl, lo, lc, _, ms, hn, Lib.hid (by rw [netOf_set, hx.out]), hf.wide (fun j e => .inr (.inl e)), lo_same⟩
    | false =>
      rw [if_neg (by simp)]
      refine (netDel_drop h hm i hi).mono ?_
      rintro e w' ⟨rfl, x, hx, hn, hf⟩
      exact ⟨rfl, lo, lc, _, _, hn, Lib.hid (by rw [netOf_drop, netOf_set, hx.out]), hf, lo_same⟩
  · rw [if_neg hz]
    refine (netDel_out h z keep (by unfold NetS.hasL at hz; rwa [netOf_lenM] at hz)).mono ?_
    rintro e w' ⟨rfl, rfl⟩
    exact OutN.same h (Nat.le_refl m) rfl rfl (Below.refl _ _)
end
end Go.Proofs.Ytpghehckojdgeaa

/- What a Put leaves of a key. No function of the program is walked here. -/
set_option linter.unusedVariables false
set_option linter.unusedSimpArgs false
namespace Go.Proofs.Ytpghehckojdgeaa
open Go

theorem isKeyB_iff {k : ByteArray} {e : Ent} : isKeyB k e = true ↔ e.key = k := by unfold isKeyB; simp
theorem isKeyB_no {k : ByteArray} {e : Ent} : isKeyB k e = false ↔ e.key ≠ k := by unfold isKeyB; simp
theorem rem_all {T : Tab} {k : ByteArray} {e : Ent} (h : e ∈ (remT T k).L) : isKeyB k e = false := isKeyB_no.2 (mem_rem.1 h).2
theorem filter_none {l : List Ent} {p : Ent → Bool} (h : ∀ e ∈ l, p e = false) : l.filter p = [] := List.filter_eq_nil_iff.2 fun e he => by simp [h e he]
theorem get_put (T : Tab) (i : Nat) (hi : i < 8) (k v : ByteArray) : getL (putT T i hi k v).L k = [v] := by
  unfold getL putT insE
  rw [List.filter_append, List.filter_cons, filter_none (fun e he => rem_all ((List.takeWhile_prefix _).subset he)), filter_none (fun e he => rem_all ((List.dropWhile_suffix _).subset he)), if_pos (show isKeyB k ⟨k, v, i, T.seen i + 1, hi⟩ = true from isKeyB_iff.2 rfl)]
  rfl
theorem get_rem (T : Tab) (k : ByteArray) : getL (remT T k).L k = [] := by
  unfold getL
  rw [filter_none (fun e he => rem_all he)]; rfl
theorem rem_put (T : Tab) (i : Nat) (hi : i < 8) (k v : ByteArray) : (remT (putT T i hi k v) k).L = (remT T k).L := by
  show ((putT T i hi k v).L.filter fun e => !(decide (e.key = k))) = (remT T k).L
  have hall : ∀ l : List Ent, (∀ e ∈ l, e.key ≠ k) → (l.filter fun e => !(decide (e.key = k))) = l := fun l h => List.filter_eq_self.2 fun e he => by simp [h e he]
  unfold putT insE
  rw [List.filter_append, List.filter_cons, hall _ (fun e he => (mem_rem.1 ((List.takeWhile_prefix _).subset he)).2), hall _ (fun e he => (mem_rem.1 ((List.dropWhile_suffix _).subset he)).2)]
  simp only [decide_true, Bool.not_true, Bool.false_eq_true, if_false]
  exact List.takeWhile_append_dropWhile
theorem room_of_get {xs : List Ent} {k : ByteArray} (h : 0 < (getL xs k).length) : room xs k = true := by unfold room; simp [h]
theorem two_get' {T U M : Tab} {i j : Nat} {hi : i < 8} {hj : j < 8} {k v u : ByteArray} (hij : j < i) (hk : 1 ≤ k.size ∧ k.size ≤ 64) (hv : v.size ≤ 64) (hu : u.size ≤ 64) (hT : T = putT Tab.none i hi k v) (hU : U = putT Tab.none j hj k u) (hM : M = merT T U) : getL M.L k = [u, v] := by
  subst hT hU hM
  rw [mer_two_gt hi hj hij k v u hk hv hu]
  exact getL_two _ _ k rfl rfl
/-- a later write that saw both replaces them -/
theorem last_left {T U M Z : Tab} {m i : Nat} {hi : i < 8} {k x : ByteArray} (hT : T.Ok m) (hU : U.Ok m) (hk : 1 ≤ k.size ∧ k.size ≤ 64) (hx : x.size ≤ 64) (hM : M = merT T U) (hZ : Z = putT M i hi k x) : merT Z T = Z ∧ merT U Z = Z := by
  have hMo : M.Ok m := by rw [hM]; exact mer_ok hT hU (Nat.le_refl _) (Nat.le_refl _)
  have hZo : Z.Ok (m + 1) := by rw [hZ]; exact put_ok hMo hi hk hx
  have c1 : Cov Z M := by rw [hZ]; exact put_cov hMo hk hx
  have c2 : Cov M T := by rw [hM]; exact cov_left hT hU
  have c3 : Cov M U := by rw [hM]; exact cov_right hT hU
  have hT' := hT.more (Nat.le_succ m)
  have hU' := hU.more (Nat.le_succ m)
  have hM' := hMo.more (Nat.le_succ m)
  exact ⟨cov_trans hZo hM' hT' c1 c2, by rw [mer_comm hU' hZo]; exact cov_trans hZo hM' hU' c1 c3⟩
end Go.Proofs.Ytpghehckojdgeaa

/- The law's comparison of two lists of strings that are the same; of two lists of entries that are the same. -/
set_option linter.unusedVariables false
set_option linter.unusedSimpArgs false
namespace Go.Proofs.Ytpghehckojdgeaa
open Go.RowKit Go.Shelf Go.Sort

theorem Sl.at {w : World} {ao : Option Addr} {n : Nat} {ss : List ByteArray} (h : Sl w ao n ss) {i : Nat} (hi : i < n) : ∃ g, ao = some ⟨g, 0, none⟩ ∧ w.cell? ⟨g, i, none⟩ = some (.string ss[i]!) := by
  rcases h.2 with ⟨_, h0⟩ | ⟨g, hg, _, hc⟩
  · omega
  · exact ⟨g, hg, hc i hi⟩
set_option maxRecDepth 100000 in
set_option maxHeartbeats 4000000 in
theorem strings_same (a b : Option Addr) (n c c' : Nat) (ss : List ByteArray) (W : World) (h1 : Sl W a n ss) (h2 : Sl W b n ss) (hn : n ≤ 900000) :
    Calls Try.prog 11 #[.slice a n c, .slice b n c'] W fun e w' => e = .returned (.bool true) ∧ Below W.heap.size W w' := by
  have H1 := Lib.hid h1
  have H2 := Lib.hid h2
  have pn : (n : Int) ≤ 900000 := by omega
  clear h1 h2
  go_enter Try.func11, Try.ntmps11
  go_wp2
  go_loopg [5] n (fun gg s5 wr => ∃ j : Nat, s5 = .int .i64 (j : Int) ∧ j ≤ n ∧ n - j ≤ gg ∧ Hid (Below W.heap.size W wr))
  case atStart => exact ⟨0, rfl, Nat.zero_le _, by omega, Lib.hid (Below.refl _ _)⟩
  case round =>
    obtain ⟨j, rfl, hj, hgg, HB⟩ := hrel
    by_cases hlt : j < n
    · have hltz : (j : Int) < (n : Int) := by omega
      obtain ⟨g1, hg1, c1⟩ := (H1.out.keep HB.out).at hlt
      obtain ⟨g2, hg2, c2⟩ := (H2.out.keep HB.out).at hlt
      subst hg1 hg2
      generalize ss[j]! = z at c1 c2
      have q := str_eq (rfl : z = z)
      have j0 : (0 : Int) ≤ (j : Int) := by omega
      go_wp2_with fail
      go_quiet (fail)
      go_wp2
      go_roundg (n - (j + 1))
      case measure => omega
      case rel => exact ⟨j + 1, by go_num, by omega, Nat.le_refl _, Lib.hid (below_drewN HB.out _)⟩
    · obtain rfl : j = n := by omega
      have hltz : ¬ (j : Int) < (j : Int) := by omega
      go_wp2
      go_ret
      exact ⟨rfl, HB.out⟩
end Go.Proofs.Ytpghehckojdgeaa
