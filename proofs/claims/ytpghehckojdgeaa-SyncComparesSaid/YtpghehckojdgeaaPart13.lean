/- Part 13 of the contracts: RMade, RTabs. -/
import Derived.Test.YtpghehckojdgeaaPart12

/- The law's made. (By gen_rmade.py.) -/
set_option linter.unusedVariables false
set_option linter.unusedSimpArgs false
namespace Go.Proofs.Ytpghehckojdgeaa
open Go.RowKit Go.Shelf Go.Sort

theorem slotAt_keep {w w' : World} {g o : Nat} {x : Slot} (h : SlotAt w g o x) (hb : Below w.heap.size w w') : SlotAt w' g o x := by
  obtain ⟨a0, a1, a2, a3, a4, a5, a6, a7, a8⟩ := h
  exact ⟨cell_later hb a0, cell_later hb a1, cell_later hb a2, cell_later hb a3, cell_later hb a4, cell_later hb a5, cell_later hb a6, cell_later hb a7, cell_later hb a8⟩
theorem cell6 {w : World} {T : Nat} {a0 a1 a2 a3 a4 a5 : Value} {ty : TypeId} (h : w.heap[T]? = some (.cells #[a0, a1, a2, a3, a4, a5] ty (0, 0))) :
    w.cell? ⟨T, 0, none⟩ = some a0 ∧ w.cell? ⟨T, 1, none⟩ = some a1 ∧ w.cell? ⟨T, 2, none⟩ = some a2 ∧ w.cell? ⟨T, 3, none⟩ = some a3 ∧ w.cell? ⟨T, 4, none⟩ = some a4 ∧ w.cell? ⟨T, 5, none⟩ = some a5 := by
  refine ⟨?_, ?_, ?_, ?_, ?_, ?_⟩ <;> (simp only [World.cell?]; rw [h]; rfl)
theorem results_cells2 {P : Program} {fn : Func} {p q r : Tmp} {ty ty2 : TypeId} (h : fn.results = #[.cell p ty, .cell q ty2, .tmp r]) (tmps : Array Value) (w : World) (g g2 : Nat) (t t2 : TypeId) (cs cs2 : Array Value) (fr fr2 : Nat × Nat) (d d2 : TypeDesc)
    (hp : tmps.getD p undef = .pointer (some ⟨g, 0, none⟩)) (hg : w.heap[g]? = some (.cells cs t fr))
    (hu : P.underlying ty = some d) (hd : (match d with | .struct _ | .array _ _ => true | _ => false) = true) (hi : (P.info? ty).map (·.size) = some cs.size)
    (hp2 : tmps.getD q undef = .pointer (some ⟨g2, 0, none⟩)) (hg2 : w.heap[g2]? = some (.cells cs2 t2 fr2))
    (hu2 : P.underlying ty2 = some d2) (hd2 : (match d2 with | .struct _ | .array _ _ => true | _ => false) = true) (hi2 : (P.info? ty2).map (·.size) = some cs2.size) :
    (results fn tmps).run P w = .ok (.tuple #[.agg cs, .agg cs2, tmps.getD r undef]) w := by
  have hp' : tmps[p]?.getD undef = .pointer (some ⟨g, 0, none⟩) := by simpa using hp
  have hq' : tmps[q]?.getD undef = .pointer (some ⟨g2, 0, none⟩) := by simpa using hp2
  simp [results, h, hp', hq', asAddr, run_loadVar_row w g t ty cs fr d hg hu hd hi, run_loadVar_row w g2 t2 ty2 cs2 fr2 d2 hg2 hu2 hd2 hi2, Result.andThen]
/-- what made makes: a table in both forms -/
def OutM (W : World) (m : Nat) (e : Ending) (w' : World) : Prop := ∃ (T : Tab) (a1 : Option Addr) (n1 c1 : Nat) (a2 : Option Addr) (n2 c2 : Nat), e = .returned (.tuple #[.agg #[.int .i64 (T.seen 0 : Int), .int .i64 (T.seen 1 : Int), .int .i64 (T.seen 2 : Int), .int .i64 (T.seen 3 : Int), .int .i64 (T.seen 4 : Int), .int .i64 (T.seen 5 : Int), .int .i64 (T.seen 6 : Int), .int .i64 (T.seen 7 : Int), .slice a1 n1 c1], .agg #[.int .i64 (T.seen 0 : Int), .int .i64 (T.seen 1 : Int), .int .i64 (T.seen 2 : Int), .int .i64 (T.seen 3 : Int), .int .i64 (T.seen 4 : Int), .int .i64 (T.seen 5 : Int), .int .i64 (T.seen 6 : Int), .int .i64 (T.seen 7 : Int), .slice a2 n2 c2], .bool true]) ∧ Held w' (m + 1) T a1 n1 ∧ HeldR w' (m + 1) T a2 n2 c2 ∧ Below W.heap.size W w'
/-- what stands before made returns: both tables in boxes of their own, the results' boxes -/
structure MadeF (W w : World) (m : Nat) (T : Tab) (a1 : Option Addr) (n1 c1 : Nat) (a2 : Option Addr) (n2 c2 B4 B5 : Nat) : Prop where
  s : Box w B4 34 #[.int .i64 (T.seen 0 : Int), .int .i64 (T.seen 1 : Int), .int .i64 (T.seen 2 : Int), .int .i64 (T.seen 3 : Int), .int .i64 (T.seen 4 : Int), .int .i64 (T.seen 5 : Int), .int .i64 (T.seen 6 : Int), .int .i64 (T.seen 7 : Int), .slice a1 n1 c1]
  r : Box w B5 36 #[.int .i64 (T.seen 0 : Int), .int .i64 (T.seen 1 : Int), .int .i64 (T.seen 2 : Int), .int .i64 (T.seen 3 : Int), .int .i64 (T.seen 4 : Int), .int .i64 (T.seen 5 : Int), .int .i64 (T.seen 6 : Int), .int .i64 (T.seen 7 : Int), .slice a2 n2 c2]
  hs : Held w (m + 1) T a1 n1
  hr : HeldR w (m + 1) T a2 n2 c2
  z6 : w.heap[W.heap.size + 1]? = some (.cells #[.int .i64 0, .int .i64 0, .int .i64 0, .int .i64 0, .int .i64 0, .int .i64 0, .int .i64 0, .int .i64 0, .slice none 0 0] 34 (0, 0))
  z7 : w.heap[W.heap.size + 1 + 1]? = some (.cells #[.int .i64 0, .int .i64 0, .int .i64 0, .int .i64 0, .int .i64 0, .int .i64 0, .int .i64 0, .int .i64 0, .slice none 0 0] 36 (0, 0))
  d4 : W.heap.size + 1 + 1 < B4
  d5 : W.heap.size + 1 + 1 < B5
  bel : Below W.heap.size W w
theorem MadeF.keep {W w w' : World} {m : Nat} {T : Tab} {a1 : Option Addr} {n1 c1 : Nat} {a2 : Option Addr} {n2 c2 B4 B5 : Nat} (h : MadeF W w m T a1 n1 c1 a2 n2 c2 B4 B5) (hb : Below w.heap.size w w') : MadeF W w' m T a1 n1 c1 a2 n2 c2 B4 B5 :=
  ⟨row_keep hb h.s, row_keep hb h.r, h.hs.keep hb, h.hr.keep hb, row_keep hb h.z6, row_keep hb h.z7, h.d4, h.d5, h.bel.trans (hb.mono h.bel.size)⟩

set_option maxRecDepth 100000 in
set_option maxHeartbeats 16000000 in
theorem made_any (m gT gR nn cp cq pa pb : Nat) (x : ActD) (ta tb ra rb : Slot) (W : World) (hx : x.fine) (hn1 : 1 ≤ nn) (hnn : nn ≤ 1000) (hm : m ≤ 9000) (hpa : pa = x.a % nn) (hpb : pb = x.b % nn)
    (h1 : SlotAt W gT (pa * 9) ta) (h2 : SlotAt W gT (pb * 9) tb) (h3 : SlotAt W gR (pa * 9) ⟨ta.T, ra.ao, ra.n, ra.c⟩) (h4 : SlotAt W gR (pb * 9) ⟨tb.T, rb.ao, rb.n, rb.c⟩)
    (HA : Held W m ta.T ta.ao ta.n) (HB : Held W m tb.T tb.ao tb.n) (RA : HeldR W m ta.T ra.ao ra.n ra.c) (RB : HeldR W m tb.T rb.ao rb.n rb.c) :
    Calls Try.prog 29 #[.slice (some ⟨gT, 0, none⟩) nn cp, .slice (some ⟨gR, 0, none⟩) nn cq, .agg #[.int .u8 (x.kind : Int), .int .u8 (x.a : Int), .int .u8 (x.b : Int), .int .i64 x.site, .string x.key, .string x.val]] W (OutM W m) := by
  obtain ⟨V, hV⟩ : ∃ V, V = ((W.alloc (.cells #[.int .u8 (x.kind : Int), .int .u8 (x.a : Int), .int .u8 (x.b : Int), .int .i64 x.site, .string x.key, .string x.val] 74)).alloc (.cells #[.int .i64 0, .int .i64 0, .int .i64 0, .int .i64 0, .int .i64 0, .int .i64 0, .int .i64 0, .int .i64 0, .slice none 0 0] 34)).alloc (.cells #[.int .i64 0, .int .i64 0, .int .i64 0, .int .i64 0, .int .i64 0, .int .i64 0, .int .i64 0, .int .i64 0, .slice none 0 0] 36) := ⟨_, rfl⟩
  have HBV : Hid (Below W.heap.size W V) := Lib.hid (by rw [hV]; exact below3 W _ _ _)
  have TX : Hid (V.heap[W.heap.size]? = some (.cells #[.int .u8 (x.kind : Int), .int .u8 (x.a : Int), .int .u8 (x.b : Int), .int .i64 x.site, .string x.key, .string x.val] 74 (0, 0))) := Lib.hid (by rw [hV]; exact block1of3 W _ _ _)
  have T6 : Hid (V.heap[W.heap.size + 1]? = some (.cells #[.int .i64 0, .int .i64 0, .int .i64 0, .int .i64 0, .int .i64 0, .int .i64 0, .int .i64 0, .int .i64 0, .slice none 0 0] 34 (0, 0))) := Lib.hid (by rw [hV]; exact block2of3 W _ _ _)
  have T7 : Hid (V.heap[W.heap.size + 1 + 1]? = some (.cells #[.int .i64 0, .int .i64 0, .int .i64 0, .int .i64 0, .int .i64 0, .int .i64 0, .int .i64 0, .int .i64 0, .slice none 0 0] 36 (0, 0))) := Lib.hid (by rw [hV]; exact block3 W _ _ _)
  have hVs : W.heap.size + 1 + 1 < V.heap.size := (Array.getElem?_eq_some_iff.1 T7.out).1
  have G1 : Hid (SlotAt V gT (pa * 9) ta) := Lib.hid (slotAt_keep h1 HBV.out)
  have G2 : Hid (SlotAt V gT (pb * 9) tb) := Lib.hid (slotAt_keep h2 HBV.out)
  have G3 : Hid (SlotAt V gR (pa * 9) ⟨ta.T, ra.ao, ra.n, ra.c⟩) := Lib.hid (slotAt_keep h3 HBV.out)
  have G4 : Hid (SlotAt V gR (pb * 9) ⟨tb.T, rb.ao, rb.n, rb.c⟩) := Lib.hid (slotAt_keep h4 HBV.out)
  have J1 := Lib.hid (HA.keep HBV.out)
  have J2 := Lib.hid (HB.keep HBV.out)
  have J3 := Lib.hid (RA.keep HBV.out)
  have J4 := Lib.hid (RB.keep HBV.out)
  have HV := Lib.hid hV
  have hpan : pa < nn := by rw [hpa]; exact Nat.mod_lt _ (by omega)
  have hpbn : pb < nn := by rw [hpb]; exact Nat.mod_lt _ (by omega)
  have hk0 := hx.1
  have ha0 := hx.2.1
  have hb0 := hx.2.2.1
  have k1 : (x.a : Int).tmod (nn : Int) = (pa : Int) := by rw [hpa, Int.tmod_eq_emod_of_nonneg (by omega)]; rfl
  have k2 : (x.b : Int).tmod (nn : Int) = (pb : Int) := by rw [hpb, Int.tmod_eq_emod_of_nonneg (by omega)]; rfl
  have k3 : IntKind.i64.wrap (pa : Int) = (pa : Int) := IntWalk.i64_in _ (by omega)
  have k4 : IntKind.i64.wrap (pb : Int) = (pb : Int) := IntWalk.i64_in _ (by omega)
  have k9 : ¬ (nn : Int) = 0 := by omega
  have k9c : ¬ nn = 0 := by omega
  have k10 : IntKind.i64.wrap (x.a : Int) = (x.a : Int) := IntWalk.i64_in _ (by omega)
  have k11 : IntKind.i64.wrap (x.b : Int) = (x.b : Int) := IntWalk.i64_in _ (by omega)
  clear hV h1 h2 h3 h4 HA HB RA RB hx hpa hpb
  obtain ⟨d0, d1, d2, d3, d4, d5⟩ := cell6 TX.out
  go_enter Try.func29, Try.ntmps29
  go_upto_region 1 with fail
  rw [← HV.out]
  go_cut [9, 10] (fun v9 v10 wx => v9 = .int .i64 (pa : Int) ∧ v10 = .int .i64 (pb : Int) ∧ Hid (Below V.heap.size V wx))
  · go_region_held3 (fun w' => w'.cell? ⟨W.heap.size, 1, none⟩ = some (.int .u8 (x.a : Int)) ∧ w'.cell? ⟨W.heap.size, 2, none⟩ = some (.int .u8 (x.b : Int))) (go_keep) (fail)
    all_goals go_wp2_with fail
    all_goals go_meet
    all_goals exact ⟨rfl, rfl, Lib.hid (drew_below V)⟩
  · obtain ⟨rfl, rfl, BC⟩ := hcut
    replace TX := Lib.hid (row_keep BC.out TX.out)
    replace T6 := Lib.hid (row_keep BC.out T6.out)
    replace T7 := Lib.hid (row_keep BC.out T7.out)
    replace J1 := Lib.hid (J1.out.keep BC.out)
    replace J2 := Lib.hid (J2.out.keep BC.out)
    replace J3 := Lib.hid (J3.out.keep BC.out)
    replace J4 := Lib.hid (J4.out.keep BC.out)
    have g1 := slotAt_keep G1.out BC.out
    have g2 := slotAt_keep G2.out BC.out
    have g3 := slotAt_keep G3.out BC.out
    have g4 := slotAt_keep G4.out BC.out
    replace HBV := Lib.hid (HBV.out.trans (BC.out.mono HBV.out.size))
    have hcs : W.heap.size + 1 + 1 < wc.heap.size := Nat.lt_of_lt_of_le hVs BC.out.size
    have hkd2 : (x.kind : Int) ≤ 255 := by omega
    have hkd3 : (0 : Int) ≤ (x.kind : Int) := by omega
    clear d0 d1 d2 d3 d4 d5 k1 k2 k3 k4 k9 k9c k10 k11 G1 G2 G3 G4 BC
    obtain ⟨d0, d1, d2, d3, d4, d5⟩ := cell6 TX.out
    by_cases hk2 : x.kind % 4 = 2
    · have m1 : (((x.kind : Int) % 4) == 2) = true := by simp; omega
      go_upto_region 4 with fail
      clear m1 hk2 hkd2 hkd3
      go_wp2_with fail
      rename_i hK0
      obtain ⟨p0, p1, p2, p3, p4, p5, p6, p7, p8⟩ := g1
      obtain ⟨r0, r1, r2, r3, r4, r5, r6, r7, r8⟩ := g3
      refine made_rem x ta ra m nn cp cq pa W.heap.size gT gR _ _ (by kernel_rfl) rfl rfl rfl rfl rfl rfl rfl rfl rfl rfl rfl rfl rfl rfl rfl rfl rfl rfl rfl (block_lt_of_cell d0) d0 d1 d2 d3 d4 d5 (block_lt_of_cell p0) p0 p1 p2 p3 p4 p5 p6 p7 p8 (block_lt_of_cell r0) r0 r1 r2 r3 r4 r5 r6 r7 r8 rfl rfl rfl hpan hnn (by omega) J1.out J3.out ?_
      intro w5 B4 B5 T a1 n1 c1 T5 a2 n2 c2 hb hB4 hx4 hB5 hx5 hne hT4 hh4 hT5 hh5
      obtain rfl : T = T5 := hT4.trans hT5.symm
      have F : MadeF W w5 m T a1 n1 c1 a2 n2 c2 B4 B5 := ⟨hx4, hx5, hh4.more (Nat.le_succ m), hh5.more (Nat.le_succ m), row_keep hb T6.out, row_keep hb T7.out, by omega, by omega, HBV.out.trans (hb.mono HBV.out.size)⟩
      clear p0 p1 p2 p3 p4 p5 p6 p7 p8 r0 r1 r2 r3 r4 r5 r6 r7 r8 d0 d1 d2 d3 d4 d5 J1 J2 J3 J4 T6 T7 TX HBV HV hx4 hx5 hh4 hh5 hb hB4 hB5 hne hT4 hT5 g2 g4 hcs hVs
      refine hK0 _ _ ?_
      simp only [puts, Act.put]
      go_simp
      clear hK0
      go_wp2_with fail
      refine wp_region_held_drew (S := fun w' => Box w' B4 34 #[.int .i64 (T.seen 0 : Int), .int .i64 (T.seen 1 : Int), .int .i64 (T.seen 2 : Int), .int .i64 (T.seen 3 : Int), .int .i64 (T.seen 4 : Int), .int .i64 (T.seen 5 : Int), .int .i64 (T.seen 6 : Int), .int .i64 (T.seen 7 : Int), .slice a1 n1 c1] ∧ Box w' B5 36 #[.int .i64 (T.seen 0 : Int), .int .i64 (T.seen 1 : Int), .int .i64 (T.seen 2 : Int), .int .i64 (T.seen 3 : Int), .int .i64 (T.seen 4 : Int), .int .i64 (T.seen 5 : Int), .int .i64 (T.seen 6 : Int), .int .i64 (T.seen 7 : Int), .slice a2 n2 c2]) (by kernel_rfl) ⟨F.s, F.r⟩ (fun hS => ?_)
      refine wpAnyH_take (i := 0) (v := ?va0) rfl (by kernel_rfl) (by kernel_rfl) (by kernel_rfl) (fun _ _ _ h => h) (Or.inl ⟨by rfl, ?hya0⟩) hS ?resta0
      case hya0 => (intro w hSw; obtain ⟨hs4, hs5⟩ := hSw; obtain ⟨g0, g1, g2, g3, g4, g5, g6, g7, g8⟩ := cell_nine hs4; obtain ⟨k0, k1, k2, k3, k4, k5, k6, k7, k8⟩ := cell_nine hs5; clear hs4 hs5; first | (go_simp; done) | (go_simp; with_reducible rfl))
      try simp only [Act.put, List.getElem_toArray, List.getElem_cons_succ, List.getElem_cons_zero, List.setIfInBounds_toArray, List.set_cons_zero, List.set_cons_succ]
      refine wpAnyH_take (i := 1) (v := ?va1) rfl (by kernel_rfl) (by kernel_rfl) (by kernel_rfl) (fun _ _ _ h => h) (Or.inl ⟨by rfl, ?hya1⟩) hS ?resta1
      case hya1 => (intro w hSw; obtain ⟨hs4, hs5⟩ := hSw; obtain ⟨g0, g1, g2, g3, g4, g5, g6, g7, g8⟩ := cell_nine hs4; obtain ⟨k0, k1, k2, k3, k4, k5, k6, k7, k8⟩ := cell_nine hs5; clear hs4 hs5; first | (go_simp; done) | (go_simp; with_reducible rfl))
      try simp only [Act.put, List.getElem_toArray, List.getElem_cons_succ, List.getElem_cons_zero, List.setIfInBounds_toArray, List.set_cons_zero, List.set_cons_succ]
      refine wpAnyH_take (i := 2) (v := ?va2) rfl (by kernel_rfl) (by kernel_rfl) (by kernel_rfl) (fun _ _ _ h => h) (Or.inl ⟨by rfl, ?hya2⟩) hS ?resta2
      case hya2 => (intro w hSw; obtain ⟨hs4, hs5⟩ := hSw; obtain ⟨g0, g1, g2, g3, g4, g5, g6, g7, g8⟩ := cell_nine hs4; obtain ⟨k0, k1, k2, k3, k4, k5, k6, k7, k8⟩ := cell_nine hs5; clear hs4 hs5; first | (go_simp; done) | (go_simp; with_reducible rfl))
      try simp only [Act.put, List.getElem_toArray, List.getElem_cons_succ, List.getElem_cons_zero, List.setIfInBounds_toArray, List.set_cons_zero, List.set_cons_succ]
      refine wpAnyH_take (i := 3) (v := ?va3) rfl (by kernel_rfl) (by kernel_rfl) (by kernel_rfl) (fun _ _ _ h => h) (Or.inl ⟨by rfl, ?hya3⟩) hS ?resta3
      case hya3 => (intro w hSw; obtain ⟨hs4, hs5⟩ := hSw; obtain ⟨g0, g1, g2, g3, g4, g5, g6, g7, g8⟩ := cell_nine hs4; obtain ⟨k0, k1, k2, k3, k4, k5, k6, k7, k8⟩ := cell_nine hs5; clear hs4 hs5; first | (go_simp; done) | (go_simp; with_reducible rfl))
      try simp only [Act.put, List.getElem_toArray, List.getElem_cons_succ, List.getElem_cons_zero, List.setIfInBounds_toArray, List.set_cons_zero, List.set_cons_succ]
      refine wpAnyH_ready (rs := [4]) (by kernel_rfl) (by simp) ?_
      refine AllReadyH.cons rfl (fun K hK => ?_) AllReadyH.nil
      try go_simp
      go_at_call 10
      refine (sameA c1 c2 (F.hs.keep (drew_below _)) (F.hr.keep (drew_below _)) (by omega)).mono ?_
      rintro e w6 ⟨rfl, hb6⟩
      replace F := F.keep ((drew_below _).trans hb6)
      clear hb6
      refine hK.out _ _ ⟨F.s, F.r⟩ (fun hS => ?_)
      clear hK K
      try simp only [Act.put, List.getElem_toArray, List.getElem_cons_succ, List.getElem_cons_zero, List.setIfInBounds_toArray, List.set_cons_zero, List.set_cons_succ]
      have Z6 := Lib.hid F.z6
      have Z7 := Lib.hid F.z7
      obtain ⟨u0, u1, u2, u3, u4, u5, u6, u7, u8⟩ := cell_nine Z6.out
      have f0 := free_nine Z6.out 0; have f1 := free_nine Z6.out 1; have f2 := free_nine Z6.out 2; have f3 := free_nine Z6.out 3; have f4 := free_nine Z6.out 4; have f5 := free_nine Z6.out 5; have f6 := free_nine Z6.out 6; have f7 := free_nine Z6.out 7; have f8 := free_nine Z6.out 8
      obtain ⟨v0, v1, v2, v3, v4, v5, v6, v7, v8⟩ := cell_nine Z7.out
      have e0 := free_nine Z7.out 0; have e1 := free_nine Z7.out 1; have e2 := free_nine Z7.out 2; have e3 := free_nine Z7.out 3; have e4 := free_nine Z7.out 4; have e5 := free_nine Z7.out 5; have e6 := free_nine Z7.out 6; have e7 := free_nine Z7.out 7; have e8 := free_nine Z7.out 8
      have hd4 := F.d4
      have hd5 := F.d5
      have HF := Lib.hid F
      clear F
      refine wpAnyH_ready (rs := [5]) (by kernel_rfl) (by simp) ?_
      refine AllReadyH.cons rfl (fun K hK => ?_) AllReadyH.nil
      try go_simp
      refine hK.out _ _ ⟨(heap_set9 _ _ _ _ _ _ _ _ _ _ _ _ (by omega)).trans HF.out.s, (heap_set9 _ _ _ _ _ _ _ _ _ _ _ _ (by omega)).trans HF.out.r⟩ (fun hS => ?_)
      clear hK K
      try simp only [Act.put, List.getElem_toArray, List.getElem_cons_succ, List.getElem_cons_zero, List.setIfInBounds_toArray, List.set_cons_zero, List.set_cons_succ]
      obtain ⟨V1, hV1⟩ : ∃ V1, V1 = (((((((((w6.setCell ⟨W.heap.size + 1, 0, none⟩ (.int .i64 (T.seen 0 : Int))).setCell ⟨W.heap.size + 1, 1, none⟩ (.int .i64 (T.seen 1 : Int))).setCell ⟨W.heap.size + 1, 2, none⟩ (.int .i64 (T.seen 2 : Int))).setCell ⟨W.heap.size + 1, 3, none⟩ (.int .i64 (T.seen 3 : Int))).setCell ⟨W.heap.size + 1, 4, none⟩ (.int .i64 (T.seen 4 : Int))).setCell ⟨W.heap.size + 1, 5, none⟩ (.int .i64 (T.seen 5 : Int))).setCell ⟨W.heap.size + 1, 6, none⟩ (.int .i64 (T.seen 6 : Int))).setCell ⟨W.heap.size + 1, 7, none⟩ (.int .i64 (T.seen 7 : Int))).setCell ⟨W.heap.size + 1, 8, none⟩ (.slice a1 n1 c1)) := ⟨_, rfl⟩
      have Y1 : Hid (V1.heap[W.heap.size + 1]? = some (.cells #[.int .i64 (T.seen 0 : Int), .int .i64 (T.seen 1 : Int), .int .i64 (T.seen 2 : Int), .int .i64 (T.seen 3 : Int), .int .i64 (T.seen 4 : Int), .int .i64 (T.seen 5 : Int), .int .i64 (T.seen 6 : Int), .int .i64 (T.seen 7 : Int), .slice a1 n1 c1] 34 (0, 0))) := Lib.hid (by rw [hV1]; exact set_nine Z6.out)
      have Y2 : Hid (V1.heap[W.heap.size + 1 + 1]? = some (.cells #[.int .i64 0, .int .i64 0, .int .i64 0, .int .i64 0, .int .i64 0, .int .i64 0, .int .i64 0, .int .i64 0, .slice none 0 0] 36 (0, 0))) := Lib.hid (by rw [hV1]; exact (heap_set9 _ _ _ _ _ _ _ _ _ _ _ _ (by omega)).trans Z7.out)
      have X4 := Lib.hid hS.1
      have X5 := Lib.hid hS.2
      have EB := Lib.hid (show Below W.heap.size W V1 by rw [hV1]; exact below_set9 _ _ _ _ _ _ _ _ _ HF.out.bel (by omega))
      have E1 := Lib.hid (show Held V1 (m + 1) T a1 n1 by rw [hV1]; exact ⟨El.only HF.out.hs.el u0 (fun b o hb => cell_set9 _ _ _ _ _ _ _ _ _ _ _ _ _ hb) (by simp), HF.out.hs.ok⟩)
      have E2 := Lib.hid (show HeldR V1 (m + 1) T a2 n2 c2 by rw [hV1]; exact ⟨El.only HF.out.hr.el u0 (fun b o hb => cell_set9 _ _ _ _ _ _ _ _ _ _ _ _ _ hb) (by simp), HF.out.hr.ok, HF.out.hr.nc, HF.out.hr.cm⟩)
      clear hS
      replace X4 := Lib.hid (show Box V1 B4 _ _ by rw [hV1]; exact X4.out)
      replace X5 := Lib.hid (show Box V1 B5 _ _ by rw [hV1]; exact X5.out)
      have hS := And.intro X4.out X5.out
      rw [← hV1]
      clear hV1 u0 u1 u2 u3 u4 u5 u6 u7 u8 v0 v1 v2 v3 v4 v5 v6 v7 v8 f0 f1 f2 f3 f4 f5 f6 f7 f8 e0 e1 e2 e3 e4 e5 e6 e7 e8
      obtain ⟨u0, u1, u2, u3, u4, u5, u6, u7, u8⟩ := cell_nine Y2.out
      have f0 := free_nine Y2.out 0; have f1 := free_nine Y2.out 1; have f2 := free_nine Y2.out 2; have f3 := free_nine Y2.out 3; have f4 := free_nine Y2.out 4; have f5 := free_nine Y2.out 5; have f6 := free_nine Y2.out 6; have f7 := free_nine Y2.out 7; have f8 := free_nine Y2.out 8
      refine wpAnyH_ready (rs := [6]) (by kernel_rfl) (by simp) ?_
      refine AllReadyH.cons rfl (fun K hK => ?_) AllReadyH.nil
      try go_simp
      refine hK.out _ _ ⟨(heap_set9 _ _ _ _ _ _ _ _ _ _ _ _ (by omega)).trans X4.out, (heap_set9 _ _ _ _ _ _ _ _ _ _ _ _ (by omega)).trans X5.out⟩ (fun hS => ?_)
      clear hK K
      try simp only [Act.put, List.getElem_toArray, List.getElem_cons_succ, List.getElem_cons_zero, List.setIfInBounds_toArray, List.set_cons_zero, List.set_cons_succ]
      refine wpAnyH_take (i := 7) (v := ?va7) rfl (by kernel_rfl) (by kernel_rfl) (by kernel_rfl) (fun _ _ _ h => h) (Or.inl ⟨by rfl, ?hya7⟩) hS ?resta7
      case hya7 => (intro w hSw; obtain ⟨hs4, hs5⟩ := hSw; obtain ⟨g0, g1, g2, g3, g4, g5, g6, g7, g8⟩ := cell_nine hs4; obtain ⟨k0, k1, k2, k3, k4, k5, k6, k7, k8⟩ := cell_nine hs5; clear hs4 hs5; first | (go_simp; done) | (go_simp; with_reducible rfl))
      try simp only [Act.put, List.getElem_toArray, List.getElem_cons_succ, List.getElem_cons_zero, List.setIfInBounds_toArray, List.set_cons_zero, List.set_cons_succ]
      refine wpAnyH_done (by kernel_rfl) ?_ _
      go_wp2_with fail
      refine bodyPost_ret (v := .tuple #[.agg #[.int .i64 (T.seen 0 : Int), .int .i64 (T.seen 1 : Int), .int .i64 (T.seen 2 : Int), .int .i64 (T.seen 3 : Int), .int .i64 (T.seen 4 : Int), .int .i64 (T.seen 5 : Int), .int .i64 (T.seen 6 : Int), .int .i64 (T.seen 7 : Int), .slice a1 n1 c1], .agg #[.int .i64 (T.seen 0 : Int), .int .i64 (T.seen 1 : Int), .int .i64 (T.seen 2 : Int), .int .i64 (T.seen 3 : Int), .int .i64 (T.seen 4 : Int), .int .i64 (T.seen 5 : Int), .int .i64 (T.seen 6 : Int), .int .i64 (T.seen 7 : Int), .slice a2 n2 c2], .bool true]) (results_cells2 Try.results29 _ _ (W.heap.size + 1) (W.heap.size + 1 + 1) 34 36 #[.int .i64 (T.seen 0 : Int), .int .i64 (T.seen 1 : Int), .int .i64 (T.seen 2 : Int), .int .i64 (T.seen 3 : Int), .int .i64 (T.seen 4 : Int), .int .i64 (T.seen 5 : Int), .int .i64 (T.seen 6 : Int), .int .i64 (T.seen 7 : Int), .slice a1 n1 c1] #[.int .i64 (T.seen 0 : Int), .int .i64 (T.seen 1 : Int), .int .i64 (T.seen 2 : Int), .int .i64 (T.seen 3 : Int), .int .i64 (T.seen 4 : Int), .int .i64 (T.seen 5 : Int), .int .i64 (T.seen 6 : Int), .int .i64 (T.seen 7 : Int), .slice a2 n2 c2] (0, 0) (0, 0) _ _ rfl ((heap_set9 _ _ _ _ _ _ _ _ _ _ _ _ (by omega)).trans Y1.out) Try.underlying34 (by kernel_rfl) (by kernel_rfl) rfl (set_nine Y2.out) Try.underlying36 (by kernel_rfl) (by kernel_rfl)) rfl ?_
      exact ⟨T, a1, n1, c1, a2, n2, c2, rfl, ⟨El.only E1.out.el u0 (fun b o hb => cell_set9 _ _ _ _ _ _ _ _ _ _ _ _ _ hb) (by simp), E1.out.ok⟩, ⟨El.only E2.out.el u0 (fun b o hb => cell_set9 _ _ _ _ _ _ _ _ _ _ _ _ _ hb) (by simp), E2.out.ok, E2.out.nc, E2.out.cm⟩, below_set9 _ _ _ _ _ _ _ _ _ EB.out (by omega)⟩
    · by_cases hk3 : x.kind % 4 = 3
      · have m1 : (((x.kind : Int) % 4) == 2) = false := by simp; omega
        have m2 : (((x.kind : Int) % 4) == 3) = true := by simp; omega
        go_upto_region 7 with fail
        clear m1 m2 hk2 hk3 hkd2 hkd3
        go_wp2_with fail
        rename_i hK0
        obtain ⟨p0, p1, p2, p3, p4, p5, p6, p7, p8⟩ := g1
        obtain ⟨q0, q1, q2, q3, q4, q5, q6, q7, q8⟩ := g2
        obtain ⟨r0, r1, r2, r3, r4, r5, r6, r7, r8⟩ := g3
        obtain ⟨t0, t1, t2, t3, t4, t5, t6, t7, t8⟩ := g4
        refine made_mer ta tb ra rb m nn cp cq pa pb gT gR _ _ (by kernel_rfl) rfl rfl rfl rfl rfl rfl rfl rfl rfl rfl rfl rfl rfl rfl rfl rfl rfl rfl rfl rfl rfl rfl (block_lt_of_cell p0) p0 p1 p2 p3 p4 p5 p6 p7 p8 (block_lt_of_cell q0) q0 q1 q2 q3 q4 q5 q6 q7 q8 (block_lt_of_cell r0) r0 r1 r2 r3 r4 r5 r6 r7 r8 (block_lt_of_cell t0) t0 t1 t2 t3 t4 t5 t6 t7 t8 rfl rfl rfl rfl hpan hnn (by omega) J1.out J3.out hpbn J2.out J4.out ?_
        intro w5 B4 B5 T a1 n1 c1 T5 a2 n2 c2 hb hB4 hx4 hB5 hx5 hne hT4 hh4 hT5 hh5
        obtain rfl : T = T5 := hT4.trans hT5.symm
        have F : MadeF W w5 m T a1 n1 c1 a2 n2 c2 B4 B5 := ⟨hx4, hx5, hh4.more (Nat.le_succ m), hh5.more (Nat.le_succ m), row_keep hb T6.out, row_keep hb T7.out, by omega, by omega, HBV.out.trans (hb.mono HBV.out.size)⟩
        clear p0 p1 p2 p3 p4 p5 p6 p7 p8 q0 q1 q2 q3 q4 q5 q6 q7 q8 r0 r1 r2 r3 r4 r5 r6 r7 r8 t0 t1 t2 t3 t4 t5 t6 t7 t8 d0 d1 d2 d3 d4 d5 J1 J2 J3 J4 T6 T7 TX HBV HV hx4 hx5 hh4 hh5 hb hB4 hB5 hne hT4 hT5 hcs hVs
        refine hK0 _ _ ?_
        simp only [puts, Act.put]
        go_simp
        clear hK0
        go_wp2_with fail
        refine wp_region_held_drew (S := fun w' => Box w' B4 34 #[.int .i64 (T.seen 0 : Int), .int .i64 (T.seen 1 : Int), .int .i64 (T.seen 2 : Int), .int .i64 (T.seen 3 : Int), .int .i64 (T.seen 4 : Int), .int .i64 (T.seen 5 : Int), .int .i64 (T.seen 6 : Int), .int .i64 (T.seen 7 : Int), .slice a1 n1 c1] ∧ Box w' B5 36 #[.int .i64 (T.seen 0 : Int), .int .i64 (T.seen 1 : Int), .int .i64 (T.seen 2 : Int), .int .i64 (T.seen 3 : Int), .int .i64 (T.seen 4 : Int), .int .i64 (T.seen 5 : Int), .int .i64 (T.seen 6 : Int), .int .i64 (T.seen 7 : Int), .slice a2 n2 c2]) (by kernel_rfl) ⟨F.s, F.r⟩ (fun hS => ?_)
        refine wpAnyH_take (i := 0) (v := ?vb0) rfl (by kernel_rfl) (by kernel_rfl) (by kernel_rfl) (fun _ _ _ h => h) (Or.inl ⟨by rfl, ?hyb0⟩) hS ?restb0
        case hyb0 => (intro w hSw; obtain ⟨hs4, hs5⟩ := hSw; obtain ⟨g0, g1, g2, g3, g4, g5, g6, g7, g8⟩ := cell_nine hs4; obtain ⟨k0, k1, k2, k3, k4, k5, k6, k7, k8⟩ := cell_nine hs5; clear hs4 hs5; first | (go_simp; done) | (go_simp; with_reducible rfl))
        try simp only [Act.put, List.getElem_toArray, List.getElem_cons_succ, List.getElem_cons_zero, List.setIfInBounds_toArray, List.set_cons_zero, List.set_cons_succ]
        refine wpAnyH_take (i := 1) (v := ?vb1) rfl (by kernel_rfl) (by kernel_rfl) (by kernel_rfl) (fun _ _ _ h => h) (Or.inl ⟨by rfl, ?hyb1⟩) hS ?restb1
        case hyb1 => (intro w hSw; obtain ⟨hs4, hs5⟩ := hSw; obtain ⟨g0, g1, g2, g3, g4, g5, g6, g7, g8⟩ := cell_nine hs4; obtain ⟨k0, k1, k2, k3, k4, k5, k6, k7, k8⟩ := cell_nine hs5; clear hs4 hs5; first | (go_simp; done) | (go_simp; with_reducible rfl))
        try simp only [Act.put, List.getElem_toArray, List.getElem_cons_succ, List.getElem_cons_zero, List.setIfInBounds_toArray, List.set_cons_zero, List.set_cons_succ]
        refine wpAnyH_take (i := 2) (v := ?vb2) rfl (by kernel_rfl) (by kernel_rfl) (by kernel_rfl) (fun _ _ _ h => h) (Or.inl ⟨by rfl, ?hyb2⟩) hS ?restb2
        case hyb2 => (intro w hSw; obtain ⟨hs4, hs5⟩ := hSw; obtain ⟨g0, g1, g2, g3, g4, g5, g6, g7, g8⟩ := cell_nine hs4; obtain ⟨k0, k1, k2, k3, k4, k5, k6, k7, k8⟩ := cell_nine hs5; clear hs4 hs5; first | (go_simp; done) | (go_simp; with_reducible rfl))
        try simp only [Act.put, List.getElem_toArray, List.getElem_cons_succ, List.getElem_cons_zero, List.setIfInBounds_toArray, List.set_cons_zero, List.set_cons_succ]
        refine wpAnyH_take (i := 3) (v := ?vb3) rfl (by kernel_rfl) (by kernel_rfl) (by kernel_rfl) (fun _ _ _ h => h) (Or.inl ⟨by rfl, ?hyb3⟩) hS ?restb3
        case hyb3 => (intro w hSw; obtain ⟨hs4, hs5⟩ := hSw; obtain ⟨g0, g1, g2, g3, g4, g5, g6, g7, g8⟩ := cell_nine hs4; obtain ⟨k0, k1, k2, k3, k4, k5, k6, k7, k8⟩ := cell_nine hs5; clear hs4 hs5; first | (go_simp; done) | (go_simp; with_reducible rfl))
        try simp only [Act.put, List.getElem_toArray, List.getElem_cons_succ, List.getElem_cons_zero, List.setIfInBounds_toArray, List.set_cons_zero, List.set_cons_succ]
        refine wpAnyH_ready (rs := [4]) (by kernel_rfl) (by simp) ?_
        refine AllReadyH.cons rfl (fun K hK => ?_) AllReadyH.nil
        try go_simp
        go_at_call 10
        refine (sameA c1 c2 (F.hs.keep (drew_below _)) (F.hr.keep (drew_below _)) (by omega)).mono ?_
        rintro e w6 ⟨rfl, hb6⟩
        replace F := F.keep ((drew_below _).trans hb6)
        clear hb6
        refine hK.out _ _ ⟨F.s, F.r⟩ (fun hS => ?_)
        clear hK K
        try simp only [Act.put, List.getElem_toArray, List.getElem_cons_succ, List.getElem_cons_zero, List.setIfInBounds_toArray, List.set_cons_zero, List.set_cons_succ]
        have Z6 := Lib.hid F.z6
        have Z7 := Lib.hid F.z7
        obtain ⟨u0, u1, u2, u3, u4, u5, u6, u7, u8⟩ := cell_nine Z6.out
        have f0 := free_nine Z6.out 0; have f1 := free_nine Z6.out 1; have f2 := free_nine Z6.out 2; have f3 := free_nine Z6.out 3; have f4 := free_nine Z6.out 4; have f5 := free_nine Z6.out 5; have f6 := free_nine Z6.out 6; have f7 := free_nine Z6.out 7; have f8 := free_nine Z6.out 8
        obtain ⟨v0, v1, v2, v3, v4, v5, v6, v7, v8⟩ := cell_nine Z7.out
        have e0 := free_nine Z7.out 0; have e1 := free_nine Z7.out 1; have e2 := free_nine Z7.out 2; have e3 := free_nine Z7.out 3; have e4 := free_nine Z7.out 4; have e5 := free_nine Z7.out 5; have e6 := free_nine Z7.out 6; have e7 := free_nine Z7.out 7; have e8 := free_nine Z7.out 8
        have hd4 := F.d4
        have hd5 := F.d5
        have HF := Lib.hid F
        clear F
        refine wpAnyH_ready (rs := [5]) (by kernel_rfl) (by simp) ?_
        refine AllReadyH.cons rfl (fun K hK => ?_) AllReadyH.nil
        try go_simp
        refine hK.out _ _ ⟨(heap_set9 _ _ _ _ _ _ _ _ _ _ _ _ (by omega)).trans HF.out.s, (heap_set9 _ _ _ _ _ _ _ _ _ _ _ _ (by omega)).trans HF.out.r⟩ (fun hS => ?_)
        clear hK K
        try simp only [Act.put, List.getElem_toArray, List.getElem_cons_succ, List.getElem_cons_zero, List.setIfInBounds_toArray, List.set_cons_zero, List.set_cons_succ]
        obtain ⟨V1, hV1⟩ : ∃ V1, V1 = (((((((((w6.setCell ⟨W.heap.size + 1, 0, none⟩ (.int .i64 (T.seen 0 : Int))).setCell ⟨W.heap.size + 1, 1, none⟩ (.int .i64 (T.seen 1 : Int))).setCell ⟨W.heap.size + 1, 2, none⟩ (.int .i64 (T.seen 2 : Int))).setCell ⟨W.heap.size + 1, 3, none⟩ (.int .i64 (T.seen 3 : Int))).setCell ⟨W.heap.size + 1, 4, none⟩ (.int .i64 (T.seen 4 : Int))).setCell ⟨W.heap.size + 1, 5, none⟩ (.int .i64 (T.seen 5 : Int))).setCell ⟨W.heap.size + 1, 6, none⟩ (.int .i64 (T.seen 6 : Int))).setCell ⟨W.heap.size + 1, 7, none⟩ (.int .i64 (T.seen 7 : Int))).setCell ⟨W.heap.size + 1, 8, none⟩ (.slice a1 n1 c1)) := ⟨_, rfl⟩
        have Y1 : Hid (V1.heap[W.heap.size + 1]? = some (.cells #[.int .i64 (T.seen 0 : Int), .int .i64 (T.seen 1 : Int), .int .i64 (T.seen 2 : Int), .int .i64 (T.seen 3 : Int), .int .i64 (T.seen 4 : Int), .int .i64 (T.seen 5 : Int), .int .i64 (T.seen 6 : Int), .int .i64 (T.seen 7 : Int), .slice a1 n1 c1] 34 (0, 0))) := Lib.hid (by rw [hV1]; exact set_nine Z6.out)
        have Y2 : Hid (V1.heap[W.heap.size + 1 + 1]? = some (.cells #[.int .i64 0, .int .i64 0, .int .i64 0, .int .i64 0, .int .i64 0, .int .i64 0, .int .i64 0, .int .i64 0, .slice none 0 0] 36 (0, 0))) := Lib.hid (by rw [hV1]; exact (heap_set9 _ _ _ _ _ _ _ _ _ _ _ _ (by omega)).trans Z7.out)
        have X4 := Lib.hid hS.1
        have X5 := Lib.hid hS.2
        have EB := Lib.hid (show Below W.heap.size W V1 by rw [hV1]; exact below_set9 _ _ _ _ _ _ _ _ _ HF.out.bel (by omega))
        have E1 := Lib.hid (show Held V1 (m + 1) T a1 n1 by rw [hV1]; exact ⟨El.only HF.out.hs.el u0 (fun b o hb => cell_set9 _ _ _ _ _ _ _ _ _ _ _ _ _ hb) (by simp), HF.out.hs.ok⟩)
        have E2 := Lib.hid (show HeldR V1 (m + 1) T a2 n2 c2 by rw [hV1]; exact ⟨El.only HF.out.hr.el u0 (fun b o hb => cell_set9 _ _ _ _ _ _ _ _ _ _ _ _ _ hb) (by simp), HF.out.hr.ok, HF.out.hr.nc, HF.out.hr.cm⟩)
        clear hS
        replace X4 := Lib.hid (show Box V1 B4 _ _ by rw [hV1]; exact X4.out)
        replace X5 := Lib.hid (show Box V1 B5 _ _ by rw [hV1]; exact X5.out)
        have hS := And.intro X4.out X5.out
        rw [← hV1]
        clear hV1 u0 u1 u2 u3 u4 u5 u6 u7 u8 v0 v1 v2 v3 v4 v5 v6 v7 v8 f0 f1 f2 f3 f4 f5 f6 f7 f8 e0 e1 e2 e3 e4 e5 e6 e7 e8
        obtain ⟨u0, u1, u2, u3, u4, u5, u6, u7, u8⟩ := cell_nine Y2.out
        have f0 := free_nine Y2.out 0; have f1 := free_nine Y2.out 1; have f2 := free_nine Y2.out 2; have f3 := free_nine Y2.out 3; have f4 := free_nine Y2.out 4; have f5 := free_nine Y2.out 5; have f6 := free_nine Y2.out 6; have f7 := free_nine Y2.out 7; have f8 := free_nine Y2.out 8
        refine wpAnyH_ready (rs := [6]) (by kernel_rfl) (by simp) ?_
        refine AllReadyH.cons rfl (fun K hK => ?_) AllReadyH.nil
        try go_simp
        refine hK.out _ _ ⟨(heap_set9 _ _ _ _ _ _ _ _ _ _ _ _ (by omega)).trans X4.out, (heap_set9 _ _ _ _ _ _ _ _ _ _ _ _ (by omega)).trans X5.out⟩ (fun hS => ?_)
        clear hK K
        try simp only [Act.put, List.getElem_toArray, List.getElem_cons_succ, List.getElem_cons_zero, List.setIfInBounds_toArray, List.set_cons_zero, List.set_cons_succ]
        refine wpAnyH_take (i := 7) (v := ?vb7) rfl (by kernel_rfl) (by kernel_rfl) (by kernel_rfl) (fun _ _ _ h => h) (Or.inl ⟨by rfl, ?hyb7⟩) hS ?restb7
        case hyb7 => (intro w hSw; obtain ⟨hs4, hs5⟩ := hSw; obtain ⟨g0, g1, g2, g3, g4, g5, g6, g7, g8⟩ := cell_nine hs4; obtain ⟨k0, k1, k2, k3, k4, k5, k6, k7, k8⟩ := cell_nine hs5; clear hs4 hs5; first | (go_simp; done) | (go_simp; with_reducible rfl))
        try simp only [Act.put, List.getElem_toArray, List.getElem_cons_succ, List.getElem_cons_zero, List.setIfInBounds_toArray, List.set_cons_zero, List.set_cons_succ]
        refine wpAnyH_done (by kernel_rfl) ?_ _
        go_wp2_with fail
        refine bodyPost_ret (v := .tuple #[.agg #[.int .i64 (T.seen 0 : Int), .int .i64 (T.seen 1 : Int), .int .i64 (T.seen 2 : Int), .int .i64 (T.seen 3 : Int), .int .i64 (T.seen 4 : Int), .int .i64 (T.seen 5 : Int), .int .i64 (T.seen 6 : Int), .int .i64 (T.seen 7 : Int), .slice a1 n1 c1], .agg #[.int .i64 (T.seen 0 : Int), .int .i64 (T.seen 1 : Int), .int .i64 (T.seen 2 : Int), .int .i64 (T.seen 3 : Int), .int .i64 (T.seen 4 : Int), .int .i64 (T.seen 5 : Int), .int .i64 (T.seen 6 : Int), .int .i64 (T.seen 7 : Int), .slice a2 n2 c2], .bool true]) (results_cells2 Try.results29 _ _ (W.heap.size + 1) (W.heap.size + 1 + 1) 34 36 #[.int .i64 (T.seen 0 : Int), .int .i64 (T.seen 1 : Int), .int .i64 (T.seen 2 : Int), .int .i64 (T.seen 3 : Int), .int .i64 (T.seen 4 : Int), .int .i64 (T.seen 5 : Int), .int .i64 (T.seen 6 : Int), .int .i64 (T.seen 7 : Int), .slice a1 n1 c1] #[.int .i64 (T.seen 0 : Int), .int .i64 (T.seen 1 : Int), .int .i64 (T.seen 2 : Int), .int .i64 (T.seen 3 : Int), .int .i64 (T.seen 4 : Int), .int .i64 (T.seen 5 : Int), .int .i64 (T.seen 6 : Int), .int .i64 (T.seen 7 : Int), .slice a2 n2 c2] (0, 0) (0, 0) _ _ rfl ((heap_set9 _ _ _ _ _ _ _ _ _ _ _ _ (by omega)).trans Y1.out) Try.underlying34 (by kernel_rfl) (by kernel_rfl) rfl (set_nine Y2.out) Try.underlying36 (by kernel_rfl) (by kernel_rfl)) rfl ?_
        exact ⟨T, a1, n1, c1, a2, n2, c2, rfl, ⟨El.only E1.out.el u0 (fun b o hb => cell_set9 _ _ _ _ _ _ _ _ _ _ _ _ _ hb) (by simp), E1.out.ok⟩, ⟨El.only E2.out.el u0 (fun b o hb => cell_set9 _ _ _ _ _ _ _ _ _ _ _ _ _ hb) (by simp), E2.out.ok, E2.out.nc, E2.out.cm⟩, below_set9 _ _ _ _ _ _ _ _ _ EB.out (by omega)⟩
      · have m1 : (((x.kind : Int) % 4) == 2) = false := by simp; omega
        have m2 : (((x.kind : Int) % 4) == 3) = false := by simp; omega
        go_upto_region 9 with fail
        clear m1 m2 hk2 hk3 hkd2 hkd3 J2 J4 g2 g4
        obtain ⟨er, U, hUok, hU1, hU2, hPt, hPr⟩ := putBoth ta.T J1.out.ok (by omega) x.site x.key x.val
        have HPT := Lib.hid (fun (w : World) (h : Held w m ta.T ta.ao ta.n) => hPt w ta.ao ta.n ta.c h)
        have HPR := Lib.hid (fun (w : World) (h : HeldR w m ta.T ra.ao ra.n ra.c) => hPr w ra.ao ra.n ra.c h)
        clear hPt hPr hUok hU1 hU2
        go_wp2_with fail
        rename_i hK0
        obtain ⟨p0, p1, p2, p3, p4, p5, p6, p7, p8⟩ := g1
        refine made_putT U er x ta m nn cp pa W.heap.size gT _ (by kernel_rfl) rfl rfl rfl rfl rfl rfl rfl rfl rfl rfl rfl rfl rfl rfl rfl rfl rfl rfl (block_lt_of_cell d0) d0 d1 d2 d3 d4 d5 (block_lt_of_cell p0) p0 p1 p2 p3 p4 p5 p6 p7 p8 rfl rfl hpan hnn (by omega) J1.out HPT ?_
        intro w5 B4 T a1 n1 c1 d10 d11 hb hB4 hx4 hT4 hh4
        replace TX := Lib.hid (row_keep hb TX.out)
        replace T6 := Lib.hid (row_keep hb T6.out)
        replace T7 := Lib.hid (row_keep hb T7.out)
        replace J3 := Lib.hid (J3.out.keep hb)
        have g3' := slotAt_keep g3 hb
        replace HBV := Lib.hid (HBV.out.trans (hb.mono HBV.out.size))
        have hcs5 : W.heap.size + 1 + 1 < w5.heap.size := Nat.lt_of_lt_of_le hcs hb.size
        have hd4 : W.heap.size + 1 + 1 < B4 := by omega
        have HX4 := Lib.hid hx4
        have HH4 := Lib.hid hh4
        have HT4 := Lib.hid hT4
        clear p0 p1 p2 p3 p4 p5 p6 p7 p8 d0 d1 d2 d3 d4 d5 J1 g3 hcs hb hB4 hx4 hT4 hh4 HPT
        obtain ⟨d0, d1, d2, d3, d4, d5⟩ := cell6 TX.out
        obtain ⟨r0, r1, r2, r3, r4, r5, r6, r7, r8⟩ := g3'
        refine hK0 _ _ ?_
        simp only [puts, Act.put]
        go_simp
        clear hK0
        go_wp2_with fail
        rename_i hK1
        refine made_putR U er x ta ra m nn cq pa W.heap.size gR _ (by kernel_rfl) rfl rfl rfl rfl rfl rfl rfl rfl rfl rfl rfl rfl rfl rfl rfl rfl rfl rfl (block_lt_of_cell d0) d0 d1 d2 d3 d4 d5 (block_lt_of_cell r0) r0 r1 r2 r3 r4 r5 r6 r7 r8 rfl rfl hpan hnn (by omega) J3.out HPR ?_
        intro w7 B5 T5 a2 n2 c2 e10 e11 hb hB5 hx5 hT5 hh5
        obtain rfl : T = T5 := HT4.out.trans hT5.symm
        have F : MadeF W w7 m T a1 n1 c1 a2 n2 c2 B4 B5 := ⟨row_keep hb HX4.out, hx5, HH4.out.keep hb, hh5, row_keep hb T6.out, row_keep hb T7.out, hd4, by omega, HBV.out.trans (hb.mono HBV.out.size)⟩
        clear r0 r1 r2 r3 r4 r5 r6 r7 r8 d0 d1 d2 d3 d4 d5 J3 T6 T7 TX HBV HV hx5 hh5 hb hB5 hT5 HT4 HX4 HH4 HPR hcs5 hd4
        refine hK1 _ _ ?_
        simp only [puts, Act.put]
        go_simp
        clear hK1
        have heq : (er == er) = true := beq_self_eq_true er
        go_wp2_with fail
        refine wp_region_held_drew (S := fun w' => Box w' B4 34 #[.int .i64 (T.seen 0 : Int), .int .i64 (T.seen 1 : Int), .int .i64 (T.seen 2 : Int), .int .i64 (T.seen 3 : Int), .int .i64 (T.seen 4 : Int), .int .i64 (T.seen 5 : Int), .int .i64 (T.seen 6 : Int), .int .i64 (T.seen 7 : Int), .slice a1 n1 c1] ∧ Box w' B5 36 #[.int .i64 (T.seen 0 : Int), .int .i64 (T.seen 1 : Int), .int .i64 (T.seen 2 : Int), .int .i64 (T.seen 3 : Int), .int .i64 (T.seen 4 : Int), .int .i64 (T.seen 5 : Int), .int .i64 (T.seen 6 : Int), .int .i64 (T.seen 7 : Int), .slice a2 n2 c2]) (by kernel_rfl) ⟨F.s, F.r⟩ (fun hS => ?_)
        refine wpAnyH_take (i := 0) (v := ?vc0) rfl (by kernel_rfl) (by kernel_rfl) (by kernel_rfl) (fun _ _ _ h => h) (Or.inl ⟨by rfl, ?hyc0⟩) hS ?restc0
        case hyc0 => (intro w hSw; obtain ⟨hs4, hs5⟩ := hSw; obtain ⟨g0, g1, g2, g3, g4, g5, g6, g7, g8⟩ := cell_nine hs4; obtain ⟨k0, k1, k2, k3, k4, k5, k6, k7, k8⟩ := cell_nine hs5; clear hs4 hs5; first | (go_simp; done) | (go_simp; with_reducible rfl))
        try simp only [Act.put, List.getElem_toArray, List.getElem_cons_succ, List.getElem_cons_zero, List.setIfInBounds_toArray, List.set_cons_zero, List.set_cons_succ]
        refine wpAnyH_take (i := 1) (v := ?vc1) rfl (by kernel_rfl) (by kernel_rfl) (by kernel_rfl) (fun _ _ _ h => h) (Or.inl ⟨by rfl, ?hyc1⟩) hS ?restc1
        case hyc1 => (intro w hSw; obtain ⟨hs4, hs5⟩ := hSw; obtain ⟨g0, g1, g2, g3, g4, g5, g6, g7, g8⟩ := cell_nine hs4; obtain ⟨k0, k1, k2, k3, k4, k5, k6, k7, k8⟩ := cell_nine hs5; clear hs4 hs5; first | (go_simp; done) | (go_simp; with_reducible rfl))
        try simp only [Act.put, List.getElem_toArray, List.getElem_cons_succ, List.getElem_cons_zero, List.setIfInBounds_toArray, List.set_cons_zero, List.set_cons_succ]
        refine wpAnyH_take (i := 2) (v := ?vc2) rfl (by kernel_rfl) (by kernel_rfl) (by kernel_rfl) (fun _ _ _ h => h) (Or.inl ⟨by rfl, ?hyc2⟩) hS ?restc2
        case hyc2 => (intro w hSw; obtain ⟨hs4, hs5⟩ := hSw; obtain ⟨g0, g1, g2, g3, g4, g5, g6, g7, g8⟩ := cell_nine hs4; obtain ⟨k0, k1, k2, k3, k4, k5, k6, k7, k8⟩ := cell_nine hs5; clear hs4 hs5; first | (go_simp; done) | (go_simp; with_reducible rfl))
        try simp only [Act.put, List.getElem_toArray, List.getElem_cons_succ, List.getElem_cons_zero, List.setIfInBounds_toArray, List.set_cons_zero, List.set_cons_succ]
        refine wpAnyH_take (i := 3) (v := ?vc3) rfl (by kernel_rfl) (by kernel_rfl) (by kernel_rfl) (fun _ _ _ h => h) (Or.inl ⟨by rfl, ?hyc3⟩) hS ?restc3
        case hyc3 => (intro w hSw; obtain ⟨hs4, hs5⟩ := hSw; obtain ⟨g0, g1, g2, g3, g4, g5, g6, g7, g8⟩ := cell_nine hs4; obtain ⟨k0, k1, k2, k3, k4, k5, k6, k7, k8⟩ := cell_nine hs5; clear hs4 hs5; first | (go_simp; done) | (go_simp; with_reducible rfl))
        try simp only [Act.put, List.getElem_toArray, List.getElem_cons_succ, List.getElem_cons_zero, List.setIfInBounds_toArray, List.set_cons_zero, List.set_cons_succ]
        refine wpAnyH_take (i := 4) (v := ?vc4) rfl (by kernel_rfl) (by kernel_rfl) (by kernel_rfl) (fun _ _ _ h => h) (Or.inl ⟨by rfl, ?hyc4⟩) hS ?restc4
        case hyc4 => (intro w hSw; obtain ⟨hs4, hs5⟩ := hSw; obtain ⟨g0, g1, g2, g3, g4, g5, g6, g7, g8⟩ := cell_nine hs4; obtain ⟨k0, k1, k2, k3, k4, k5, k6, k7, k8⟩ := cell_nine hs5; clear hs4 hs5; first | (go_simp; done) | (go_simp; with_reducible rfl))
        try simp only [Act.put, List.getElem_toArray, List.getElem_cons_succ, List.getElem_cons_zero, List.setIfInBounds_toArray, List.set_cons_zero, List.set_cons_succ]
        refine wpAnyH_take (i := 5) (v := ?vc5) rfl (by kernel_rfl) (by kernel_rfl) (by kernel_rfl) (fun _ _ _ h => h) (Or.inl ⟨by rfl, ?hyc5⟩) hS ?restc5
        case hyc5 => (intro w hSw; obtain ⟨hs4, hs5⟩ := hSw; obtain ⟨g0, g1, g2, g3, g4, g5, g6, g7, g8⟩ := cell_nine hs4; obtain ⟨k0, k1, k2, k3, k4, k5, k6, k7, k8⟩ := cell_nine hs5; clear hs4 hs5; first | (go_simp; done) | (go_simp; with_reducible rfl))
        try simp only [Act.put, List.getElem_toArray, List.getElem_cons_succ, List.getElem_cons_zero, List.setIfInBounds_toArray, List.set_cons_zero, List.set_cons_succ]
        refine wpAnyH_take (i := 6) (v := ?vc6) rfl (by kernel_rfl) (by kernel_rfl) (by kernel_rfl) (fun _ _ _ h => h) (Or.inl ⟨by rfl, ?hyc6⟩) hS ?restc6
        case hyc6 => (intro w hSw; obtain ⟨hs4, hs5⟩ := hSw; obtain ⟨g0, g1, g2, g3, g4, g5, g6, g7, g8⟩ := cell_nine hs4; obtain ⟨k0, k1, k2, k3, k4, k5, k6, k7, k8⟩ := cell_nine hs5; clear hs4 hs5; first | (go_simp; done) | (go_simp; with_reducible rfl))
        try simp only [Act.put, List.getElem_toArray, List.getElem_cons_succ, List.getElem_cons_zero, List.setIfInBounds_toArray, List.set_cons_zero, List.set_cons_succ]
        refine wpAnyH_take (i := 7) (v := ?vc7) rfl (by kernel_rfl) (by kernel_rfl) (by kernel_rfl) (fun _ _ _ h => h) (Or.inl ⟨by rfl, ?hyc7⟩) hS ?restc7
        case hyc7 => (intro w hSw; obtain ⟨hs4, hs5⟩ := hSw; obtain ⟨g0, g1, g2, g3, g4, g5, g6, g7, g8⟩ := cell_nine hs4; obtain ⟨k0, k1, k2, k3, k4, k5, k6, k7, k8⟩ := cell_nine hs5; clear hs4 hs5; first | (go_simp; done) | (go_simp; with_reducible rfl))
        try simp only [Act.put, List.getElem_toArray, List.getElem_cons_succ, List.getElem_cons_zero, List.setIfInBounds_toArray, List.set_cons_zero, List.set_cons_succ]
        refine wpAnyH_ready (rs := [8]) (by kernel_rfl) (by simp) ?_
        refine AllReadyH.cons rfl (fun K hK => ?_) AllReadyH.nil
        try go_simp
        go_at_call 10
        refine (sameA c1 c2 (F.hs.keep (drew_below _)) (F.hr.keep (drew_below _)) (by omega)).mono ?_
        rintro e w6 ⟨rfl, hb6⟩
        replace F := F.keep ((drew_below _).trans hb6)
        clear hb6
        refine hK.out _ _ ⟨F.s, F.r⟩ (fun hS => ?_)
        clear hK K
        try simp only [Act.put, List.getElem_toArray, List.getElem_cons_succ, List.getElem_cons_zero, List.setIfInBounds_toArray, List.set_cons_zero, List.set_cons_succ]
        refine wpAnyH_take (i := 9) (v := ?vc9) rfl (by kernel_rfl) (by kernel_rfl) (by kernel_rfl) (fun _ _ _ h => h) (Or.inl ⟨by rfl, ?hyc9⟩) hS ?restc9
        case hyc9 => (intro w hSw; obtain ⟨hs4, hs5⟩ := hSw; obtain ⟨g0, g1, g2, g3, g4, g5, g6, g7, g8⟩ := cell_nine hs4; obtain ⟨k0, k1, k2, k3, k4, k5, k6, k7, k8⟩ := cell_nine hs5; clear hs4 hs5; first | (go_simp; done) | (go_simp; with_reducible rfl))
        try simp only [Act.put, List.getElem_toArray, List.getElem_cons_succ, List.getElem_cons_zero, List.setIfInBounds_toArray, List.set_cons_zero, List.set_cons_succ]
        have Z6 := Lib.hid F.z6
        have Z7 := Lib.hid F.z7
        obtain ⟨u0, u1, u2, u3, u4, u5, u6, u7, u8⟩ := cell_nine Z6.out
        have f0 := free_nine Z6.out 0; have f1 := free_nine Z6.out 1; have f2 := free_nine Z6.out 2; have f3 := free_nine Z6.out 3; have f4 := free_nine Z6.out 4; have f5 := free_nine Z6.out 5; have f6 := free_nine Z6.out 6; have f7 := free_nine Z6.out 7; have f8 := free_nine Z6.out 8
        obtain ⟨v0, v1, v2, v3, v4, v5, v6, v7, v8⟩ := cell_nine Z7.out
        have e0 := free_nine Z7.out 0; have e1 := free_nine Z7.out 1; have e2 := free_nine Z7.out 2; have e3 := free_nine Z7.out 3; have e4 := free_nine Z7.out 4; have e5 := free_nine Z7.out 5; have e6 := free_nine Z7.out 6; have e7 := free_nine Z7.out 7; have e8 := free_nine Z7.out 8
        have hd4 := F.d4
        have hd5 := F.d5
        have HF := Lib.hid F
        clear F
        refine wpAnyH_ready (rs := [10]) (by kernel_rfl) (by simp) ?_
        refine AllReadyH.cons rfl (fun K hK => ?_) AllReadyH.nil
        try go_simp
        refine hK.out _ _ ⟨(heap_set9 _ _ _ _ _ _ _ _ _ _ _ _ (by omega)).trans HF.out.s, (heap_set9 _ _ _ _ _ _ _ _ _ _ _ _ (by omega)).trans HF.out.r⟩ (fun hS => ?_)
        clear hK K
        try simp only [Act.put, List.getElem_toArray, List.getElem_cons_succ, List.getElem_cons_zero, List.setIfInBounds_toArray, List.set_cons_zero, List.set_cons_succ]
        obtain ⟨V1, hV1⟩ : ∃ V1, V1 = (((((((((w6.setCell ⟨W.heap.size + 1, 0, none⟩ (.int .i64 (T.seen 0 : Int))).setCell ⟨W.heap.size + 1, 1, none⟩ (.int .i64 (T.seen 1 : Int))).setCell ⟨W.heap.size + 1, 2, none⟩ (.int .i64 (T.seen 2 : Int))).setCell ⟨W.heap.size + 1, 3, none⟩ (.int .i64 (T.seen 3 : Int))).setCell ⟨W.heap.size + 1, 4, none⟩ (.int .i64 (T.seen 4 : Int))).setCell ⟨W.heap.size + 1, 5, none⟩ (.int .i64 (T.seen 5 : Int))).setCell ⟨W.heap.size + 1, 6, none⟩ (.int .i64 (T.seen 6 : Int))).setCell ⟨W.heap.size + 1, 7, none⟩ (.int .i64 (T.seen 7 : Int))).setCell ⟨W.heap.size + 1, 8, none⟩ (.slice a1 n1 c1)) := ⟨_, rfl⟩
        have Y1 : Hid (V1.heap[W.heap.size + 1]? = some (.cells #[.int .i64 (T.seen 0 : Int), .int .i64 (T.seen 1 : Int), .int .i64 (T.seen 2 : Int), .int .i64 (T.seen 3 : Int), .int .i64 (T.seen 4 : Int), .int .i64 (T.seen 5 : Int), .int .i64 (T.seen 6 : Int), .int .i64 (T.seen 7 : Int), .slice a1 n1 c1] 34 (0, 0))) := Lib.hid (by rw [hV1]; exact set_nine Z6.out)
        have Y2 : Hid (V1.heap[W.heap.size + 1 + 1]? = some (.cells #[.int .i64 0, .int .i64 0, .int .i64 0, .int .i64 0, .int .i64 0, .int .i64 0, .int .i64 0, .int .i64 0, .slice none 0 0] 36 (0, 0))) := Lib.hid (by rw [hV1]; exact (heap_set9 _ _ _ _ _ _ _ _ _ _ _ _ (by omega)).trans Z7.out)
        have X4 := Lib.hid hS.1
        have X5 := Lib.hid hS.2
        have EB := Lib.hid (show Below W.heap.size W V1 by rw [hV1]; exact below_set9 _ _ _ _ _ _ _ _ _ HF.out.bel (by omega))
        have E1 := Lib.hid (show Held V1 (m + 1) T a1 n1 by rw [hV1]; exact ⟨El.only HF.out.hs.el u0 (fun b o hb => cell_set9 _ _ _ _ _ _ _ _ _ _ _ _ _ hb) (by simp), HF.out.hs.ok⟩)
        have E2 := Lib.hid (show HeldR V1 (m + 1) T a2 n2 c2 by rw [hV1]; exact ⟨El.only HF.out.hr.el u0 (fun b o hb => cell_set9 _ _ _ _ _ _ _ _ _ _ _ _ _ hb) (by simp), HF.out.hr.ok, HF.out.hr.nc, HF.out.hr.cm⟩)
        clear hS
        replace X4 := Lib.hid (show Box V1 B4 _ _ by rw [hV1]; exact X4.out)
        replace X5 := Lib.hid (show Box V1 B5 _ _ by rw [hV1]; exact X5.out)
        have hS := And.intro X4.out X5.out
        rw [← hV1]
        clear hV1 u0 u1 u2 u3 u4 u5 u6 u7 u8 v0 v1 v2 v3 v4 v5 v6 v7 v8 f0 f1 f2 f3 f4 f5 f6 f7 f8 e0 e1 e2 e3 e4 e5 e6 e7 e8
        obtain ⟨u0, u1, u2, u3, u4, u5, u6, u7, u8⟩ := cell_nine Y2.out
        have f0 := free_nine Y2.out 0; have f1 := free_nine Y2.out 1; have f2 := free_nine Y2.out 2; have f3 := free_nine Y2.out 3; have f4 := free_nine Y2.out 4; have f5 := free_nine Y2.out 5; have f6 := free_nine Y2.out 6; have f7 := free_nine Y2.out 7; have f8 := free_nine Y2.out 8
        refine wpAnyH_ready (rs := [11]) (by kernel_rfl) (by simp) ?_
        refine AllReadyH.cons rfl (fun K hK => ?_) AllReadyH.nil
        try go_simp
        refine hK.out _ _ ⟨(heap_set9 _ _ _ _ _ _ _ _ _ _ _ _ (by omega)).trans X4.out, (heap_set9 _ _ _ _ _ _ _ _ _ _ _ _ (by omega)).trans X5.out⟩ (fun hS => ?_)
        clear hK K
        try simp only [Act.put, List.getElem_toArray, List.getElem_cons_succ, List.getElem_cons_zero, List.setIfInBounds_toArray, List.set_cons_zero, List.set_cons_succ]
        refine wpAnyH_take (i := 12) (v := ?vc12) rfl (by kernel_rfl) (by kernel_rfl) (by kernel_rfl) (fun _ _ _ h => h) (Or.inl ⟨by rfl, ?hyc12⟩) hS ?restc12
        case hyc12 => (intro w hSw; obtain ⟨hs4, hs5⟩ := hSw; obtain ⟨g0, g1, g2, g3, g4, g5, g6, g7, g8⟩ := cell_nine hs4; obtain ⟨k0, k1, k2, k3, k4, k5, k6, k7, k8⟩ := cell_nine hs5; clear hs4 hs5; first | (go_simp; done) | (go_simp; with_reducible rfl))
        try simp only [Act.put, List.getElem_toArray, List.getElem_cons_succ, List.getElem_cons_zero, List.setIfInBounds_toArray, List.set_cons_zero, List.set_cons_succ]
        refine wpAnyH_done (by kernel_rfl) ?_ _
        go_wp2_with fail
        refine bodyPost_ret (v := .tuple #[.agg #[.int .i64 (T.seen 0 : Int), .int .i64 (T.seen 1 : Int), .int .i64 (T.seen 2 : Int), .int .i64 (T.seen 3 : Int), .int .i64 (T.seen 4 : Int), .int .i64 (T.seen 5 : Int), .int .i64 (T.seen 6 : Int), .int .i64 (T.seen 7 : Int), .slice a1 n1 c1], .agg #[.int .i64 (T.seen 0 : Int), .int .i64 (T.seen 1 : Int), .int .i64 (T.seen 2 : Int), .int .i64 (T.seen 3 : Int), .int .i64 (T.seen 4 : Int), .int .i64 (T.seen 5 : Int), .int .i64 (T.seen 6 : Int), .int .i64 (T.seen 7 : Int), .slice a2 n2 c2], .bool true]) (results_cells2 Try.results29 _ _ (W.heap.size + 1) (W.heap.size + 1 + 1) 34 36 #[.int .i64 (T.seen 0 : Int), .int .i64 (T.seen 1 : Int), .int .i64 (T.seen 2 : Int), .int .i64 (T.seen 3 : Int), .int .i64 (T.seen 4 : Int), .int .i64 (T.seen 5 : Int), .int .i64 (T.seen 6 : Int), .int .i64 (T.seen 7 : Int), .slice a1 n1 c1] #[.int .i64 (T.seen 0 : Int), .int .i64 (T.seen 1 : Int), .int .i64 (T.seen 2 : Int), .int .i64 (T.seen 3 : Int), .int .i64 (T.seen 4 : Int), .int .i64 (T.seen 5 : Int), .int .i64 (T.seen 6 : Int), .int .i64 (T.seen 7 : Int), .slice a2 n2 c2] (0, 0) (0, 0) _ _ rfl ((heap_set9 _ _ _ _ _ _ _ _ _ _ _ _ (by omega)).trans Y1.out) Try.underlying34 (by kernel_rfl) (by kernel_rfl) rfl (set_nine Y2.out) Try.underlying36 (by kernel_rfl) (by kernel_rfl)) rfl ?_
        exact ⟨T, a1, n1, c1, a2, n2, c2, rfl, ⟨El.only E1.out.el u0 (fun b o hb => cell_set9 _ _ _ _ _ _ _ _ _ _ _ _ _ hb) (by simp), E1.out.ok⟩, ⟨El.only E2.out.el u0 (fun b o hb => cell_set9 _ _ _ _ _ _ _ _ _ _ _ _ _ hb) (by simp), E2.out.ok, E2.out.nc, E2.out.cm⟩, below_set9 _ _ _ _ _ _ _ _ _ EB.out (by omega)⟩
end Go.Proofs.Ytpghehckojdgeaa

/- Rows of the document's tables; a table appended to a row beside another row. No function of the program is walked here. (By gen_rtabs.py.) -/
set_option linter.unusedVariables false
set_option linter.unusedSimpArgs false
namespace Go.Proofs.Ytpghehckojdgeaa
open Go.RowKit Go.Shelf Go.Sort

/-- an own row of n ≥ 1 tables of the document, each made with at most m writes -/
structure RTabs (w : World) (base m g n cap : Nat) (l : List Slot) : Prop where
  len : l.length = n
  pos : 1 ≤ n
  own : w.ownsRow base 36 9 (.slice (some ⟨g, 0, none⟩) n cap) n (flatT l)
  held : ∀ x ∈ l, HeldR w m x.T x.ao x.n x.c
theorem RTabs.more {w : World} {base m q g n cap : Nat} {l : List Slot} (h : RTabs w base m g n cap l) (hq : m ≤ q) : RTabs w base q g n cap l := ⟨h.len, h.pos, h.own, fun x hx => (h.held x hx).more hq⟩
theorem RTabs.keep {w w' : World} {base m g n cap : Nat} {l : List Slot} (h : RTabs w base m g n cap l) (hb : Below w.heap.size w w') : RTabs w' base m g n cap l := by
  refine ⟨h.len, h.pos, ⟨h.own.1, ?_⟩, fun x hx => (h.held x hx).keep hb⟩
  rcases h.own.2 with h2 | ⟨g', cap', cur, h3, h4, h5, h6⟩
  · exact .inl h2
  · exact .inr ⟨g', cap', cur, h3, h4, (hb.block g' (Array.getElem?_eq_some_iff.1 h5).1).trans h5, h6⟩
theorem RTabs.cell {w : World} {base m g n cap : Nat} {l : List Slot} (h : RTabs w base m g n cap l) (o : Nat) (v : Value) (hv : (flatT l)[o]? = some v) : w.cell? ⟨g, o, none⟩ = some v := by
  rcases h.own.2 with ⟨h2, _⟩ | ⟨g', cap', cur, h2, hb, hg, hnc, hcm, hcs, ht⟩
  · cases h2
  · cases h2
    rw [← ht, List.getElem?_take] at hv
    split at hv
    · simp only [World.cell?, hg]
      simpa using hv
    · cases hv
theorem RTabs.at {w : World} {base m g n cap : Nat} {l : List Slot} (h : RTabs w base m g n cap l) {i : Nat} (hi : i < n) : SlotAt w g (i * 9) l[i]! ∧ HeldR w m l[i]!.T l[i]!.ao l[i]!.n l[i]!.c ∧ l[i]! ∈ l := by
  have hil : i < l.length := by rw [h.len]; exact hi
  have hm : l[i]! ∈ l := by rw [getElem!_pos l i hil]; exact List.getElem_mem hil
  refine ⟨?_, h.held _ hm, hm⟩
  have hc : ∀ c v, c < 9 → (slotC l[i]!)[c]? = some v → w.cell? ⟨g, i * 9 + c, none⟩ = some v := fun c v hc hv => h.cell _ _ (by rw [flatT_get _ _ _ hc, List.getElem?_eq_getElem hil, ← getElem!_pos l i hil]; exact hv)
  exact ⟨hc 0 _ (by omega) rfl, hc 1 _ (by omega) rfl, hc 2 _ (by omega) rfl, hc 3 _ (by omega) rfl, hc 4 _ (by omega) rfl, hc 5 _ (by omega) rfl, hc 6 _ (by omega) rfl, hc 7 _ (by omega) rfl, hc 8 _ (by omega) rfl⟩
theorem infoRT : (Try.prog.info? 36).map (fun i => (i.zero, i.size, i.bytes)) = some (some (.agg #[.int .i64 0, .int .i64 0, .int .i64 0, .int .i64 0, .int .i64 0, .int .i64 0, .int .i64 0, .int .i64 0, .slice none 0 0]), 9, 88) := by kernel_rfl


/-- a table is appended, at a step of a region that draws its order; what is elsewhere stays -/
theorem step_appT2 {w : World} {ops : Array Oper} {o : Oper} {a : Act} {K : Act → World → Prop} {Q : Exit → Act → World → Prop} {E : Prop} (hgd : o.guard = none) (s x : Operand)
    (ho : o.op = .call { callee := .builtin .append, args := #[s, x], argTypes := #[25, 25] }) (base m g n cap : Nat) (l : List Slot) (z : Slot) (H : Nat) (t : TypeId) (hH : w.heap[H]? = some (.cells (slotC z).toArray t (0, 0))) (hs : a.eval s = .slice (some ⟨g, 0, none⟩) n cap) (hown : Tabs w base m g n cap l) (hz : Held w m z.T z.ao z.n)
    (hx : a.eval x = .slice (some ⟨H, 0, none⟩) 1 1) (hn : n ≤ 1000000) (hbase : base ≤ w.heap.size)
    (h : ∀ g' cap' w', Tabs w' base m g' (n + 1) cap' (l ++ [z]) → Below base w w' → w.heap.size ≤ w'.heap.size → (∀ b, b < w.heap.size → b ≠ g → w'.heap[b]? = w.heap[b]?) → K (a.put o.dst (.slice (some ⟨g', 0, none⟩) (n + 1) cap')) w') :
    if Region.wanted o (yielded ops a.tmps) = true then Oper.wp Try.prog o a w K Q else E := by
  obtain ⟨i0, hi, hz0, hz1, hz2⟩ := info_parts infoT
  have c0 : ∃ y, w.cell? ⟨g, 0, none⟩ = some (.int .i64 y) := by
    have := (hown.at (i := 0) (by have := hown.pos; omega)).1.1
    exact ⟨_, by simpa using this⟩
  obtain ⟨y, c0⟩ := c0
  refine step_append_lies _ hgd s x 25 ho base 34 i0 _ 9 88 Try.underlying25 hi hz0 hz1 hz2 rfl (by decide) _ n (flatT l) hs hown.own ⟨H, 0, none⟩ 1 1 (slotC z) hx (by rw [slotC_len]) ?_ (slotC_one z) (by omega) (by unfold maxLen; omega) (by omega) hbase _ rfl ?_
  · intro j u hj
    rw [add_off, Nat.zero_add]
    simp only [World.cell?]
    rw [hH]
    simpa using hj
  · intro g' cap' w' hr hg _ _
    have hblk : ∀ b, b < w.heap.size → b ≠ g → w'.heap[b]? = w.heap[b]? := fun b hb hne => hg.block b hb (fun e => hne (by simpa [Value.ownBlock] using e))
    have hk : ∀ b o, b < w.heap.size → b ≠ g → w'.cell? ⟨b, o, none⟩ = w.cell? ⟨b, o, none⟩ := fun b o hb hne => World.cell?_of_block (a := ⟨b, o, none⟩) (hblk b hb hne)
    refine h g' cap' w' ⟨by rw [List.length_append, hown.len]; rfl, by omega, by rw [flatT_app]; simpa [flatT] using hr, fun u hu => ?_⟩ ((Below.refl base w).grown hg hbase (fun j hj => (World.ownsRow.lt hown.own j hj).1)) hg.size hblk
    rcases List.mem_append.1 hu with hu | hu
    · exact ⟨(hown.held u hu).el.far c0 hk hg.size, (hown.held u hu).ok⟩
    · rw [List.mem_singleton] at hu
      subst hu
      exact ⟨hz.el.far c0 hk hg.size, hz.ok⟩

/-- a table is appended, at a step of a region that draws its order; what is elsewhere stays -/
theorem step_appR2 {w : World} {ops : Array Oper} {o : Oper} {a : Act} {K : Act → World → Prop} {Q : Exit → Act → World → Prop} {E : Prop} (hgd : o.guard = none) (s x : Operand)
    (ho : o.op = .call { callee := .builtin .append, args := #[s, x], argTypes := #[26, 26] }) (base m g n cap : Nat) (l : List Slot) (z : Slot) (H : Nat) (t : TypeId) (hH : w.heap[H]? = some (.cells (slotC z).toArray t (0, 0))) (hs : a.eval s = .slice (some ⟨g, 0, none⟩) n cap) (hown : RTabs w base m g n cap l) (hz : HeldR w m z.T z.ao z.n z.c)
    (hx : a.eval x = .slice (some ⟨H, 0, none⟩) 1 1) (hn : n ≤ 1000000) (hbase : base ≤ w.heap.size)
    (h : ∀ g' cap' w', RTabs w' base m g' (n + 1) cap' (l ++ [z]) → Below base w w' → w.heap.size ≤ w'.heap.size → (∀ b, b < w.heap.size → b ≠ g → w'.heap[b]? = w.heap[b]?) → K (a.put o.dst (.slice (some ⟨g', 0, none⟩) (n + 1) cap')) w') :
    if Region.wanted o (yielded ops a.tmps) = true then Oper.wp Try.prog o a w K Q else E := by
  obtain ⟨i0, hi, hz0, hz1, hz2⟩ := info_parts infoRT
  have c0 : ∃ y, w.cell? ⟨g, 0, none⟩ = some (.int .i64 y) := by
    have := (hown.at (i := 0) (by have := hown.pos; omega)).1.1
    exact ⟨_, by simpa using this⟩
  obtain ⟨y, c0⟩ := c0
  refine step_append_lies _ hgd s x 26 ho base 36 i0 _ 9 88 Try.underlying26 hi hz0 hz1 hz2 rfl (by decide) _ n (flatT l) hs hown.own ⟨H, 0, none⟩ 1 1 (slotC z) hx (by rw [slotC_len]) ?_ (slotC_one z) (by omega) (by unfold maxLen; omega) (by omega) hbase _ rfl ?_
  · intro j u hj
    rw [add_off, Nat.zero_add]
    simp only [World.cell?]
    rw [hH]
    simpa using hj
  · intro g' cap' w' hr hg _ _
    have hblk : ∀ b, b < w.heap.size → b ≠ g → w'.heap[b]? = w.heap[b]? := fun b hb hne => hg.block b hb (fun e => hne (by simpa [Value.ownBlock] using e))
    have hk : ∀ b o, b < w.heap.size → b ≠ g → w'.cell? ⟨b, o, none⟩ = w.cell? ⟨b, o, none⟩ := fun b o hb hne => World.cell?_of_block (a := ⟨b, o, none⟩) (hblk b hb hne)
    refine h g' cap' w' ⟨by rw [List.length_append, hown.len]; rfl, by omega, by rw [flatT_app]; simpa [flatT] using hr, fun u hu => ?_⟩ ((Below.refl base w).grown hg hbase (fun j hj => (World.ownsRow.lt hown.own j hj).1)) hg.size hblk
    rcases List.mem_append.1 hu with hu | hu
    · exact ⟨(hown.held u hu).el.far c0 hk hg.size, (hown.held u hu).ok, (hown.held u hu).nc, (hown.held u hu).cm⟩
    · rw [List.mem_singleton] at hu
      subst hu
      exact ⟨hz.el.far c0 hk hg.size, hz.ok, hz.nc, hz.cm⟩
theorem Tabs.far {w w' : World} {base m g n cap T : Nat} {z : Int} {l : List Slot} (h : Tabs w base m g n cap l) (hne : g ≠ T) (hT : w.cell? ⟨T, 0, none⟩ = some (.int .i64 z)) (hk : ∀ b, b < w.heap.size → b ≠ T → w'.heap[b]? = w.heap[b]?) (hs : w.heap.size ≤ w'.heap.size) : Tabs w' base m g n cap l := by
  refine ⟨h.len, h.pos, ⟨h.own.1, ?_⟩, fun x hx => ⟨(h.held x hx).el.far hT (fun b o hb hn => World.cell?_of_block (a := ⟨b, o, none⟩) (hk b hb hn)) hs, (h.held x hx).ok⟩⟩
  rcases h.own.2 with h2 | ⟨g', cap', cur, h3, h4, h5, h6⟩
  · exact .inl h2
  · have e : g' = g := by cases h3; rfl
    subst e
    exact .inr ⟨g', cap', cur, h3, h4, (hk g' (Array.getElem?_eq_some_iff.1 h5).1 hne).trans h5, h6⟩
theorem Tabs.int {w : World} {base m g n cap : Nat} {l : List Slot} (h : Tabs w base m g n cap l) : ∃ z : Int, w.cell? ⟨g, 0, none⟩ = some (.int .i64 z) := ⟨_, by have := (h.at (i := 0) (by have := h.pos; omega)).1.1; simpa using this⟩
theorem Tabs.block {w : World} {base m g n cap : Nat} {l : List Slot} (h : Tabs w base m g n cap l) : ∃ cur, w.heap[g]? = some (.cells cur 34 (0, 0)) := by
  rcases h.own.2 with ⟨h2, _⟩ | ⟨g', cap', cur, h2, hb, hg, _⟩
  · cases h2
  · cases h2; exact ⟨cur, hg⟩
theorem Tabs.lt {w : World} {base m g n cap : Nat} {l : List Slot} (h : Tabs w base m g n cap l) : g < w.heap.size := by obtain ⟨c, hc⟩ := h.block; exact (Array.getElem?_eq_some_iff.1 hc).1
theorem RTabs.far {w w' : World} {base m g n cap T : Nat} {z : Int} {l : List Slot} (h : RTabs w base m g n cap l) (hne : g ≠ T) (hT : w.cell? ⟨T, 0, none⟩ = some (.int .i64 z)) (hk : ∀ b, b < w.heap.size → b ≠ T → w'.heap[b]? = w.heap[b]?) (hs : w.heap.size ≤ w'.heap.size) : RTabs w' base m g n cap l := by
  refine ⟨h.len, h.pos, ⟨h.own.1, ?_⟩, fun x hx => ⟨(h.held x hx).el.far hT (fun b o hb hn => World.cell?_of_block (a := ⟨b, o, none⟩) (hk b hb hn)) hs, (h.held x hx).ok, (h.held x hx).nc, (h.held x hx).cm⟩⟩
  rcases h.own.2 with h2 | ⟨g', cap', cur, h3, h4, h5, h6⟩
  · exact .inl h2
  · have e : g' = g := by cases h3; rfl
    subst e
    exact .inr ⟨g', cap', cur, h3, h4, (hk g' (Array.getElem?_eq_some_iff.1 h5).1 hne).trans h5, h6⟩
theorem RTabs.int {w : World} {base m g n cap : Nat} {l : List Slot} (h : RTabs w base m g n cap l) : ∃ z : Int, w.cell? ⟨g, 0, none⟩ = some (.int .i64 z) := ⟨_, by have := (h.at (i := 0) (by have := h.pos; omega)).1.1; simpa using this⟩
theorem RTabs.block {w : World} {base m g n cap : Nat} {l : List Slot} (h : RTabs w base m g n cap l) : ∃ cur, w.heap[g]? = some (.cells cur 36 (0, 0)) := by
  rcases h.own.2 with ⟨h2, _⟩ | ⟨g', cap', cur, h2, hb, hg, _⟩
  · cases h2
  · cases h2; exact ⟨cur, hg⟩
theorem RTabs.lt {w : World} {base m g n cap : Nat} {l : List Slot} (h : RTabs w base m g n cap l) : g < w.heap.size := by obtain ⟨c, hc⟩ := h.block; exact (Array.getElem?_eq_some_iff.1 hc).1

/-- both rows: the same tables -/
structure Both (w : World) (base m gT gR n cp cq : Nat) (l lr : List Slot) : Prop where
  t : Tabs w base m gT n cp l
  r : RTabs w base m gR n cq lr
  eq : lr.map Slot.T = l.map Slot.T
theorem Both.more {w : World} {base m q gT gR n cp cq : Nat} {l lr : List Slot} (h : Both w base m gT gR n cp cq l lr) (hq : m ≤ q) : Both w base q gT gR n cp cq l lr := ⟨h.t.more hq, h.r.more hq, h.eq⟩
theorem Both.keep {w w' : World} {base m gT gR n cp cq : Nat} {l lr : List Slot} (h : Both w base m gT gR n cp cq l lr) (hb : Below w.heap.size w w') : Both w' base m gT gR n cp cq l lr := ⟨h.t.keep hb, h.r.keep hb, h.eq⟩
theorem two_rows {w : World} {base m g n cap base' m' g' n' cap' : Nat} {l l' : List Slot} (h : Tabs w base m g n cap l) (h' : RTabs w base' m' g' n' cap' l') : g ≠ g' := by
  intro e
  subst e
  obtain ⟨c, hc⟩ := h.block
  obtain ⟨c', hc'⟩ := h'.block
  rw [hc] at hc'
  injection hc' with e
  injection e with e1 e2 e3
  exact absurd e2 (by decide)
theorem Both.at {w : World} {base m gT gR n cp cq : Nat} {l lr : List Slot} (h : Both w base m gT gR n cp cq l lr) {i : Nat} (hi : i < n) :
    SlotAt w gT (i * 9) l[i]! ∧ Held w m l[i]!.T l[i]!.ao l[i]!.n ∧ SlotAt w gR (i * 9) ⟨l[i]!.T, lr[i]!.ao, lr[i]!.n, lr[i]!.c⟩ ∧ HeldR w m l[i]!.T lr[i]!.ao lr[i]!.n lr[i]!.c := by
  obtain ⟨a, b, _⟩ := h.t.at hi
  obtain ⟨c, d, _⟩ := h.r.at hi
  have e : lr[i]!.T = l[i]!.T := by
    have hl : i < l.length := by rw [h.t.len]; exact hi
    have hr : i < lr.length := by rw [h.r.len]; exact hi
    have := congrArg (fun q => q[i]?) h.eq
    simp only [List.getElem?_map, List.getElem?_eq_getElem hl, List.getElem?_eq_getElem hr, Option.map_some, Option.some.injEq] at this
    rw [getElem!_pos l i hl, getElem!_pos lr i hr]
    exact this
  refine ⟨a, b, ?_, ?_⟩
  · have e2 : (⟨l[i]!.T, lr[i]!.ao, lr[i]!.n, lr[i]!.c⟩ : Slot) = lr[i]! := by rw [← e]
    rw [e2]; exact c
  · rw [← e]; exact d
theorem rtabs_one (w : World) (g : Nat) (hg : w.heap[g]? = some (.cells #[.int .i64 0, .int .i64 0, .int .i64 0, .int .i64 0, .int .i64 0, .int .i64 0, .int .i64 0, .int .i64 0, .slice none 0 0] 36 (0, 0))) (base : Nat) (hb : base ≤ g) : RTabs w base 0 g 1 1 [⟨Tab.none, none, 0, 0⟩] :=
  ⟨rfl, Nat.le_refl _, ⟨rfl, .inr ⟨g, 1, _, rfl, hb, hg, Nat.le_refl _, by unfold maxLen; omega, rfl, rfl⟩⟩, fun x hx => by
    rw [List.mem_singleton] at hx
    subst hx
    exact HeldR.none w⟩


end Go.Proofs.Ytpghehckojdgeaa
