/- Part 15 of the contracts: RSCompW. -/
import Derived.Test.YtpghehckojdgeaaPart14

/- SyncCompares, walked. (By gen_rscomp.py.) -/
set_option linter.unusedVariables false
set_option linter.unusedSimpArgs false
namespace Go.Proofs.Ytpghehckojdgeaa
open Go.RowKit Go.Shelf Go.Sort


set_option maxRecDepth 100000 in
set_option maxHeartbeats 4000000 in
theorem scomp_bad (ao : Option Addr) (la ca iN kN : Nat) (xs : List ActD) (W : World) (h : Acts W ao la xs) (hla : la ≤ 9223372036854775807) (hs : isShort xs la 40 = false) :
    Calls Try.prog 4 #[.slice ao la ca, .int .u8 (iN : Int), .int .u8 (kN : Int)] W fun e w' => e = .returned (.bool true) ∧ Below W.heap.size W w' := by
  have HA := Lib.hid h
  have HL := Lib.hid hla
  have BW : Hid (Below W.heap.size W W) := Lib.hid (Below.refl _ _)
  clear h hla
  go_enter Try.func4, Try.ntmps4
  go_wp2_with (first | (go_at_call 7; refine (short_any ao la ca 40 xs _ HA.out HL.out (by omega)).mono ?_; rintro e w1 ⟨rfl, rfl⟩; rw [hs]) | (go_at_call 8; refine (awake_any _).mono ?_; rintro e w6 ⟨rfl, hb⟩; replace BW := Lib.hid (BW.out.trans (hb.mono BW.out.size)); clear hb))
  go_ret
  exact ⟨rfl, BW.out⟩

set_option maxRecDepth 100000 in
set_option maxHeartbeats 16000000 in
theorem scomp_good (ao : Option Addr) (la ca iN kN : Nat) (xs : List ActD) (W : World) (h : Acts W ao la xs) (hl6 : la ≤ 40) (hs : isShort xs la 40 = true) (hi : iN ≤ 255) (hk : kN ≤ 255) :
    Calls Try.prog 4 #[.slice ao la ca, .int .u8 (iN : Int), .int .u8 (kN : Int)] W fun e w' => e = .returned (.bool true) ∧ Below W.heap.size W w' := by
  have HA := Lib.hid h
  have hla : la ≤ 9223372036854775807 := by omega
  have HL := Lib.hid hla
  have hl9 : la ≤ 900 := by omega
  clear h hla
  go_enter Try.func4, Try.ntmps4
  go_upto_region 6 with (first | (go_at_call 7; refine (short_any ao la ca 40 xs _ HA.out HL.out (by omega)).mono ?_; rintro e w1 ⟨rfl, rfl⟩; rw [hs]) | (go_at_call 9; refine (grown_any ao la ca xs _ HA.out hl9).mono ?_; rintro e w1 ⟨gT, gR, n, cp, cq, l, lr, rfl, ht, hn, hb⟩; have HT := Lib.hid ht; have HB0 := Lib.hid hb; clear ht hb))
  clear hs
  have hpos := HT.out.t.pos
  obtain ⟨pa, hpa⟩ : ∃ pa, pa = iN % n := ⟨_, rfl⟩
  obtain ⟨pb, hpb⟩ : ∃ pb, pb = kN % n := ⟨_, rfl⟩
  have hpan : pa < n := by rw [hpa]; exact Nat.mod_lt _ (by omega)
  have hpbn : pb < n := by rw [hpb]; exact Nat.mod_lt _ (by omega)
  have k1 : (iN : Int).tmod (n : Int) = (pa : Int) := by rw [hpa, Int.tmod_eq_emod_of_nonneg (by omega)]; rfl
  have k2 : (kN : Int).tmod (n : Int) = (pb : Int) := by rw [hpb, Int.tmod_eq_emod_of_nonneg (by omega)]; rfl
  have k3 : IntKind.i64.wrap (pa : Int) = (pa : Int) := IntWalk.i64_in _ (by omega)
  have k4 : IntKind.i64.wrap (pb : Int) = (pb : Int) := IntWalk.i64_in _ (by omega)
  have k9 : ¬ (n : Int) = 0 := by omega
  have k9c : ¬ n = 0 := by omega
  have k10 : IntKind.i64.wrap (iN : Int) = (iN : Int) := IntWalk.i64_in _ (by omega)
  have k11 : IntKind.i64.wrap (kN : Int) = (kN : Int) := IntWalk.i64_in _ (by omega)
  clear hpa hpb
  go_cut [10, 11] (fun v10 v11 wx => v10 = .int .i64 (pa : Int) ∧ v11 = .int .i64 (pb : Int) ∧ Hid (Below w1.heap.size w1 wx))
  · go_region
    all_goals go_wp2_with fail
    all_goals go_meet
    all_goals exact ⟨rfl, rfl, Lib.hid (drew_below w1)⟩
  · obtain ⟨rfl, rfl, BC⟩ := hcut
    have HTC := Lib.hid (HT.out.keep BC.out)
    have BW0 := Lib.hid (HB0.out.trans (BC.out.mono HB0.out.size))
    have A1 := HTC.out.at hpan
    have A2 := HTC.out.at hpbn
    obtain ⟨ta, hta⟩ : ∃ ta, ta = l[pa]! := ⟨_, rfl⟩
    obtain ⟨tb, htb⟩ : ∃ tb, tb = l[pb]! := ⟨_, rfl⟩
    obtain ⟨ra, hra⟩ : ∃ ra, ra = lr[pa]! := ⟨_, rfl⟩
    obtain ⟨rb, hrb⟩ : ∃ rb, rb = lr[pb]! := ⟨_, rfl⟩
    rw [← hta, ← hra] at A1
    rw [← htb, ← hrb] at A2
    clear hta htb hra hrb k1 k2 k3 k4 k9 k9c k10 k11 HT HB0 BC HA HL
    obtain ⟨s1, J1, s3, J3⟩ := A1
    obtain ⟨s2, J2, s4, J4⟩ := A2
    have n1 := J1.len
    have n2 := J2.len
    have n3 := J3.len
    have n4 := J4.len
    have hml := (mer_ok J1.ok J2.ok (Nat.le_refl _) (Nat.le_refl _)).len
    have EQ := Lib.hid (fun (w : World) (hb : Below wc.heap.size wc w) => equalA ta.c tb.c (J1.keep hb) (J2.keep hb) (show la ≤ 40000 by omega))
    have SM := Lib.hid (fun (w : World) (hb : Below wc.heap.size wc w) => (show Calls Try.prog 15 #[.agg #[.int .i64 (ta.T.seen 0 : Int), .int .i64 (ta.T.seen 1 : Int), .int .i64 (ta.T.seen 2 : Int), .int .i64 (ta.T.seen 3 : Int), .int .i64 (ta.T.seen 4 : Int), .int .i64 (ta.T.seen 5 : Int), .int .i64 (ta.T.seen 6 : Int), .int .i64 (ta.T.seen 7 : Int), .slice ra.ao ra.n ra.c], .agg #[.int .i64 (tb.T.seen 0 : Int), .int .i64 (tb.T.seen 1 : Int), .int .i64 (tb.T.seen 2 : Int), .int .i64 (tb.T.seen 3 : Int), .int .i64 (tb.T.seen 4 : Int), .int .i64 (tb.T.seen 5 : Int), .int .i64 (tb.T.seen 6 : Int), .int .i64 (tb.T.seen 7 : Int), .slice rb.ao rb.n rb.c]] w (fun e w' => e = .returned (.bool (sameT ta.T tb.T)) ∧ Below w.heap.size w w') from refsame_any ta.T.seen tb.T.seen ra.ao rb.ao ra.n ra.c rb.n rb.c ta.T.L tb.T.L w (J3.keep hb).el (J4.keep hb).el (by omega) (by omega)))
    have CV := Lib.hid (fun (w : World) (hb : Below wc.heap.size wc w) => coversA ta.c tb.c (J1.keep hb) (J2.keep hb) (show la ≤ 40000 by omega))
    have MG := Lib.hid (fun (w : World) (hb : Below wc.heap.size wc w) => refmerA (J3.keep hb) (J4.keep hb) (show la ≤ 10000 by omega))
    have SN := Lib.hid (fun (T2 : Tab) (o2 : Option Addr) (l2 c2 : Nat) (w : World) (e : T2 = merT ta.T tb.T) (h2 : HeldR w la T2 o2 l2 c2) (hb : Below wc.heap.size wc w) => (show Calls Try.prog 15 #[.agg #[.int .i64 (T2.seen 0 : Int), .int .i64 (T2.seen 1 : Int), .int .i64 (T2.seen 2 : Int), .int .i64 (T2.seen 3 : Int), .int .i64 (T2.seen 4 : Int), .int .i64 (T2.seen 5 : Int), .int .i64 (T2.seen 6 : Int), .int .i64 (T2.seen 7 : Int), .slice o2 l2 c2], .agg #[.int .i64 (ta.T.seen 0 : Int), .int .i64 (ta.T.seen 1 : Int), .int .i64 (ta.T.seen 2 : Int), .int .i64 (ta.T.seen 3 : Int), .int .i64 (ta.T.seen 4 : Int), .int .i64 (ta.T.seen 5 : Int), .int .i64 (ta.T.seen 6 : Int), .int .i64 (ta.T.seen 7 : Int), .slice ra.ao ra.n ra.c]] w (fun e w' => e = .returned (.bool (sameT (merT ta.T tb.T) ta.T)) ∧ Below w.heap.size w w') from by subst e; exact refsame_any _ ta.T.seen o2 ra.ao l2 c2 ra.n ra.c _ ta.T.L w h2.el (J3.keep hb).el (by have := h2.len; omega) (by omega)))
    obtain ⟨b1, hb1⟩ : ∃ b1, b1 = sameT ta.T tb.T := ⟨_, rfl⟩
    obtain ⟨b2, hb2⟩ : ∃ b2, b2 = sameT (merT ta.T tb.T) ta.T := ⟨_, rfl⟩
    rw [← hb1] at EQ SM
    rw [← hb2] at CV SN
    have e1 : (b1 == b1) = true := beq_self_eq_true b1
    have e2 : (b2 == b2) = true := beq_self_eq_true b2
    clear hb1 hb2 n1 n2 n3 n4 hml
    obtain ⟨p0, p1, p2, p3, p4, p5, p6, p7, p8⟩ := s1
    obtain ⟨q0, q1, q2, q3, q4, q5, q6, q7, q8⟩ := s2
    obtain ⟨r0, r1, r2, r3, r4, r5, r6, r7, r8⟩ := s3
    obtain ⟨t0, t1, t2, t3, t4, t5, t6, t7, t8⟩ := s4
    clear J1 J2 J3 J4
    go_wp2_with fail
    refine wp_region_held_drew (S := fun w' => w'.cell? ⟨gT, pa * 9, none⟩ = some (.int .i64 (ta.T.seen 0 : Int)) ∧ w'.cell? ⟨gT, pa * 9 + 1, none⟩ = some (.int .i64 (ta.T.seen 1 : Int)) ∧ w'.cell? ⟨gT, pa * 9 + 2, none⟩ = some (.int .i64 (ta.T.seen 2 : Int)) ∧ w'.cell? ⟨gT, pa * 9 + 3, none⟩ = some (.int .i64 (ta.T.seen 3 : Int)) ∧ w'.cell? ⟨gT, pa * 9 + 4, none⟩ = some (.int .i64 (ta.T.seen 4 : Int)) ∧ w'.cell? ⟨gT, pa * 9 + 5, none⟩ = some (.int .i64 (ta.T.seen 5 : Int)) ∧ w'.cell? ⟨gT, pa * 9 + 6, none⟩ = some (.int .i64 (ta.T.seen 6 : Int)) ∧ w'.cell? ⟨gT, pa * 9 + 7, none⟩ = some (.int .i64 (ta.T.seen 7 : Int)) ∧ w'.cell? ⟨gT, pa * 9 + 8, none⟩ = some (.slice ta.ao ta.n ta.c) ∧ w'.cell? ⟨gT, pb * 9, none⟩ = some (.int .i64 (tb.T.seen 0 : Int)) ∧ w'.cell? ⟨gT, pb * 9 + 1, none⟩ = some (.int .i64 (tb.T.seen 1 : Int)) ∧ w'.cell? ⟨gT, pb * 9 + 2, none⟩ = some (.int .i64 (tb.T.seen 2 : Int)) ∧ w'.cell? ⟨gT, pb * 9 + 3, none⟩ = some (.int .i64 (tb.T.seen 3 : Int)) ∧ w'.cell? ⟨gT, pb * 9 + 4, none⟩ = some (.int .i64 (tb.T.seen 4 : Int)) ∧ w'.cell? ⟨gT, pb * 9 + 5, none⟩ = some (.int .i64 (tb.T.seen 5 : Int)) ∧ w'.cell? ⟨gT, pb * 9 + 6, none⟩ = some (.int .i64 (tb.T.seen 6 : Int)) ∧ w'.cell? ⟨gT, pb * 9 + 7, none⟩ = some (.int .i64 (tb.T.seen 7 : Int)) ∧ w'.cell? ⟨gT, pb * 9 + 8, none⟩ = some (.slice tb.ao tb.n tb.c) ∧ w'.cell? ⟨gR, pa * 9, none⟩ = some (.int .i64 (ta.T.seen 0 : Int)) ∧ w'.cell? ⟨gR, pa * 9 + 1, none⟩ = some (.int .i64 (ta.T.seen 1 : Int)) ∧ w'.cell? ⟨gR, pa * 9 + 2, none⟩ = some (.int .i64 (ta.T.seen 2 : Int)) ∧ w'.cell? ⟨gR, pa * 9 + 3, none⟩ = some (.int .i64 (ta.T.seen 3 : Int)) ∧ w'.cell? ⟨gR, pa * 9 + 4, none⟩ = some (.int .i64 (ta.T.seen 4 : Int)) ∧ w'.cell? ⟨gR, pa * 9 + 5, none⟩ = some (.int .i64 (ta.T.seen 5 : Int)) ∧ w'.cell? ⟨gR, pa * 9 + 6, none⟩ = some (.int .i64 (ta.T.seen 6 : Int)) ∧ w'.cell? ⟨gR, pa * 9 + 7, none⟩ = some (.int .i64 (ta.T.seen 7 : Int)) ∧ w'.cell? ⟨gR, pa * 9 + 8, none⟩ = some (.slice ra.ao ra.n ra.c) ∧ w'.cell? ⟨gR, pb * 9, none⟩ = some (.int .i64 (tb.T.seen 0 : Int)) ∧ w'.cell? ⟨gR, pb * 9 + 1, none⟩ = some (.int .i64 (tb.T.seen 1 : Int)) ∧ w'.cell? ⟨gR, pb * 9 + 2, none⟩ = some (.int .i64 (tb.T.seen 2 : Int)) ∧ w'.cell? ⟨gR, pb * 9 + 3, none⟩ = some (.int .i64 (tb.T.seen 3 : Int)) ∧ w'.cell? ⟨gR, pb * 9 + 4, none⟩ = some (.int .i64 (tb.T.seen 4 : Int)) ∧ w'.cell? ⟨gR, pb * 9 + 5, none⟩ = some (.int .i64 (tb.T.seen 5 : Int)) ∧ w'.cell? ⟨gR, pb * 9 + 6, none⟩ = some (.int .i64 (tb.T.seen 6 : Int)) ∧ w'.cell? ⟨gR, pb * 9 + 7, none⟩ = some (.int .i64 (tb.T.seen 7 : Int)) ∧ w'.cell? ⟨gR, pb * 9 + 8, none⟩ = some (.slice rb.ao rb.n rb.c)) (by kernel_rfl) ⟨p0, p1, p2, p3, p4, p5, p6, p7, p8, q0, q1, q2, q3, q4, q5, q6, q7, q8, r0, r1, r2, r3, r4, r5, r6, r7, r8, t0, t1, t2, t3, t4, t5, t6, t7, t8⟩ (fun hS => ?_)
    clear p0 p1 p2 p3 p4 p5 p6 p7 p8 q0 q1 q2 q3 q4 q5 q6 q7 q8 r0 r1 r2 r3 r4 r5 r6 r7 r8 t0 t1 t2 t3 t4 t5 t6 t7 t8
    refine wpAnyH_take (i := 0) (v := ?vs0) rfl (by kernel_rfl) (by kernel_rfl) (by kernel_rfl) (fun _ _ _ h => h) (Or.inl ⟨by rfl, ?hys0⟩) hS ?rests0
    case hys0 => (intro w hSw; (try dsimp only at hSw); (first | (go_simp; done) | (go_simp; with_reducible rfl)))
    try simp only [Act.put, List.getElem_toArray, List.getElem_cons_succ, List.getElem_cons_zero, List.setIfInBounds_toArray, List.set_cons_zero, List.set_cons_succ]
    refine wpAnyH_take (i := 1) (v := ?vs1) rfl (by kernel_rfl) (by kernel_rfl) (by kernel_rfl) (fun _ _ _ h => h) (Or.inl ⟨by rfl, ?hys1⟩) hS ?rests1
    case hys1 => (intro w hSw; (try dsimp only at hSw); (first | (go_simp; done) | (go_simp; with_reducible rfl)))
    try simp only [Act.put, List.getElem_toArray, List.getElem_cons_succ, List.getElem_cons_zero, List.setIfInBounds_toArray, List.set_cons_zero, List.set_cons_succ]
    refine wpAnyH_take (i := 2) (v := ?vs2) rfl (by kernel_rfl) (by kernel_rfl) (by kernel_rfl) (fun _ _ _ h => h) (Or.inl ⟨by rfl, ?hys2⟩) hS ?rests2
    case hys2 => (intro w hSw; (try dsimp only at hSw); (first | (go_simp; done) | (go_simp; with_reducible rfl)))
    try simp only [Act.put, List.getElem_toArray, List.getElem_cons_succ, List.getElem_cons_zero, List.setIfInBounds_toArray, List.set_cons_zero, List.set_cons_succ]
    refine wpAnyH_take (i := 3) (v := ?vs3) rfl (by kernel_rfl) (by kernel_rfl) (by kernel_rfl) (fun _ _ _ h => h) (Or.inl ⟨by rfl, ?hys3⟩) hS ?rests3
    case hys3 => (intro w hSw; (try dsimp only at hSw); (first | (go_simp; done) | (go_simp; with_reducible rfl)))
    try simp only [Act.put, List.getElem_toArray, List.getElem_cons_succ, List.getElem_cons_zero, List.setIfInBounds_toArray, List.set_cons_zero, List.set_cons_succ]
    refine wpAnyH_take (i := 4) (v := ?vs4) rfl (by kernel_rfl) (by kernel_rfl) (by kernel_rfl) (fun _ _ _ h => h) (Or.inl ⟨by rfl, ?hys4⟩) hS ?rests4
    case hys4 => (intro w hSw; (try dsimp only at hSw); (first | (go_simp; done) | (go_simp; with_reducible rfl)))
    try simp only [Act.put, List.getElem_toArray, List.getElem_cons_succ, List.getElem_cons_zero, List.setIfInBounds_toArray, List.set_cons_zero, List.set_cons_succ]
    refine wpAnyH_take (i := 5) (v := ?vs5) rfl (by kernel_rfl) (by kernel_rfl) (by kernel_rfl) (fun _ _ _ h => h) (Or.inl ⟨by rfl, ?hys5⟩) hS ?rests5
    case hys5 => (intro w hSw; (try dsimp only at hSw); (first | (go_simp; done) | (go_simp; with_reducible rfl)))
    try simp only [Act.put, List.getElem_toArray, List.getElem_cons_succ, List.getElem_cons_zero, List.setIfInBounds_toArray, List.set_cons_zero, List.set_cons_succ]
    refine wpAnyH_take (i := 6) (v := ?vs6) rfl (by kernel_rfl) (by kernel_rfl) (by kernel_rfl) (fun _ _ _ h => h) (Or.inl ⟨by rfl, ?hys6⟩) hS ?rests6
    case hys6 => (intro w hSw; (try dsimp only at hSw); (first | (go_simp; done) | (go_simp; with_reducible rfl)))
    try simp only [Act.put, List.getElem_toArray, List.getElem_cons_succ, List.getElem_cons_zero, List.setIfInBounds_toArray, List.set_cons_zero, List.set_cons_succ]
    refine wpAnyH_take (i := 7) (v := ?vs7) rfl (by kernel_rfl) (by kernel_rfl) (by kernel_rfl) (fun _ _ _ h => h) (Or.inl ⟨by rfl, ?hys7⟩) hS ?rests7
    case hys7 => (intro w hSw; (try dsimp only at hSw); (first | (go_simp; done) | (go_simp; with_reducible rfl)))
    try simp only [Act.put, List.getElem_toArray, List.getElem_cons_succ, List.getElem_cons_zero, List.setIfInBounds_toArray, List.set_cons_zero, List.set_cons_succ]
    refine wpAnyH_take (i := 9) (v := ?vs9) rfl (by kernel_rfl) (by kernel_rfl) (by kernel_rfl) (fun _ _ _ h => h) (Or.inl ⟨by rfl, ?hys9⟩) hS ?rests9
    case hys9 => (intro w hSw; (try dsimp only at hSw); (first | (go_simp; done) | (go_simp; with_reducible rfl)))
    try simp only [Act.put, List.getElem_toArray, List.getElem_cons_succ, List.getElem_cons_zero, List.setIfInBounds_toArray, List.set_cons_zero, List.set_cons_succ]
    refine wpAnyH_take (i := 10) (v := ?vs10) rfl (by kernel_rfl) (by kernel_rfl) (by kernel_rfl) (fun _ _ _ h => h) (Or.inl ⟨by rfl, ?hys10⟩) hS ?rests10
    case hys10 => (intro w hSw; (try dsimp only at hSw); (first | (go_simp; done) | (go_simp; with_reducible rfl)))
    try simp only [Act.put, List.getElem_toArray, List.getElem_cons_succ, List.getElem_cons_zero, List.setIfInBounds_toArray, List.set_cons_zero, List.set_cons_succ]
    refine wpAnyH_take (i := 11) (v := ?vs11) rfl (by kernel_rfl) (by kernel_rfl) (by kernel_rfl) (fun _ _ _ h => h) (Or.inl ⟨by rfl, ?hys11⟩) hS ?rests11
    case hys11 => (intro w hSw; (try dsimp only at hSw); (first | (go_simp; done) | (go_simp; with_reducible rfl)))
    try simp only [Act.put, List.getElem_toArray, List.getElem_cons_succ, List.getElem_cons_zero, List.setIfInBounds_toArray, List.set_cons_zero, List.set_cons_succ]
    refine wpAnyH_take (i := 12) (v := ?vs12) rfl (by kernel_rfl) (by kernel_rfl) (by kernel_rfl) (fun _ _ _ h => h) (Or.inl ⟨by rfl, ?hys12⟩) hS ?rests12
    case hys12 => (intro w hSw; (try dsimp only at hSw); (first | (go_simp; done) | (go_simp; with_reducible rfl)))
    try simp only [Act.put, List.getElem_toArray, List.getElem_cons_succ, List.getElem_cons_zero, List.setIfInBounds_toArray, List.set_cons_zero, List.set_cons_succ]
    refine wpAnyH_take (i := 13) (v := ?vs13) rfl (by kernel_rfl) (by kernel_rfl) (by kernel_rfl) (fun _ _ _ h => h) (Or.inl ⟨by rfl, ?hys13⟩) hS ?rests13
    case hys13 => (intro w hSw; (try dsimp only at hSw); (first | (go_simp; done) | (go_simp; with_reducible rfl)))
    try simp only [Act.put, List.getElem_toArray, List.getElem_cons_succ, List.getElem_cons_zero, List.setIfInBounds_toArray, List.set_cons_zero, List.set_cons_succ]
    refine wpAnyH_take (i := 14) (v := ?vs14) rfl (by kernel_rfl) (by kernel_rfl) (by kernel_rfl) (fun _ _ _ h => h) (Or.inl ⟨by rfl, ?hys14⟩) hS ?rests14
    case hys14 => (intro w hSw; (try dsimp only at hSw); (first | (go_simp; done) | (go_simp; with_reducible rfl)))
    try simp only [Act.put, List.getElem_toArray, List.getElem_cons_succ, List.getElem_cons_zero, List.setIfInBounds_toArray, List.set_cons_zero, List.set_cons_succ]
    refine wpAnyH_take (i := 15) (v := ?vs15) rfl (by kernel_rfl) (by kernel_rfl) (by kernel_rfl) (fun _ _ _ h => h) (Or.inl ⟨by rfl, ?hys15⟩) hS ?rests15
    case hys15 => (intro w hSw; (try dsimp only at hSw); (first | (go_simp; done) | (go_simp; with_reducible rfl)))
    try simp only [Act.put, List.getElem_toArray, List.getElem_cons_succ, List.getElem_cons_zero, List.setIfInBounds_toArray, List.set_cons_zero, List.set_cons_succ]
    refine wpAnyH_take (i := 16) (v := ?vs16) rfl (by kernel_rfl) (by kernel_rfl) (by kernel_rfl) (fun _ _ _ h => h) (Or.inl ⟨by rfl, ?hys16⟩) hS ?rests16
    case hys16 => (intro w hSw; (try dsimp only at hSw); (first | (go_simp; done) | (go_simp; with_reducible rfl)))
    try simp only [Act.put, List.getElem_toArray, List.getElem_cons_succ, List.getElem_cons_zero, List.setIfInBounds_toArray, List.set_cons_zero, List.set_cons_succ]
    refine wpAnyH_ready (rs := [8]) (by kernel_rfl) (by simp) ?_
    refine AllReadyH.cons rfl (fun K hK => ?_) AllReadyH.nil
    try go_simp
    go_at_call 14
    refine (EQ.out _ (drew_below wc)).mono ?_
    rintro e w1 ⟨rfl, hb⟩
    obtain ⟨z0, z1, z2, z3, z4, z5, z6, z7, z8, z9, z10, z11, z12, z13, z14, z15, z16, z17, z18, z19, z20, z21, z22, z23, z24, z25, z26, z27, z28, z29, z30, z31, z32, z33, z34, z35⟩ := hS
    have B1 := Lib.hid ((drew_below wc).trans hb)
    have x0 := cell_later hb z0
    have x1 := cell_later hb z1
    have x2 := cell_later hb z2
    have x3 := cell_later hb z3
    have x4 := cell_later hb z4
    have x5 := cell_later hb z5
    have x6 := cell_later hb z6
    have x7 := cell_later hb z7
    have x8 := cell_later hb z8
    have x9 := cell_later hb z9
    have x10 := cell_later hb z10
    have x11 := cell_later hb z11
    have x12 := cell_later hb z12
    have x13 := cell_later hb z13
    have x14 := cell_later hb z14
    have x15 := cell_later hb z15
    have x16 := cell_later hb z16
    have x17 := cell_later hb z17
    have x18 := cell_later hb z18
    have x19 := cell_later hb z19
    have x20 := cell_later hb z20
    have x21 := cell_later hb z21
    have x22 := cell_later hb z22
    have x23 := cell_later hb z23
    have x24 := cell_later hb z24
    have x25 := cell_later hb z25
    have x26 := cell_later hb z26
    have x27 := cell_later hb z27
    have x28 := cell_later hb z28
    have x29 := cell_later hb z29
    have x30 := cell_later hb z30
    have x31 := cell_later hb z31
    have x32 := cell_later hb z32
    have x33 := cell_later hb z33
    have x34 := cell_later hb z34
    have x35 := cell_later hb z35
    clear hb z0 z1 z2 z3 z4 z5 z6 z7 z8 z9 z10 z11 z12 z13 z14 z15 z16 z17 z18 z19 z20 z21 z22 z23 z24 z25 z26 z27 z28 z29 z30 z31 z32 z33 z34 z35
    refine hK.out _ _ ⟨x0, x1, x2, x3, x4, x5, x6, x7, x8, x9, x10, x11, x12, x13, x14, x15, x16, x17, x18, x19, x20, x21, x22, x23, x24, x25, x26, x27, x28, x29, x30, x31, x32, x33, x34, x35⟩ (fun hS => ?_)
    clear hK K
    try simp only [Act.put, List.getElem_toArray, List.getElem_cons_succ, List.getElem_cons_zero, List.setIfInBounds_toArray, List.set_cons_zero, List.set_cons_succ]
    clear x0 x1 x2 x3 x4 x5 x6 x7 x8 x9 x10 x11 x12 x13 x14 x15 x16 x17 x18 x19 x20 x21 x22 x23 x24 x25 x26 x27 x28 x29 x30 x31 x32 x33 x34 x35
    refine wpAnyH_ready (rs := [17]) (by kernel_rfl) (by simp) ?_
    refine AllReadyH.cons rfl (fun K hK => ?_) AllReadyH.nil
    try go_simp
    go_at_call 15
    refine (SM.out _ B1.out).mono ?_
    rintro e w1 ⟨rfl, hb⟩
    obtain ⟨z0, z1, z2, z3, z4, z5, z6, z7, z8, z9, z10, z11, z12, z13, z14, z15, z16, z17, z18, z19, z20, z21, z22, z23, z24, z25, z26, z27, z28, z29, z30, z31, z32, z33, z34, z35⟩ := hS
    replace B1 := Lib.hid (below_then B1.out hb)
    have x0 := cell_later hb z0
    have x1 := cell_later hb z1
    have x2 := cell_later hb z2
    have x3 := cell_later hb z3
    have x4 := cell_later hb z4
    have x5 := cell_later hb z5
    have x6 := cell_later hb z6
    have x7 := cell_later hb z7
    have x8 := cell_later hb z8
    have x9 := cell_later hb z9
    have x10 := cell_later hb z10
    have x11 := cell_later hb z11
    have x12 := cell_later hb z12
    have x13 := cell_later hb z13
    have x14 := cell_later hb z14
    have x15 := cell_later hb z15
    have x16 := cell_later hb z16
    have x17 := cell_later hb z17
    have x18 := cell_later hb z18
    have x19 := cell_later hb z19
    have x20 := cell_later hb z20
    have x21 := cell_later hb z21
    have x22 := cell_later hb z22
    have x23 := cell_later hb z23
    have x24 := cell_later hb z24
    have x25 := cell_later hb z25
    have x26 := cell_later hb z26
    have x27 := cell_later hb z27
    have x28 := cell_later hb z28
    have x29 := cell_later hb z29
    have x30 := cell_later hb z30
    have x31 := cell_later hb z31
    have x32 := cell_later hb z32
    have x33 := cell_later hb z33
    have x34 := cell_later hb z34
    have x35 := cell_later hb z35
    clear hb z0 z1 z2 z3 z4 z5 z6 z7 z8 z9 z10 z11 z12 z13 z14 z15 z16 z17 z18 z19 z20 z21 z22 z23 z24 z25 z26 z27 z28 z29 z30 z31 z32 z33 z34 z35
    refine hK.out _ _ ⟨x0, x1, x2, x3, x4, x5, x6, x7, x8, x9, x10, x11, x12, x13, x14, x15, x16, x17, x18, x19, x20, x21, x22, x23, x24, x25, x26, x27, x28, x29, x30, x31, x32, x33, x34, x35⟩ (fun hS => ?_)
    clear hK K
    try simp only [Act.put, List.getElem_toArray, List.getElem_cons_succ, List.getElem_cons_zero, List.setIfInBounds_toArray, List.set_cons_zero, List.set_cons_succ]
    clear x0 x1 x2 x3 x4 x5 x6 x7 x8 x9 x10 x11 x12 x13 x14 x15 x16 x17 x18 x19 x20 x21 x22 x23 x24 x25 x26 x27 x28 x29 x30 x31 x32 x33 x34 x35
    refine wpAnyH_take (i := 18) (v := ?vs18) rfl (by kernel_rfl) (by kernel_rfl) (by kernel_rfl) (fun _ _ _ h => h) (Or.inl ⟨by rfl, ?hys18⟩) hS ?rests18
    case hys18 => (intro w hSw; (try dsimp only at hSw); (first | (go_simp; done) | (go_simp; with_reducible rfl)))
    try simp only [Act.put, List.getElem_toArray, List.getElem_cons_succ, List.getElem_cons_zero, List.setIfInBounds_toArray, List.set_cons_zero, List.set_cons_succ]
    refine wpAnyH_take (i := 19) (v := ?vs19) rfl (by kernel_rfl) (by kernel_rfl) (by kernel_rfl) (fun _ _ _ h => h) (Or.inl ⟨by rfl, ?hys19⟩) hS ?rests19
    case hys19 => (intro w hSw; (try dsimp only at hSw); (first | (go_simp; done) | (go_simp; with_reducible rfl)))
    try simp only [Act.put, List.getElem_toArray, List.getElem_cons_succ, List.getElem_cons_zero, List.setIfInBounds_toArray, List.set_cons_zero, List.set_cons_succ]
    refine wpAnyH_take (i := 20) (v := ?vs20) rfl (by kernel_rfl) (by kernel_rfl) (by kernel_rfl) (fun _ _ _ h => h) (Or.inl ⟨by rfl, ?hys20⟩) hS ?rests20
    case hys20 => (intro w hSw; (try dsimp only at hSw); (first | (go_simp; done) | (go_simp; with_reducible rfl)))
    try simp only [Act.put, List.getElem_toArray, List.getElem_cons_succ, List.getElem_cons_zero, List.setIfInBounds_toArray, List.set_cons_zero, List.set_cons_succ]
    refine wpAnyH_take (i := 21) (v := ?vs21) rfl (by kernel_rfl) (by kernel_rfl) (by kernel_rfl) (fun _ _ _ h => h) (Or.inl ⟨by rfl, ?hys21⟩) hS ?rests21
    case hys21 => (intro w hSw; (try dsimp only at hSw); (first | (go_simp; done) | (go_simp; with_reducible rfl)))
    try simp only [Act.put, List.getElem_toArray, List.getElem_cons_succ, List.getElem_cons_zero, List.setIfInBounds_toArray, List.set_cons_zero, List.set_cons_succ]
    refine wpAnyH_take (i := 22) (v := ?vs22) rfl (by kernel_rfl) (by kernel_rfl) (by kernel_rfl) (fun _ _ _ h => h) (Or.inl ⟨by rfl, ?hys22⟩) hS ?rests22
    case hys22 => (intro w hSw; (try dsimp only at hSw); (first | (go_simp; done) | (go_simp; with_reducible rfl)))
    try simp only [Act.put, List.getElem_toArray, List.getElem_cons_succ, List.getElem_cons_zero, List.setIfInBounds_toArray, List.set_cons_zero, List.set_cons_succ]
    refine wpAnyH_take (i := 23) (v := ?vs23) rfl (by kernel_rfl) (by kernel_rfl) (by kernel_rfl) (fun _ _ _ h => h) (Or.inl ⟨by rfl, ?hys23⟩) hS ?rests23
    case hys23 => (intro w hSw; (try dsimp only at hSw); (first | (go_simp; done) | (go_simp; with_reducible rfl)))
    try simp only [Act.put, List.getElem_toArray, List.getElem_cons_succ, List.getElem_cons_zero, List.setIfInBounds_toArray, List.set_cons_zero, List.set_cons_succ]
    refine wpAnyH_take (i := 24) (v := ?vs24) rfl (by kernel_rfl) (by kernel_rfl) (by kernel_rfl) (fun _ _ _ h => h) (Or.inl ⟨by rfl, ?hys24⟩) hS ?rests24
    case hys24 => (intro w hSw; (try dsimp only at hSw); (first | (go_simp; done) | (go_simp; with_reducible rfl)))
    try simp only [Act.put, List.getElem_toArray, List.getElem_cons_succ, List.getElem_cons_zero, List.setIfInBounds_toArray, List.set_cons_zero, List.set_cons_succ]
    refine wpAnyH_take (i := 25) (v := ?vs25) rfl (by kernel_rfl) (by kernel_rfl) (by kernel_rfl) (fun _ _ _ h => h) (Or.inl ⟨by rfl, ?hys25⟩) hS ?rests25
    case hys25 => (intro w hSw; (try dsimp only at hSw); (first | (go_simp; done) | (go_simp; with_reducible rfl)))
    try simp only [Act.put, List.getElem_toArray, List.getElem_cons_succ, List.getElem_cons_zero, List.setIfInBounds_toArray, List.set_cons_zero, List.set_cons_succ]
    refine wpAnyH_take (i := 26) (v := ?vs26) rfl (by kernel_rfl) (by kernel_rfl) (by kernel_rfl) (fun _ _ _ h => h) (Or.inl ⟨by rfl, ?hys26⟩) hS ?rests26
    case hys26 => (intro w hSw; (try dsimp only at hSw); (first | (go_simp; done) | (go_simp; with_reducible rfl)))
    try simp only [Act.put, List.getElem_toArray, List.getElem_cons_succ, List.getElem_cons_zero, List.setIfInBounds_toArray, List.set_cons_zero, List.set_cons_succ]
    refine wpAnyH_take (i := 27) (v := ?vs27) rfl (by kernel_rfl) (by kernel_rfl) (by kernel_rfl) (fun _ _ _ h => h) (Or.inl ⟨by rfl, ?hys27⟩) hS ?rests27
    case hys27 => (intro w hSw; (try dsimp only at hSw); (first | (go_simp; done) | (go_simp; with_reducible rfl)))
    try simp only [Act.put, List.getElem_toArray, List.getElem_cons_succ, List.getElem_cons_zero, List.setIfInBounds_toArray, List.set_cons_zero, List.set_cons_succ]
    refine wpAnyH_take (i := 29) (v := ?vs29) rfl (by kernel_rfl) (by kernel_rfl) (by kernel_rfl) (fun _ _ _ h => h) (Or.inl ⟨by rfl, ?hys29⟩) hS ?rests29
    case hys29 => (intro w hSw; (try dsimp only at hSw); (first | (go_simp; done) | (go_simp; with_reducible rfl)))
    try simp only [Act.put, List.getElem_toArray, List.getElem_cons_succ, List.getElem_cons_zero, List.setIfInBounds_toArray, List.set_cons_zero, List.set_cons_succ]
    refine wpAnyH_take (i := 30) (v := ?vs30) rfl (by kernel_rfl) (by kernel_rfl) (by kernel_rfl) (fun _ _ _ h => h) (Or.inl ⟨by rfl, ?hys30⟩) hS ?rests30
    case hys30 => (intro w hSw; (try dsimp only at hSw); (first | (go_simp; done) | (go_simp; with_reducible rfl)))
    try simp only [Act.put, List.getElem_toArray, List.getElem_cons_succ, List.getElem_cons_zero, List.setIfInBounds_toArray, List.set_cons_zero, List.set_cons_succ]
    refine wpAnyH_take (i := 31) (v := ?vs31) rfl (by kernel_rfl) (by kernel_rfl) (by kernel_rfl) (fun _ _ _ h => h) (Or.inl ⟨by rfl, ?hys31⟩) hS ?rests31
    case hys31 => (intro w hSw; (try dsimp only at hSw); (first | (go_simp; done) | (go_simp; with_reducible rfl)))
    try simp only [Act.put, List.getElem_toArray, List.getElem_cons_succ, List.getElem_cons_zero, List.setIfInBounds_toArray, List.set_cons_zero, List.set_cons_succ]
    refine wpAnyH_take (i := 32) (v := ?vs32) rfl (by kernel_rfl) (by kernel_rfl) (by kernel_rfl) (fun _ _ _ h => h) (Or.inl ⟨by rfl, ?hys32⟩) hS ?rests32
    case hys32 => (intro w hSw; (try dsimp only at hSw); (first | (go_simp; done) | (go_simp; with_reducible rfl)))
    try simp only [Act.put, List.getElem_toArray, List.getElem_cons_succ, List.getElem_cons_zero, List.setIfInBounds_toArray, List.set_cons_zero, List.set_cons_succ]
    refine wpAnyH_take (i := 33) (v := ?vs33) rfl (by kernel_rfl) (by kernel_rfl) (by kernel_rfl) (fun _ _ _ h => h) (Or.inl ⟨by rfl, ?hys33⟩) hS ?rests33
    case hys33 => (intro w hSw; (try dsimp only at hSw); (first | (go_simp; done) | (go_simp; with_reducible rfl)))
    try simp only [Act.put, List.getElem_toArray, List.getElem_cons_succ, List.getElem_cons_zero, List.setIfInBounds_toArray, List.set_cons_zero, List.set_cons_succ]
    refine wpAnyH_take (i := 34) (v := ?vs34) rfl (by kernel_rfl) (by kernel_rfl) (by kernel_rfl) (fun _ _ _ h => h) (Or.inl ⟨by rfl, ?hys34⟩) hS ?rests34
    case hys34 => (intro w hSw; (try dsimp only at hSw); (first | (go_simp; done) | (go_simp; with_reducible rfl)))
    try simp only [Act.put, List.getElem_toArray, List.getElem_cons_succ, List.getElem_cons_zero, List.setIfInBounds_toArray, List.set_cons_zero, List.set_cons_succ]
    refine wpAnyH_take (i := 35) (v := ?vs35) rfl (by kernel_rfl) (by kernel_rfl) (by kernel_rfl) (fun _ _ _ h => h) (Or.inl ⟨by rfl, ?hys35⟩) hS ?rests35
    case hys35 => (intro w hSw; (try dsimp only at hSw); (first | (go_simp; done) | (go_simp; with_reducible rfl)))
    try simp only [Act.put, List.getElem_toArray, List.getElem_cons_succ, List.getElem_cons_zero, List.setIfInBounds_toArray, List.set_cons_zero, List.set_cons_succ]
    refine wpAnyH_take (i := 36) (v := ?vs36) rfl (by kernel_rfl) (by kernel_rfl) (by kernel_rfl) (fun _ _ _ h => h) (Or.inl ⟨by rfl, ?hys36⟩) hS ?rests36
    case hys36 => (intro w hSw; (try dsimp only at hSw); (first | (go_simp; done) | (go_simp; with_reducible rfl)))
    try simp only [Act.put, List.getElem_toArray, List.getElem_cons_succ, List.getElem_cons_zero, List.setIfInBounds_toArray, List.set_cons_zero, List.set_cons_succ]
    refine wpAnyH_take (i := 38) (v := ?vs38) rfl (by kernel_rfl) (by kernel_rfl) (by kernel_rfl) (fun _ _ _ h => h) (Or.inl ⟨by rfl, ?hys38⟩) hS ?rests38
    case hys38 => (intro w hSw; (try dsimp only at hSw); (first | (go_simp; done) | (go_simp; with_reducible rfl)))
    try simp only [Act.put, List.getElem_toArray, List.getElem_cons_succ, List.getElem_cons_zero, List.setIfInBounds_toArray, List.set_cons_zero, List.set_cons_succ]
    refine wpAnyH_take (i := 39) (v := ?vs39) rfl (by kernel_rfl) (by kernel_rfl) (by kernel_rfl) (fun _ _ _ h => h) (Or.inl ⟨by rfl, ?hys39⟩) hS ?rests39
    case hys39 => (intro w hSw; (try dsimp only at hSw); (first | (go_simp; done) | (go_simp; with_reducible rfl)))
    try simp only [Act.put, List.getElem_toArray, List.getElem_cons_succ, List.getElem_cons_zero, List.setIfInBounds_toArray, List.set_cons_zero, List.set_cons_succ]
    refine wpAnyH_take (i := 40) (v := ?vs40) rfl (by kernel_rfl) (by kernel_rfl) (by kernel_rfl) (fun _ _ _ h => h) (Or.inl ⟨by rfl, ?hys40⟩) hS ?rests40
    case hys40 => (intro w hSw; (try dsimp only at hSw); (first | (go_simp; done) | (go_simp; with_reducible rfl)))
    try simp only [Act.put, List.getElem_toArray, List.getElem_cons_succ, List.getElem_cons_zero, List.setIfInBounds_toArray, List.set_cons_zero, List.set_cons_succ]
    refine wpAnyH_take (i := 41) (v := ?vs41) rfl (by kernel_rfl) (by kernel_rfl) (by kernel_rfl) (fun _ _ _ h => h) (Or.inl ⟨by rfl, ?hys41⟩) hS ?rests41
    case hys41 => (intro w hSw; (try dsimp only at hSw); (first | (go_simp; done) | (go_simp; with_reducible rfl)))
    try simp only [Act.put, List.getElem_toArray, List.getElem_cons_succ, List.getElem_cons_zero, List.setIfInBounds_toArray, List.set_cons_zero, List.set_cons_succ]
    refine wpAnyH_ready (rs := [28]) (by kernel_rfl) (by simp) ?_
    refine AllReadyH.cons rfl (fun K hK => ?_) AllReadyH.nil
    try go_simp
    go_at_call 16
    refine (CV.out _ B1.out).mono ?_
    rintro e w1 ⟨rfl, hb⟩
    obtain ⟨z0, z1, z2, z3, z4, z5, z6, z7, z8, z9, z10, z11, z12, z13, z14, z15, z16, z17, z18, z19, z20, z21, z22, z23, z24, z25, z26, z27, z28, z29, z30, z31, z32, z33, z34, z35⟩ := hS
    replace B1 := Lib.hid (below_then B1.out hb)
    have x0 := cell_later hb z0
    have x1 := cell_later hb z1
    have x2 := cell_later hb z2
    have x3 := cell_later hb z3
    have x4 := cell_later hb z4
    have x5 := cell_later hb z5
    have x6 := cell_later hb z6
    have x7 := cell_later hb z7
    have x8 := cell_later hb z8
    have x9 := cell_later hb z9
    have x10 := cell_later hb z10
    have x11 := cell_later hb z11
    have x12 := cell_later hb z12
    have x13 := cell_later hb z13
    have x14 := cell_later hb z14
    have x15 := cell_later hb z15
    have x16 := cell_later hb z16
    have x17 := cell_later hb z17
    have x18 := cell_later hb z18
    have x19 := cell_later hb z19
    have x20 := cell_later hb z20
    have x21 := cell_later hb z21
    have x22 := cell_later hb z22
    have x23 := cell_later hb z23
    have x24 := cell_later hb z24
    have x25 := cell_later hb z25
    have x26 := cell_later hb z26
    have x27 := cell_later hb z27
    have x28 := cell_later hb z28
    have x29 := cell_later hb z29
    have x30 := cell_later hb z30
    have x31 := cell_later hb z31
    have x32 := cell_later hb z32
    have x33 := cell_later hb z33
    have x34 := cell_later hb z34
    have x35 := cell_later hb z35
    clear hb z0 z1 z2 z3 z4 z5 z6 z7 z8 z9 z10 z11 z12 z13 z14 z15 z16 z17 z18 z19 z20 z21 z22 z23 z24 z25 z26 z27 z28 z29 z30 z31 z32 z33 z34 z35
    refine hK.out _ _ ⟨x0, x1, x2, x3, x4, x5, x6, x7, x8, x9, x10, x11, x12, x13, x14, x15, x16, x17, x18, x19, x20, x21, x22, x23, x24, x25, x26, x27, x28, x29, x30, x31, x32, x33, x34, x35⟩ (fun hS => ?_)
    clear hK K
    try simp only [Act.put, List.getElem_toArray, List.getElem_cons_succ, List.getElem_cons_zero, List.setIfInBounds_toArray, List.set_cons_zero, List.set_cons_succ]
    clear x0 x1 x2 x3 x4 x5 x6 x7 x8 x9 x10 x11 x12 x13 x14 x15 x16 x17 x18 x19 x20 x21 x22 x23 x24 x25 x26 x27 x28 x29 x30 x31 x32 x33 x34 x35
    refine wpAnyH_ready (rs := [37]) (by kernel_rfl) (by simp) ?_
    refine AllReadyH.cons rfl (fun K hK => ?_) AllReadyH.nil
    try go_simp
    go_at_call 17
    refine (MG.out _ B1.out).mono ?_
    rintro e w1 ⟨T2, o2, l2, c2, rfl, ht2, hh2, hb⟩
    obtain ⟨z0, z1, z2, z3, z4, z5, z6, z7, z8, z9, z10, z11, z12, z13, z14, z15, z16, z17, z18, z19, z20, z21, z22, z23, z24, z25, z26, z27, z28, z29, z30, z31, z32, z33, z34, z35⟩ := hS
    replace B1 := Lib.hid (below_then B1.out hb)
    have x0 := cell_later hb z0
    have x1 := cell_later hb z1
    have x2 := cell_later hb z2
    have x3 := cell_later hb z3
    have x4 := cell_later hb z4
    have x5 := cell_later hb z5
    have x6 := cell_later hb z6
    have x7 := cell_later hb z7
    have x8 := cell_later hb z8
    have x9 := cell_later hb z9
    have x10 := cell_later hb z10
    have x11 := cell_later hb z11
    have x12 := cell_later hb z12
    have x13 := cell_later hb z13
    have x14 := cell_later hb z14
    have x15 := cell_later hb z15
    have x16 := cell_later hb z16
    have x17 := cell_later hb z17
    have x18 := cell_later hb z18
    have x19 := cell_later hb z19
    have x20 := cell_later hb z20
    have x21 := cell_later hb z21
    have x22 := cell_later hb z22
    have x23 := cell_later hb z23
    have x24 := cell_later hb z24
    have x25 := cell_later hb z25
    have x26 := cell_later hb z26
    have x27 := cell_later hb z27
    have x28 := cell_later hb z28
    have x29 := cell_later hb z29
    have x30 := cell_later hb z30
    have x31 := cell_later hb z31
    have x32 := cell_later hb z32
    have x33 := cell_later hb z33
    have x34 := cell_later hb z34
    have x35 := cell_later hb z35
    have S2 := Lib.hid (SN.out T2 o2 l2 c2 _ ht2.out hh2 B1.out)
    clear ht2 hh2
    clear hb z0 z1 z2 z3 z4 z5 z6 z7 z8 z9 z10 z11 z12 z13 z14 z15 z16 z17 z18 z19 z20 z21 z22 z23 z24 z25 z26 z27 z28 z29 z30 z31 z32 z33 z34 z35
    refine hK.out _ _ ⟨x0, x1, x2, x3, x4, x5, x6, x7, x8, x9, x10, x11, x12, x13, x14, x15, x16, x17, x18, x19, x20, x21, x22, x23, x24, x25, x26, x27, x28, x29, x30, x31, x32, x33, x34, x35⟩ (fun hS => ?_)
    clear hK K
    try simp only [Act.put, List.getElem_toArray, List.getElem_cons_succ, List.getElem_cons_zero, List.setIfInBounds_toArray, List.set_cons_zero, List.set_cons_succ]
    clear x0 x1 x2 x3 x4 x5 x6 x7 x8 x9 x10 x11 x12 x13 x14 x15 x16 x17 x18 x19 x20 x21 x22 x23 x24 x25 x26 x27 x28 x29 x30 x31 x32 x33 x34 x35
    refine wpAnyH_ready (rs := [42]) (by kernel_rfl) (by simp) ?_
    refine AllReadyH.cons rfl (fun K hK => ?_) AllReadyH.nil
    try go_simp
    go_at_call 15
    refine (S2.out).mono ?_
    rintro e w1 ⟨rfl, hb⟩
    obtain ⟨z0, z1, z2, z3, z4, z5, z6, z7, z8, z9, z10, z11, z12, z13, z14, z15, z16, z17, z18, z19, z20, z21, z22, z23, z24, z25, z26, z27, z28, z29, z30, z31, z32, z33, z34, z35⟩ := hS
    replace B1 := Lib.hid (below_then B1.out hb)
    have x0 := cell_later hb z0
    have x1 := cell_later hb z1
    have x2 := cell_later hb z2
    have x3 := cell_later hb z3
    have x4 := cell_later hb z4
    have x5 := cell_later hb z5
    have x6 := cell_later hb z6
    have x7 := cell_later hb z7
    have x8 := cell_later hb z8
    have x9 := cell_later hb z9
    have x10 := cell_later hb z10
    have x11 := cell_later hb z11
    have x12 := cell_later hb z12
    have x13 := cell_later hb z13
    have x14 := cell_later hb z14
    have x15 := cell_later hb z15
    have x16 := cell_later hb z16
    have x17 := cell_later hb z17
    have x18 := cell_later hb z18
    have x19 := cell_later hb z19
    have x20 := cell_later hb z20
    have x21 := cell_later hb z21
    have x22 := cell_later hb z22
    have x23 := cell_later hb z23
    have x24 := cell_later hb z24
    have x25 := cell_later hb z25
    have x26 := cell_later hb z26
    have x27 := cell_later hb z27
    have x28 := cell_later hb z28
    have x29 := cell_later hb z29
    have x30 := cell_later hb z30
    have x31 := cell_later hb z31
    have x32 := cell_later hb z32
    have x33 := cell_later hb z33
    have x34 := cell_later hb z34
    have x35 := cell_later hb z35
    clear S2
    clear hb z0 z1 z2 z3 z4 z5 z6 z7 z8 z9 z10 z11 z12 z13 z14 z15 z16 z17 z18 z19 z20 z21 z22 z23 z24 z25 z26 z27 z28 z29 z30 z31 z32 z33 z34 z35
    refine hK.out _ _ ⟨x0, x1, x2, x3, x4, x5, x6, x7, x8, x9, x10, x11, x12, x13, x14, x15, x16, x17, x18, x19, x20, x21, x22, x23, x24, x25, x26, x27, x28, x29, x30, x31, x32, x33, x34, x35⟩ (fun hS => ?_)
    clear hK K
    try simp only [Act.put, List.getElem_toArray, List.getElem_cons_succ, List.getElem_cons_zero, List.setIfInBounds_toArray, List.set_cons_zero, List.set_cons_succ]
    clear x0 x1 x2 x3 x4 x5 x6 x7 x8 x9 x10 x11 x12 x13 x14 x15 x16 x17 x18 x19 x20 x21 x22 x23 x24 x25 x26 x27 x28 x29 x30 x31 x32 x33 x34 x35
    refine wpAnyH_take (i := 43) (v := ?vs43) rfl (by kernel_rfl) (by kernel_rfl) (by kernel_rfl) (fun _ _ _ h => h) (Or.inl ⟨by rfl, ?hys43⟩) hS ?rests43
    case hys43 => (intro w hSw; (try dsimp only at hSw); (first | (go_simp; done) | (go_simp; with_reducible rfl)))
    try simp only [Act.put, List.getElem_toArray, List.getElem_cons_succ, List.getElem_cons_zero, List.setIfInBounds_toArray, List.set_cons_zero, List.set_cons_succ]
    refine wpAnyH_take (i := 44) (v := ?vs44) rfl (by kernel_rfl) (by kernel_rfl) (by kernel_rfl) (fun _ _ _ h => h) (Or.inl ⟨by rfl, ?hys44⟩) hS ?rests44
    case hys44 => (intro w hSw; (try dsimp only at hSw); (first | (go_simp; done) | (go_simp; with_reducible rfl)))
    try simp only [Act.put, List.getElem_toArray, List.getElem_cons_succ, List.getElem_cons_zero, List.setIfInBounds_toArray, List.set_cons_zero, List.set_cons_succ]
    refine wpAnyH_take (i := 45) (v := ?vs45) rfl (by kernel_rfl) (by kernel_rfl) (by kernel_rfl) (fun _ _ _ h => h) (Or.inl ⟨by rfl, ?hys45⟩) hS ?rests45
    case hys45 => (intro w hSw; (try dsimp only at hSw); (first | (go_simp; done) | (go_simp; with_reducible rfl)))
    try simp only [Act.put, List.getElem_toArray, List.getElem_cons_succ, List.getElem_cons_zero, List.setIfInBounds_toArray, List.set_cons_zero, List.set_cons_succ]
    refine wpAnyH_ready (rs := [46]) (by kernel_rfl) (by simp) ?_
    refine AllReadyH.cons rfl (fun K hK => ?_) AllReadyH.nil
    try go_simp
    go_at_call 8
    refine (awake_any _).mono ?_
    rintro e w1 ⟨rfl, hb⟩
    obtain ⟨z0, z1, z2, z3, z4, z5, z6, z7, z8, z9, z10, z11, z12, z13, z14, z15, z16, z17, z18, z19, z20, z21, z22, z23, z24, z25, z26, z27, z28, z29, z30, z31, z32, z33, z34, z35⟩ := hS
    replace B1 := Lib.hid (below_then B1.out hb)
    have x0 := cell_later hb z0
    have x1 := cell_later hb z1
    have x2 := cell_later hb z2
    have x3 := cell_later hb z3
    have x4 := cell_later hb z4
    have x5 := cell_later hb z5
    have x6 := cell_later hb z6
    have x7 := cell_later hb z7
    have x8 := cell_later hb z8
    have x9 := cell_later hb z9
    have x10 := cell_later hb z10
    have x11 := cell_later hb z11
    have x12 := cell_later hb z12
    have x13 := cell_later hb z13
    have x14 := cell_later hb z14
    have x15 := cell_later hb z15
    have x16 := cell_later hb z16
    have x17 := cell_later hb z17
    have x18 := cell_later hb z18
    have x19 := cell_later hb z19
    have x20 := cell_later hb z20
    have x21 := cell_later hb z21
    have x22 := cell_later hb z22
    have x23 := cell_later hb z23
    have x24 := cell_later hb z24
    have x25 := cell_later hb z25
    have x26 := cell_later hb z26
    have x27 := cell_later hb z27
    have x28 := cell_later hb z28
    have x29 := cell_later hb z29
    have x30 := cell_later hb z30
    have x31 := cell_later hb z31
    have x32 := cell_later hb z32
    have x33 := cell_later hb z33
    have x34 := cell_later hb z34
    have x35 := cell_later hb z35
    clear hb z0 z1 z2 z3 z4 z5 z6 z7 z8 z9 z10 z11 z12 z13 z14 z15 z16 z17 z18 z19 z20 z21 z22 z23 z24 z25 z26 z27 z28 z29 z30 z31 z32 z33 z34 z35
    refine hK.out _ _ ⟨x0, x1, x2, x3, x4, x5, x6, x7, x8, x9, x10, x11, x12, x13, x14, x15, x16, x17, x18, x19, x20, x21, x22, x23, x24, x25, x26, x27, x28, x29, x30, x31, x32, x33, x34, x35⟩ (fun hS => ?_)
    clear hK K
    try simp only [Act.put, List.getElem_toArray, List.getElem_cons_succ, List.getElem_cons_zero, List.setIfInBounds_toArray, List.set_cons_zero, List.set_cons_succ]
    clear x0 x1 x2 x3 x4 x5 x6 x7 x8 x9 x10 x11 x12 x13 x14 x15 x16 x17 x18 x19 x20 x21 x22 x23 x24 x25 x26 x27 x28 x29 x30 x31 x32 x33 x34 x35
    refine wpAnyH_take (i := 47) (v := ?vs47) rfl (by kernel_rfl) (by kernel_rfl) (by kernel_rfl) (fun _ _ _ h => h) (Or.inl ⟨by rfl, ?hys47⟩) hS ?rests47
    case hys47 => (intro w hSw; (try dsimp only at hSw); (first | (go_simp; done) | (go_simp; with_reducible rfl)))
    try simp only [Act.put, List.getElem_toArray, List.getElem_cons_succ, List.getElem_cons_zero, List.setIfInBounds_toArray, List.set_cons_zero, List.set_cons_succ]
    refine wpAnyH_take (i := 48) (v := ?vs48) rfl (by kernel_rfl) (by kernel_rfl) (by kernel_rfl) (fun _ _ _ h => h) (Or.inl ⟨by rfl, ?hys48⟩) hS ?rests48
    case hys48 => (intro w hSw; (try dsimp only at hSw); (first | (go_simp; done) | (go_simp; with_reducible rfl)))
    try simp only [Act.put, List.getElem_toArray, List.getElem_cons_succ, List.getElem_cons_zero, List.setIfInBounds_toArray, List.set_cons_zero, List.set_cons_succ]
    refine wpAnyH_done (by kernel_rfl) ?_ _
    all_goals go_wp2_with fail
    all_goals go_ret
    all_goals exact ⟨rfl, BW0.out.trans (B1.out.mono BW0.out.size)⟩
theorem scomp_walk (ao : Option Addr) (la ca iN kN : Nat) (xs : List ActD) (W : World) (h : Acts W ao la xs) (hla : la ≤ 9223372036854775807) (hi : iN ≤ 255) (hk : kN ≤ 255) :
    Calls Try.prog 4 #[.slice ao la ca, .int .u8 (iN : Int), .int .u8 (kN : Int)] W fun e w' => e = .returned (.bool true) ∧ Below W.heap.size W w' := by
  cases hs : isShort xs la 40 with
  | false => exact scomp_bad ao la ca iN kN xs W h hla hs
  | true =>
    have hl : la ≤ 40 := by
      unfold isShort at hs
      rw [Bool.and_eq_true] at hs
      exact of_decide_eq_true hs.2
    exact scomp_good ao la ca iN kN xs W h hl hs hi hk
end Go.Proofs.Ytpghehckojdgeaa
