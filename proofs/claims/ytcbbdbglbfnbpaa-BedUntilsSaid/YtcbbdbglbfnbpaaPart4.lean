/- Part 4 of the contracts: PBed3. -/
import Derived.Deep.RegionWith
import Derived.Test.YtcbbdbglbfnbpaaPart3

/- package bed: the two beds of Run and Until. -/
set_option linter.unusedVariables false
set_option linter.unusedSimpArgs false
namespace Go.Proofs.Ytcbbdbglbfnbpaa
open Go.RowKit

theorem run_mk (la : Nat) (hla : la ≤ 100000) (w : World) : (Instr.makeSlice 24 (.int .i64 (la : Int)) (.int .i64 (la : Int))).run Try.prog w = .ok (.slice (some ⟨w.heap.size, 0, none⟩) la la) (w.alloc (.cells (ics (List.replicate la 0)) 3)) := by
  obtain ⟨i0, hi, hz0, hz1, hz2⟩ := info_parts (show (Try.prog.info? 3).map (fun i => (i.zero, i.size, i.bytes)) = some (some (.int .i64 0), 1, 8) by kernel_rfl)
  have hb' : (i0.bytes : Int) * (la : Int) ≤ 281474976710656 := by
    have h : ((i0.bytes * la : Nat) : Int) ≤ 281474976710656 := by rw [hz2]; omega
    rwa [Int.natCast_mul] at h
  have hr := run_make (P := Try.prog) w 24 3 i0 _ Try.underlying24 hi hz0 .i64 .i64 la la (by omega) (Int.le_refl _) hb' (by omega)
  simp only [Int.toNat_natCast] at hr
  rw [hr, hz1]
  congr 3
  apply Array.toList_inj.1
  simp [Value.cells, toList_madeCells_one, ics]

/-- two own blocks: the bed now, and room for the next one -/
def Two (la : Nat) (xs : List Int) (W : World) (v10 v11 : Value) (wx : World) : Prop :=
  ∃ Bn Ba : Nat, v10 = .slice (some ⟨Bn, 0, none⟩) la la ∧ v11 = .slice (some ⟨Ba, 0, none⟩) la la ∧ Bn ≠ Ba ∧ W.heap.size ≤ Bn ∧ W.heap.size ≤ Ba ∧ Blk wx Bn xs ∧ Blk wx Ba (List.replicate la 0) ∧ Below W.heap.size W wx

theorem two_dm {la : Nat} {xs : List Int} {W w1 : World} (hB : Blk w1 W.drew.heap.size xs) (hb : Below W.drew.heap.size W.drew w1) (hz : w1.heap.size = W.drew.heap.size + 1) :
    Two la xs W (.slice (some ⟨W.heap.size, 0, none⟩) la la) (.slice (some ⟨W.heap.size + 1, 0, none⟩) la la) (w1.alloc (.cells (ics (List.replicate la 0)) 3)) := by
  have hz' : w1.heap.size = W.heap.size + 1 := hz
  have hb' : Below W.heap.size W w1 := (Below.refl _ _).drew.trans hb
  refine ⟨W.heap.size, W.heap.size + 1, rfl, rfl, by omega, Nat.le_refl _, by omega, hB.alloc _, ?_, hb'.alloc (by omega) _⟩
  rw [← hz']
  exact Blk.new _ _ _ rfl
theorem two_md {la : Nat} {xs : List Int} {W w1 : World} (hB : Blk w1 (W.alloc (.cells (ics (List.replicate la 0)) 3)).drew.heap.size xs) (hb : Below (W.alloc (.cells (ics (List.replicate la 0)) 3)).drew.heap.size (W.alloc (.cells (ics (List.replicate la 0)) 3)).drew w1) :
    Two la xs W (.slice (some ⟨W.heap.size + 1, 0, none⟩) la la) (.slice (some ⟨W.heap.size, 0, none⟩) la la) w1 := by
  have hs : (W.alloc (.cells (ics (List.replicate la 0)) 3)).drew.heap.size = W.heap.size + 1 := World.size_alloc _ _
  have h1 := ((Blk.new W (List.replicate la 0) _ rfl).drew).keep hb
  rw [hs] at hB hb
  exact ⟨W.heap.size + 1, W.heap.size, rfl, rfl, by omega, by omega, Nat.le_refl _, hB, h1, ((Below.refl _ W).alloc (Nat.le_refl _) _).drew.trans (hb.mono (by omega))⟩

/-- the loop of Run -/
def PRun (n d l : Int) (la T : Nat) (xs : List Int) (W : World) (nv av sv iv : Value) (wr : World) : Prop :=
  ∃ (k Bn Ba : Nat) (ys zs : List Int) (s : Int), nv = .slice (some ⟨Bn, 0, none⟩) la la ∧ av = .slice (some ⟨Ba, 0, none⟩) la la ∧ sv = .int .i64 s ∧ iv = .int .i64 (k : Int) ∧ k ≤ T ∧ 0 ≤ s ∧ s ≤ k * 1048576 ∧ Blk wr Bn ys ∧ Blk wr Ba zs ∧ ys.length = la ∧ zs.length = la ∧ Bn ≠ Ba ∧ W.heap.size < Bn ∧ W.heap.size < Ba ∧ Bedly ys ∧ Gr wr W.heap.size n d l ∧ Below W.heap.size W wr ∧
    runL n d l T xs = ((runL n d l (T - k) ys).1, s + (runL n d l (T - k) ys).2.1, k + (runL n d l (T - k) ys).2.2)

def RunPost (n d l t : Int) (xs : List Int) (W : World) (e : Ending) (w' : World) : Prop :=
  (Bedly xs ∧ Grainy n d l ∧ 0 ≤ t ∧ t ≤ 1048576 ∧ OutRunE W (runL n d l t.toNat xs) e w') ∨ (¬ (Bedly xs ∧ Grainy n d l ∧ 0 ≤ t ∧ t ≤ 1048576) ∧ NoneRunE W e w')

theorem run_out {n d l t s : Int} {T k la B : Nat} {xs ys : List Int} {W w : World} (hb : Bedly xs) (hg : Grainy n d l) (ht : 0 ≤ t ∧ t ≤ 1048576) (hT : t.toNat = T) (hr : runL n d l T xs = (ys, s, k)) (hk : Blk w B ys) (hl : ys.length = la) (hla : la ≤ 100000) (hbel : Below W.heap.size W w) :
    RunPost n d l t xs W (.returned (.tuple #[.slice (some ⟨B, 0, none⟩) la la, .int .i64 s, .int .i64 (k : Int), .int .i64 0])) w := by
  refine .inl ⟨hb, hg, ht.1, ht.2, ?_⟩
  rw [hT, hr]
  subst hl
  exact ⟨_, _, rfl, Nat.le_refl _, by unfold maxLen; omega, hk.il rfl, hbel⟩

set_option maxHeartbeats 8000000 in
theorem runP (n d l t : Int) (ao : Option Addr) (la ca : Nat) (xs : List Int) (W : World) (hs : Il W ao la xs) (hla : la ≤ 9223372036854775807) :
    Calls Try.prog 19 #[.agg #[.int .i64 n, .int .i64 d, .int .i64 l], .slice ao la ca, .int .i64 t] W (RunPost n d l t xs W) := by
  have hl := hs.len
  subst hl
  have hbe : Below W.heap.size W (W.alloc (.cells #[.int .i64 n, .int .i64 d, .int .i64 l] 23)) := (Below.refl _ _).alloc (Nat.le_refl _) _
  have GB := Lib.hid hbe
  have GN := Lib.hid (Gr.new W n d l)
  have HS := Lib.hid (hs.keep hbe)
  clear hbe hs
  go_enter Try.func19, Try.ntmps19
  go_wp2_with fail
  refine (isBed_any _ _ _ xs _ HS.out hla).mono ?_
  rintro e w1 ⟨⟨hb, rfl⟩ | ⟨hb, rfl⟩, rfl⟩
  · have HB := Lib.hid hb
    have hb1 := hb.1
    have hb2 := hb.2.1
    clear hb
    have d0 := GN.out.c0
    have d1 := GN.out.c1
    have d2 := GN.out.c2
    go_wp2_with fail
    refine (isGrain_any n d l _).mono ?_
    rintro e w2 ⟨⟨hg, rfl⟩ | ⟨hg, rfl⟩, hb3⟩
    · have HG := Lib.hid hg
      have B2 := Lib.hid (below_then GB.out hb3)
      have N2 := Lib.hid (GN.out.keep hb3)
      have S2 := Lib.hid (HS.out.keep hb3)
      clear hg hb3 d0 d1 d2
      go_wp2_with fail
      refine (isRun_any t _).mono ?_
      rintro e w3 ⟨⟨ht, rfl⟩ | ⟨ht, rfl⟩, rfl⟩
      · have HT := Lib.hid ht
        clear ht
        obtain ⟨T, hT⟩ : ∃ T : Nat, t = (T : Int) := ⟨t.toNat, by have := HT.out; omega⟩
        have t1 : t ≤ (T : Int) := by omega
        have t2 : (T : Int) ≤ t := by omega
        have hTM : T ≤ 1048576 := by have := HT.out; omega
        have HTT := Lib.hid (show t.toNat = T by omega)
        clear hT
        go_upto_region 3 with fail
        go_cut [10, 11] from 28 to 32 (fun v10 v11 wx => Two xs.length xs w3 v10 v11 wx)
        case first =>
          have hmk := run_mk xs.length (by omega)
          go_region_with (first
            | (go_at_call 35; refine (duplicate_any ao xs.length ca xs w3.drew S2.out.drew (by omega) (by omega)).mono ?_; rintro e w4 ⟨rfl, hk, hb4, hz⟩)
            | (go_at_call 35; refine (duplicate_any ao xs.length ca xs (w3.alloc (.cells (ics (List.replicate xs.length 0)) 3)).drew (S2.out.keep ((Below.refl _ _).alloc (Nat.le_refl _) _)).drew (by omega) (by omega)).mono ?_; rintro e w4 ⟨rfl, hk, hb4, hz⟩))
          · have TW2 := Lib.hid (two_dm (la := xs.length) hk hb4 hz)
            clear hk hb4 hz hmk
            go_wp2_with fail
            go_meet
            case rel => exact TW2.out
          · have TW2 := Lib.hid (two_md (la := xs.length) hk hb4)
            clear hk hb4 hz hmk
            go_wp2_with fail
            go_meet
            case rel => exact TW2.out
        case rest =>
          obtain ⟨Bn, Ba, rfl, rfl, hne, hn1, ha1, hbn, hba, hbel⟩ := hcut
          have C1 := Lib.hid hbn
          have C2 := Lib.hid hba
          have CB := Lib.hid (B2.out.trans (hbel.mono B2.out.size))
          have CG := Lib.hid (N2.out.keep hbel)
          have CN := Lib.hid hne
          have Cn := Lib.hid (show W.heap.size < Bn by have := N2.out.lt; omega)
          have Ca := Lib.hid (show W.heap.size < Ba by have := N2.out.lt; omega)
          clear hbn hba hbel hne hn1 ha1
          go_wp2_with fail
          go_loopw [10, 11, 12, 34] (fun nv av sv iv wr => PRun n d l xs.length T xs W nv av sv iv wr) (fun nv av sv iv _ => T - (intOf iv).toNat)
          case atStart => exact ⟨0, Bn, Ba, xs, _, 0, rfl, rfl, rfl, rfl, by omega, by omega, by omega, C1.out, C2.out, rfl, rep_len _, CN.out, Cn.out, Ca.out, HB.out, CG.out, CB.out, by simp⟩
          case round =>
            clear C1 C2 CB CG CN Cn Ca
            obtain ⟨k, B1, B2', ys, zs, s, rfl, rfl, rfl, rfl, hk, hs0, hs1, hy, hz, hyl, hzl, hne, hn1, hn2, hbd, hgr, hbel, hrun⟩ := hrel
            have GY := Lib.hid hy
            have GZ := Lib.hid hz
            have GL := Lib.hid hyl
            have GM := Lib.hid hzl
            have GN2 := Lib.hid hne
            have Gn1 := Lib.hid hn1
            have Gn2 := Lib.hid hn2
            have GD := Lib.hid hbd
            have GG := Lib.hid hgr
            have GW := Lib.hid hbel
            have GR := Lib.hid hrun
            have d0 := hgr.c0
            have d1 := hgr.c1
            have d2 := hgr.c2
            clear hy hz hyl hzl hne hn1 hn2 hbd hgr hbel hrun
            by_cases h1 : k < T
            · have u1 : (k : Int) < t := by omega
              go_wp2_with fail
              refine (tickP_any n d l _ xs.length xs.length xs.length ys zs B2' _ (GY.out.il GL.out) (fun a ha => by cases ha; exact GN2.out) GZ.out GM.out GD.out HG.out).mono ?_
              rintro e w5 ⟨rfl, hk5, hg5⟩
              have K5 := Lib.hid hk5
              have Y5 := Lib.hid (GY.out.grown hg5 (by have := GN2.out; simpa using this))
              have N5 := Lib.hid (GG.out.grown hg5 (by have := Gn2.out; omega))
              have B5 := Lib.hid (below_grown GW.out hg5 GW.out.size (by have := Gn2.out; omega))
              have TL := Lib.hid ((tickL_len n d l ys).trans GL.out)
              have hlb := lost_bound GD.out HG.out
              have GE := Lib.hid (fun h => run_step (s := s) GR.out h1 h)
              have GF := Lib.hid (fun h => run_end (s := s) GR.out (.inr h))
              obtain ⟨q, hq⟩ : ∃ q, q = lostL d l ys := ⟨_, rfl⟩
              rw [← hq] at hlb GE
              rw [← hq]
              clear hk5 hg5 d0 d1 d2 hq
              go_wp2_with fail
              refine (equal_any _ _ _ _ _ _ ys (tickL n d l ys) _ (Y5.out.il GL.out) (K5.out.il TL.out) hla hla).mono ?_
              rintro e w6 ⟨⟨heq, rfl⟩ | ⟨hne, rfl⟩, hd⟩
              · have HE := Lib.hid (GF.out heq.symm)
                have Y6 := Lib.hid (Y5.out.keep hd.below)
                have B6 := Lib.hid (B5.out.trans (hd.below (B := W.heap.size)))
                clear heq hd
                go_wp2
                exact bodyPost_ret (v := .tuple #[.slice (some ⟨B1, 0, none⟩) xs.length xs.length, .int .i64 s, .int .i64 (k : Int), .int .i64 0]) (by simp [results, Try.results19, go_sem]) rfl (run_out HB.out HG.out HT.out HTT.out HE.out Y6.out GL.out (by omega) B6.out)
              · have HE := Lib.hid (GE.out (fun h => hne h.symm))
                have Y6 := Lib.hid (Y5.out.keep hd.below)
                have K6 := Lib.hid (K5.out.keep hd.below)
                have N6 := Lib.hid (N5.out.keep hd.below)
                have B6 := Lib.hid (B5.out.trans (hd.below (B := W.heap.size)))
                have D6 := Lib.hid (tick_bed GD.out HG.out)
                clear hne hd
                go_wp2
                go_roundw
                case rel => exact ⟨k + 1, B2', B1, tickL n d l ys, ys, s + q, rfl, rfl, rfl, by go_num, by omega, by omega, by omega, K6.out, Y6.out, TL.out, GL.out, GN2.out.symm, Gn2.out, Gn1.out, D6.out, N6.out, B6.out, HE.out⟩
                case measure => simp only [intOf]; omega
            · have u1 : ¬ (k : Int) < t := by omega
              have HE := Lib.hid (run_end GR.out (.inl (by omega)))
              have HKT := Lib.hid (show (k : Int) = t by omega)
              go_wp2
              refine bodyPost_ret (v := .tuple #[.slice (some ⟨B1, 0, none⟩) xs.length xs.length, .int .i64 s, .int .i64 t, .int .i64 0]) (by simp [results, Try.results19, go_sem]) rfl ?_
              rw [← HKT.out]
              rw [← HKT.out] at HTT HT
              exact run_out HB.out HG.out HT.out HTT.out HE.out GY.out GL.out (by omega) GW.out
      · have HT := Lib.hid ht
        clear ht
        go_wp2
        refine bodyPost_ret (v := .tuple #[.slice none 0 0, .int .i64 0, .int .i64 0, .int .i64 2]) (by simp [results, Try.results19, go_sem]) rfl (.inr ⟨fun h => HT.out h.2.2, _, _, rfl, by unfold maxLen; omega, B2.out⟩)
    · have HG := Lib.hid hg
      have B2 := Lib.hid (below_then GB.out hb3)
      clear hg hb3 d0 d1 d2
      go_wp2
      refine bodyPost_ret (v := .tuple #[.slice none 0 0, .int .i64 0, .int .i64 0, .int .i64 2]) (by simp [results, Try.results19, go_sem]) rfl (.inr ⟨fun h => HG.out h.2.1, _, _, rfl, by unfold maxLen; omega, B2.out⟩)
  · have HB := Lib.hid hb
    clear hb
    go_wp2
    refine bodyPost_ret (v := .tuple #[.slice none 0 0, .int .i64 0, .int .i64 0, .int .i64 2]) (by simp [results, Try.results19, go_sem]) rfl (.inr ⟨fun h => HB.out h.1, _, _, rfl, by unfold maxLen; omega, GB.out⟩)

theorem runOk : RunOk := fun n d l t ao la ca xs W hs hla => runP n d l t ao la ca xs W hs hla

/-- the loop of Until -/
def PUntil (n d l low high : Int) (la M : Nat) (xs : List Int) (W : World) (nv av iv : Value) (wr : World) : Prop :=
  ∃ (k Bn Ba : Nat) (ys zs : List Int), nv = .slice (some ⟨Bn, 0, none⟩) la la ∧ av = .slice (some ⟨Ba, 0, none⟩) la la ∧ iv = .int .i64 (k : Int) ∧ k ≤ M + 1 ∧ ys = afterL n d l xs k ∧ (∀ j, j < k → ¬ In low high (afterL n d l xs j)) ∧ Blk wr Bn ys ∧ Blk wr Ba zs ∧ ys.length = la ∧ zs.length = la ∧ Bn ≠ Ba ∧ W.heap.size < Bn ∧ W.heap.size < Ba ∧ Bedly ys ∧ Gr wr W.heap.size n d l ∧ Below W.heap.size W wr

def UntilPost (n d l low high m : Int) (xs : List Int) (W : World) (e : Ending) (w' : World) : Prop :=
  (Bedly xs ∧ Grainy n d l ∧ 0 ≤ m ∧ m ≤ 1048576 ∧ OutUntil n d l low high m.toNat xs W e w') ∨ (¬ (Bedly xs ∧ Grainy n d l ∧ 0 ≤ m ∧ m ≤ 1048576) ∧ e = .returned (.tuple #[.int .i64 0, .int .i64 2]) ∧ Below W.heap.size W w')

theorem after_rest {n d l : Int} {xs : List Int} {k : Nat} (h : tickL n d l (afterL n d l xs k) = afterL n d l xs k) : ∀ j, afterL n d l xs (k + j) = afterL n d l xs k
  | 0 => rfl
  | j + 1 => by
    rw [← Nat.add_assoc]
    show tickL n d l (afterL n d l xs (k + j)) = _
    rw [after_rest h j, h]

set_option maxHeartbeats 8000000 in
theorem untilP (n d l low high t : Int) (ao : Option Addr) (la ca : Nat) (xs : List Int) (W : World) (hs : Il W ao la xs) (hla : la ≤ 9223372036854775807) :
    Calls Try.prog 21 #[.agg #[.int .i64 n, .int .i64 d, .int .i64 l], .slice ao la ca, .int .i64 low, .int .i64 high, .int .i64 t] W (UntilPost n d l low high t xs W) := by
  have hl := hs.len
  subst hl
  have hbe : Below W.heap.size W (W.alloc (.cells #[.int .i64 n, .int .i64 d, .int .i64 l] 23)) := (Below.refl _ _).alloc (Nat.le_refl _) _
  have GB := Lib.hid hbe
  have GN := Lib.hid (Gr.new W n d l)
  have HS := Lib.hid (hs.keep hbe)
  clear hbe hs
  go_enter Try.func21, Try.ntmps21
  go_wp2_with fail
  refine (isBed_any _ _ _ xs _ HS.out hla).mono ?_
  rintro e w1 ⟨⟨hb, rfl⟩ | ⟨hb, rfl⟩, rfl⟩
  · have HB := Lib.hid hb
    have hb1 := hb.1
    have hb2 := hb.2.1
    clear hb
    have d0 := GN.out.c0
    have d1 := GN.out.c1
    have d2 := GN.out.c2
    go_wp2_with fail
    refine (isGrain_any n d l _).mono ?_
    rintro e w2 ⟨⟨hg, rfl⟩ | ⟨hg, rfl⟩, hb3⟩
    · have HG := Lib.hid hg
      have B2 := Lib.hid (below_then GB.out hb3)
      have N2 := Lib.hid (GN.out.keep hb3)
      have S2 := Lib.hid (HS.out.keep hb3)
      clear hg hb3 d0 d1 d2
      go_wp2_with fail
      refine (isRun_any t _).mono ?_
      rintro e w3 ⟨⟨ht, rfl⟩ | ⟨ht, rfl⟩, rfl⟩
      · have HT := Lib.hid ht
        clear ht
        obtain ⟨T, hT⟩ : ∃ T : Nat, t = (T : Int) := ⟨t.toNat, by have := HT.out; omega⟩
        have t1 : t ≤ (T : Int) := by omega
        have t2 : (T : Int) ≤ t := by omega
        have hTM : T ≤ 1048576 := by have := HT.out; omega
        have HTT := Lib.hid (show t.toNat = T by omega)
        clear hT
        go_upto_region 3 with fail
        go_cut [12, 13] from 28 to 32 (fun v10 v11 wx => Two xs.length xs w3 v10 v11 wx)
        case first =>
          have hmk := run_mk xs.length (by omega)
          go_region_with (first
            | (go_at_call 35; refine (duplicate_any ao xs.length ca xs w3.drew S2.out.drew (by omega) (by omega)).mono ?_; rintro e w4 ⟨rfl, hk, hb4, hz⟩)
            | (go_at_call 35; refine (duplicate_any ao xs.length ca xs (w3.alloc (.cells (ics (List.replicate xs.length 0)) 3)).drew (S2.out.keep ((Below.refl _ _).alloc (Nat.le_refl _) _)).drew (by omega) (by omega)).mono ?_; rintro e w4 ⟨rfl, hk, hb4, hz⟩))
          · have TW2 := Lib.hid (two_dm (la := xs.length) hk hb4 hz)
            clear hk hb4 hz hmk
            go_wp2_with fail
            go_meet
            case rel => exact TW2.out
          · have TW2 := Lib.hid (two_md (la := xs.length) hk hb4)
            clear hk hb4 hz hmk
            go_wp2_with fail
            go_meet
            case rel => exact TW2.out
        case rest =>
          obtain ⟨Bn, Ba, rfl, rfl, hne, hn1, ha1, hbn, hba, hbel⟩ := hcut
          have C1 := Lib.hid hbn
          have C2 := Lib.hid hba
          have CB := Lib.hid (B2.out.trans (hbel.mono B2.out.size))
          have CG := Lib.hid (N2.out.keep hbel)
          have CN := Lib.hid hne
          have Cn := Lib.hid (show W.heap.size < Bn by have := N2.out.lt; omega)
          have Ca := Lib.hid (show W.heap.size < Ba by have := N2.out.lt; omega)
          clear hbn hba hbel hne hn1 ha1
          go_wp2_with fail
          go_loopw [12, 13, 35] (fun nv av iv wr => PUntil n d l low high xs.length T xs W nv av iv wr) (fun nv av iv _ => T + 1 - (intOf iv).toNat)
          case atStart => exact ⟨0, Bn, Ba, xs, _, rfl, rfl, rfl, by omega, rfl, fun j hj => absurd hj (by omega), C1.out, C2.out, rfl, rep_len _, CN.out, Cn.out, Ca.out, HB.out, CG.out, CB.out⟩
          case round =>
            clear C1 C2 CB CG CN Cn Ca
            obtain ⟨k, B1, B2', ys, zs, rfl, rfl, rfl, hk, hys, hall, hy, hz, hyl, hzl, hne, hn1, hn2, hbd, hgr, hbel⟩ := hrel
            have GYS := Lib.hid hys
            have GA := Lib.hid hall
            have GY := Lib.hid hy
            have GZ := Lib.hid hz
            have GL := Lib.hid hyl
            have GM := Lib.hid hzl
            have GN2 := Lib.hid hne
            have Gn1 := Lib.hid hn1
            have Gn2 := Lib.hid hn2
            have GD := Lib.hid hbd
            have GG := Lib.hid hgr
            have GW := Lib.hid hbel
            have d0 := hgr.c0
            have d1 := hgr.c1
            have d2 := hgr.c2
            clear hys hall hy hz hyl hzl hne hn1 hn2 hbd hgr hbel
            by_cases h1 : k < T + 1
            · have u1 : (k : Int) < t + 1 := by omega
              go_wp2_with fail
              refine (are_any _ _ _ low high ys _ (GY.out.il GL.out) hla).mono ?_
              rintro e w4 ⟨⟨hin, rfl⟩ | ⟨hin, rfl⟩, rfl⟩
              · have GIN := Lib.hid hin
                clear hin
                go_wp2
                exact bodyPost_ret (v := .tuple #[.int .i64 (k : Int), .int .i64 0]) (by simp [results, Try.results21, go_sem]) rfl (.inl ⟨HB.out, HG.out, HT.out.1, HT.out.2, .inl ⟨k, by rw [HTT.out]; omega, GYS.out ▸ GIN.out, GA.out, rfl⟩, GW.out⟩)
              · have GIN := Lib.hid hin
                clear hin
                go_wp2_with fail
                refine (tickP_any n d l _ xs.length xs.length xs.length ys zs B2' _ (GY.out.il GL.out) (fun a ha => by cases ha; exact GN2.out) GZ.out GM.out GD.out HG.out).mono ?_
                rintro e w5 ⟨rfl, hk5, hg5⟩
                have K5 := Lib.hid hk5
                have Y5 := Lib.hid (GY.out.grown hg5 (by have := GN2.out; simpa using this))
                have N5 := Lib.hid (GG.out.grown hg5 (by have := Gn2.out; omega))
                have B5 := Lib.hid (below_grown GW.out hg5 GW.out.size (by have := Gn2.out; omega))
                have TL := Lib.hid ((tickL_len n d l ys).trans GL.out)
                clear hk5 hg5 d0 d1 d2
                go_wp2_with fail
                refine (equal_any _ _ _ _ _ _ ys (tickL n d l ys) _ (Y5.out.il GL.out) (K5.out.il TL.out) hla hla).mono ?_
                rintro e w6 ⟨⟨heq, rfl⟩ | ⟨hne, rfl⟩, hd⟩
                · have HE := Lib.hid heq
                  have B6 := Lib.hid (B5.out.trans (hd.below (B := W.heap.size)))
                  clear heq hd
                  go_wp2
                  refine bodyPost_ret (v := .tuple #[.int .i64 0, .int .i64 6]) (by simp [results, Try.results21, go_sem]) rfl (.inl ⟨HB.out, HG.out, HT.out.1, HT.out.2, .inr ⟨fun j hj => ?_, rfl⟩, B6.out⟩)
                  by_cases hjk : j < k
                  · exact GA.out j hjk
                  · obtain ⟨i, rfl⟩ : ∃ i, j = k + i := ⟨j - k, by omega⟩
                    rw [after_rest (by rw [← GYS.out]; exact HE.out.symm) i, ← GYS.out]
                    exact GIN.out
                · have Y6 := Lib.hid (Y5.out.keep hd.below)
                  have K6 := Lib.hid (K5.out.keep hd.below)
                  have N6 := Lib.hid (N5.out.keep hd.below)
                  have B6 := Lib.hid (B5.out.trans (hd.below (B := W.heap.size)))
                  have D6 := Lib.hid (tick_bed GD.out HG.out)
                  clear hne hd
                  go_wp2
                  go_roundw
                  case rel =>
                    refine ⟨k + 1, B2', B1, tickL n d l ys, ys, rfl, rfl, by go_num, by omega, by rw [GYS.out]; rfl, fun j hj => ?_, K6.out, Y6.out, TL.out, GL.out, GN2.out.symm, Gn2.out, Gn1.out, D6.out, N6.out, B6.out⟩
                    rcases Nat.lt_succ_iff_lt_or_eq.1 hj with hj | rfl
                    · exact GA.out j hj
                    · exact fun h => GIN.out (GYS.out ▸ h)
                  case measure => simp only [intOf]; omega
            · have u1 : ¬ (k : Int) < t + 1 := by omega
              go_wp2
              exact bodyPost_ret (v := .tuple #[.int .i64 0, .int .i64 6]) (by simp [results, Try.results21, go_sem]) rfl (.inl ⟨HB.out, HG.out, HT.out.1, HT.out.2, .inr ⟨fun j hj => GA.out j (by rw [HTT.out] at hj; omega), rfl⟩, GW.out⟩)
      · have HT := Lib.hid ht
        clear ht
        go_wp2
        refine bodyPost_ret (v := .tuple #[.int .i64 0, .int .i64 2]) (by simp [results, Try.results21, go_sem]) rfl (.inr ⟨fun h => HT.out h.2.2, rfl, B2.out⟩)
    · have HG := Lib.hid hg
      have B2 := Lib.hid (below_then GB.out hb3)
      clear hg hb3 d0 d1 d2
      go_wp2
      refine bodyPost_ret (v := .tuple #[.int .i64 0, .int .i64 2]) (by simp [results, Try.results21, go_sem]) rfl (.inr ⟨fun h => HG.out h.2.1, rfl, B2.out⟩)
  · have HB := Lib.hid hb
    clear hb
    go_wp2
    refine bodyPost_ret (v := .tuple #[.int .i64 0, .int .i64 2]) (by simp [results, Try.results21, go_sem]) rfl (.inr ⟨fun h => HB.out h.1, rfl, GB.out⟩)

theorem untilOk : UntilOk := fun n d l low high m ao la ca xs W hs hla => untilP n d l low high m ao la ca xs W hs hla

/-- package bed is as the document has it -/
theorem bedOk : BedOk := ⟨tickOk, runOk, steepOk, untilOk, turnOk, spreadOk⟩
end Go.Proofs.Ytcbbdbglbfnbpaa
