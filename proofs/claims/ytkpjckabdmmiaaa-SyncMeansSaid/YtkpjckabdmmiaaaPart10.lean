/- Part 10 of the contracts: NMeansW. -/
import Derived.Test.YtkpjckabdmmiaaaPart9

/- SyncMeans, walked. (By gen_nmeans.py.) -/
set_option linter.unusedVariables false
set_option linter.unusedSimpArgs false
namespace Go.Proofs.Ytkpjckabdmmiaaa
open Go.RowKit Go.Shelf Go.Sort

theorem inv_start (k : Nat) (h1 : 1 ≤ k) (h8 : k ≤ 8) : Inv 0 k (netOf (List.replicate k slot0) []) [] := by
  have hT : ∀ i, i < k → (netOf (List.replicate k slot0) []).T[i]! = Tab.none := fun i hi => by
    rw [netOf_at (by simpa using hi), rep_at hi]; rfl
  have hl : (netOf (List.replicate k slot0) []).T.length = k := by simp [netOf]
  have hM : (netOf (List.replicate k slot0) []).M.length = 0 := rfl
  refine ⟨⟨by omega, by omega, by omega, fun i hi => ?_, fun i hi => by omega⟩, hl, fun i hi s => ?_, fun i hi => by omega, fun w hw => (by cases hw), fun w hw => (by cases hw), fun w hw => (by cases hw), fun w hw => (by cases hw)⟩
  · rw [hT i (by omega)]; exact Tab.none_ok
  · rw [hT i hi]; exact Nat.zero_le _
section
variable {W wr : World} {m b g k : Nat} {lo : Option Addr} {lc : Nat} {ts : List Slot} {ms : List LSlot} {wo : Option Addr} {n cap : Nat} {ws : List Wr}
theorem SM.more {q : Nat} (h : SM W wr m b g k lo lc ts ms wo n cap ws) (hq : m ≤ q) : SM W wr q b g k lo lc ts ms wo n cap ws := ⟨h.net.more hq, h.row, h.apart, h.hi, h.hib, h.below, h.len⟩
theorem SM.far {w' : World} {gh : Nat} (h : SM W wr m b g k lo lc ts ms wo n cap ws) (hf : Frm (fun j => j = gh) wr w') (hn : NoStr wr (fun j => j = gh)) (h1 : ¬ Foot b g lo gh) (h2 : ∀ o s, wo ≠ some ⟨gh, o, s⟩) (h3 : W.heap.size ≤ gh) : SM W w' m b g k lo lc ts ms wo n cap ws :=
  ⟨h.net.far hf hn (fun j hj e => h1 (e ▸ hj)), h.row.far hf (fun j o s e ej => h2 o s (by rw [e, ej])), h.apart, h.hi, h.hib, h.below.trans (hf.below h.below.size (fun j hj e => by omega)), h.len⟩
theorem SM.fresh (h : SM W wr m b g k lo lc ts ms wo n cap ws) {j : Nat} (hj : wr.heap.size ≤ j) : ¬ Foot b g lo j ∧ (∀ o s, wo ≠ some ⟨j, o, s⟩) ∧ W.heap.size ≤ j := by
  refine ⟨fun e => ?_, fun o s e => ?_, Nat.le_trans h.below.size hj⟩
  · rcases e with e | e | ⟨o, s, e⟩
    · have := h.net.lt_b; omega
    · have := h.net.lt_g; omega
    · have : j < wr.heap.size := (World.ownsRow.lt h.net.lt j (by rw [e]; rfl)).2
      omega
  · have := h.lt_row j o s e; omega
theorem SM.gone1 {gw j r : Nat} (h : SM W wr m b g k lo lc ts ms (some ⟨gw, 0, none⟩) n cap ws) (hj : j < ws.length) (hr : r < 8) : SM W (wr.setCell ⟨gw, j * 13 + 4 + r, none⟩ (.bool true)).drew m b g k lo lc ts ms (some ⟨gw, 0, none⟩) n cap (ws.set j ⟨ws[j]!.e, fun i => if i = r then true else ws[j]!.gone i, ws[j]!.any⟩) := by
  have hl := h.row.len
  have e1 := flatW_gone (l := ws) (j := j) (r := r) hj hr
  have S1 := h.set (o := j * 13 + (4 + r)) (v := .bool true) (by omega) (by omega) (by rw [List.length_set]) e1
  rw [← Nat.add_assoc] at S1
  exact S1.keep (drew_below _)
theorem SM.any1 {gw j : Nat} (h : SM W wr m b g k lo lc ts ms (some ⟨gw, 0, none⟩) n cap ws) (hj : j < ws.length) : SM W (wr.setCell ⟨gw, j * 13 + 12, none⟩ (.bool true)) m b g k lo lc ts ms (some ⟨gw, 0, none⟩) n cap (ws.set j ⟨ws[j]!.e, ws[j]!.gone, true⟩) := by
  have hl := h.row.len
  exact h.set (o := j * 13 + 12) (v := .bool true) (by omega) (by omega) (by rw [List.length_set]) (flatW_any hj)
end
/-- what is fresh stays out of a net's way -/
theorem mark_set {l : List Wr} {T : Tab} {r j : Nat} {key : ByteArray} {w : Wr} (hj : j < l.length) (hw : l[j]! = w) (hh : w.e ∈ T.L ∧ w.e.key = key) :
    (l.set j ⟨l[j]!.e, fun i => if i = r then true else l[j]!.gone i, l[j]!.any⟩).set j ⟨(l.set j ⟨l[j]!.e, fun i => if i = r then true else l[j]!.gone i, l[j]!.any⟩)[j]!.e, (l.set j ⟨l[j]!.e, fun i => if i = r then true else l[j]!.gone i, l[j]!.any⟩)[j]!.gone, true⟩ = l.set j (mark T r key w) := by
  rw [set_at hj, if_pos rfl, hw, List.set_set]
  unfold mark
  rw [if_pos hh]

set_option maxRecDepth 100000 in
set_option maxHeartbeats 4000000 in
theorem means_bad (s : Nat) (ao : Option Addr) (la ca : Nat) (xs : List DeedD) (W : World) (h : Deeds W ao la xs) (hla : la ≤ 9223372036854775807) (hs : s ≤ 255) (hb : isBrief xs la 60 = false) : Calls Try.prog 8 #[.int .u8 (s : Int), .slice ao la ca] W fun e w' => e = .returned (.bool true) ∧ Below W.heap.size W w' := by
  have BR := brief_any ao la ca 60 xs W h hla (by omega)
  rw [hb] at BR
  have BR := Lib.hid BR
  clear h
  go_enter Try.func8, Try.ntmps8
  go_wp2_with (first | (go_at_call 20; refine BR.out.mono ?_; rintro e w1 ⟨rfl, rfl⟩) | (go_at_call 10; refine (awake_any _).mono ?_; rintro e w1 ⟨rfl, hb1⟩; have B1 := Lib.hid hb1; clear hb1))
  go_ret
  exact ⟨rfl, B1.out⟩

set_option maxRecDepth 100000 in
set_option maxHeartbeats 40000000 in
theorem means_good (s : Nat) (ao : Option Addr) (la ca : Nat) (xs : List DeedD) (W : World) (h : Deeds W ao la xs) (hla : la ≤ 9223372036854775807) (hs : s ≤ 255) (hb : isBrief xs la 60 = true) (hl : la ≤ 60) : Calls Try.prog 8 #[.int .u8 (s : Int), .slice ao la ca] W fun e w' => e = .returned (.bool true) ∧ Below W.heap.size W w' := by
  have BR := brief_any ao la ca 60 xs W h hla (by omega)
  rw [hb] at BR
  have BR := Lib.hid BR
  have HD := Lib.hid h
  obtain ⟨k, hk⟩ : ∃ k, k = 1 + s % 8 := ⟨_, rfl⟩
  have k1 : 1 ≤ k := by omega
  have k8 : k ≤ 8 := by omega
  have hkz : 1 + (s : Int) % 8 = (k : Int) := by omega
  have NN := Lib.hid (newNet_ok k W k1 k8)
  have s0 : (0 : Int) ≤ (s : Int) := by omega
  have s1 : (s : Int) ≤ 255 := by omega
  clear h hb hla hk
  go_enter Try.func8, Try.ntmps8
  go_upto_region 5 with (first | (go_at_call 20; refine BR.out.mono ?_; rintro e w1 ⟨rfl, rfl⟩) | (go_at_call 21; refine NN.out.mono ?_; rintro e w2 ⟨rfl, hn2, hb2⟩; have N2 := Lib.hid hn2; have B2 := Lib.hid hb2; clear hn2 hb2))
  clear hkz BR NN
  obtain ⟨b, hbe⟩ : ∃ b, b = W.heap.size + 1 := ⟨_, rfl⟩
  obtain ⟨g, hge⟩ : ∃ g, g = W.heap.size := ⟨_, rfl⟩
  have S0 : Hid (SM W w2 0 b g k none 0 (List.replicate k slot0) [] none 0 0 []) := Lib.hid ⟨by rw [hbe, hge]; exact N2.out, WR.start _, (fun j hj o s e => by cases e), (fun j hj => by
    rcases hj with e | e | ⟨o, s, e⟩
    · omega
    · omega
    · cases e), (fun j o s e => by cases e), B2.out, by simp⟩
  have I0 : Hid (Inv 0 k (netOf (List.replicate k slot0) []) []) := Lib.hid (inv_start k k1 k8)
  rw [← hbe]
  clear hbe hge N2 B2 s0 s1 hs
  have hlz : (la : Int) ≤ 60 := by omega
  have hkz8 : (k : Int) ≤ 8 := by omega
  go_wp2
  go_loopg [8, 9, 10, 11, 12, 13, 14, 15, 16, 17, 18, 19, 20, 21] la (fun gg s8 s9 _ _ _ _ _ _ _ _ _ _ _ _ wr => ∃ (i : Nat) (lo : Option Addr) (lc : Nat) (ts : List Slot) (ms : List LSlot) (wo : Option Addr) (n cap : Nat) (ws : List Wr), s9 = .int .i64 (i : Int) ∧ i ≤ la ∧ la - i ≤ gg ∧ s8 = .slice wo n cap ∧ n ≤ i ∧ Hid (SM W wr i b g k lo lc ts ms wo n cap ws) ∧ Hid (Inv i k (netOf ts ms) ws))
  case atStart => exact ⟨0, none, 0, _, [], none, 0, 0, [], rfl, Nat.zero_le _, by omega, rfl, Nat.le_refl _, S0, I0⟩
  case round =>
    clear S0 I0
    obtain ⟨i, lo, lc, ts, ms, wo, n, cap, ws, rfl, hi, hgg, rfl, hni, HS, HI⟩ := hrel
    have i0 : (0 : Int) ≤ (i : Int) := by omega
    by_cases hlt : i < la
    · have t1 : (i : Int) < (la : Int) := by omega
      obtain ⟨ga, oa, hga, hd, hfine, hgl⟩ := (HD.out.keep HS.out.below).at hlt
      obtain ⟨x, hx⟩ : ∃ x, x = xs[i]! := ⟨_, rfl⟩
      rw [← hx] at hd hfine
      clear hx
      subst hga
      obtain ⟨d0, d1, d2, d3, d4⟩ := hd
      go_upto_region 12 with fail
      obtain ⟨V1, hV1⟩ : ∃ V1, V1 = wr.alloc (.cells #[.int .u8 (x.kind : Int), .int .i64 x.a, .int .i64 x.b, .string x.key, .string x.val] 60) := ⟨_, rfl⟩
      have HS1 : Hid (SM W V1 i b g k lo lc ts ms wo n cap ws) := Lib.hid (by rw [hV1]; exact HS.out.keep (box_below _ _))
      have HD1 : Hid (V1.heap[wr.heap.size]? = some (.cells #[.int .u8 (x.kind : Int), .int .i64 x.a, .int .i64 x.b, .string x.key, .string x.val] 60 (0, 0))) := Lib.hid (by rw [hV1]; exact heap_alloc_new _ _)
      have HF1 := Lib.hid (HS.out.fresh (Nat.le_refl _))
      have hD1 : wr.heap.size < V1.heap.size := (Array.getElem?_eq_some_iff.1 HD1.out).1
      rw [← hV1]
      clear hV1 d0 d1 d2 d3 d4 HS hgl
      generalize wr.heap.size = D at HD1 HF1 hD1 ⊢
      have kb := hfine.1
      have k2 : (x.kind : Int) ≤ 255 := by omega
      have k3 : (0 : Int) ≤ (x.kind : Int) := by omega
      have HFI := Lib.hid hfine
      clear hfine kb
      obtain ⟨d0, d1, d2, d3, d4⟩ := cell5 HD1.out
      go_upto_region 13 with fail
      go_cut [62] (fun v wx => v = .bool (decide (x.kind % 7 < 3 ∧ 0 ≤ x.a ∧ x.a < (k : Int))) ∧ wx = V1)
      · as_aux_lemma =>
        by_cases c1 : x.kind % 7 < 3
        · have e1 : decide ((x.kind : Int) % 7 < 3) = true := by simp; omega
          have e1' : (x.kind : Int) % 7 < 3 := by omega
          by_cases c2 : 0 ≤ x.a
          · have e2 : decide (0 ≤ x.a) = true := by simpa using c2
            go_wp2_with fail
            all_goals go_meet
            all_goals exact ⟨by simp [c1, c2], rfl⟩
          · have e2 : decide (0 ≤ x.a) = false := by simpa using c2
            go_wp2_with fail
            all_goals go_meet
            all_goals exact ⟨by rw [decide_eq_false (by omega)], rfl⟩
        · have e1 : decide ((x.kind : Int) % 7 < 3) = false := by simp; omega
          have e1' : ¬ (x.kind : Int) % 7 < 3 := by omega
          go_wp2_with fail
          all_goals go_meet
          all_goals exact ⟨by rw [decide_eq_false (by omega)], rfl⟩
      · obtain ⟨rfl, rfl⟩ := hcut
        generalize hq : decide (x.kind % 7 < 3 ∧ 0 ≤ x.a ∧ x.a < (k : Int)) = q
        go_upto_if 62 with fail
        go_cut [8] (fun v8 wx => ∃ (lo : Option Addr) (lc : Nat) (ts : List Slot) (ms : List LSlot) (wo : Option Addr) (n cap : Nat) (ws : List Wr), v8 = .slice wo n cap ∧ n ≤ i + 1 ∧ Hid (SM W wx (i + 1) b g k lo lc ts ms wo n cap ws) ∧ Hid (Inv (i + 1) k (netOf ts ms) ws))
        · cases q with
          | false =>
            as_aux_lemma =>
            have hx := of_decide_eq_false hq
            have CP := Lib.hid (perform_any HS1.out.net (by omega) x HFI.out)
            have IO := Lib.hid (HI.out.other x hx)
            have UP := Lib.hid (deed_up HS1.out.net.ok x)
            have LL : Hid ((deedR (netOf ts ms) x).1.T.length = k) := Lib.hid (by rw [UP.out.len, netOf_len, HS1.out.len])
            clear hq hx
            go_wp2_with (go_at_call 31; refine CP.out.mono ?_; intro e w3 ho; obtain rfl := ho.1; obtain ⟨lo', lc', ts', ms', hs3, hr3, hf3⟩ := HS1.out.step ho LL.out; have HS3 := Lib.hid hs3; have HR3 := Lib.hid hr3.out; clear ho hs3 hr3 hf3)
            go_meet
            exact ⟨lo', lc', ts', ms', wo, n, cap, ws, rfl, by omega, HS3, Lib.hid (by rw [HR3.out]; exact IO.out.more (Nat.le_succ i))⟩
          | true =>
            have hx := of_decide_eq_true hq
            obtain ⟨r, hr⟩ := Int.eq_ofNat_of_zero_le hx.2.1
            have HR0 := Lib.hid hr
            have hrk : r < k := by omega
            have hr8 : r < 8 := by omega
            have HX3 := Lib.hid hx.1
            rw [hr] at d1 HD1
            clear hq hx hr
            have hmk := make_bools n (by omega)
            have r0 : (0 : Int) ≤ (r : Int) := by omega
            have r8 : (r : Int) < 8 := by omega
            have rk : (r : Int) < (k : Int) := by omega
            go_upto_region 15 with fail
            obtain ⟨V2, hV2⟩ : ∃ V2, V2 = wc.alloc (.cells (Array.replicate n (Value.bool false)) 4) := ⟨_, rfl⟩
            have HWL : Hid (ws.length = n) := Lib.hid HS1.out.row.len
            obtain ⟨T, hT⟩ : ∃ T, T = ts[r]!.T := ⟨_, rfl⟩
            have HTE := Lib.hid hT
            have HS2 : Hid (SM W V2 i b g k lo lc ts ms wo n cap ws) := Lib.hid (by rw [hV2]; exact HS1.out.keep (box_below _ _))
            have HB2 : Hid (Bools V2 wc.heap.size (hadL ws T.L 0)) := Lib.hid (by rw [hadL_zero, HWL.out]; unfold Bools; rw [hV2, heap_alloc_new]; simp)
            have HD2 : Hid (V2.heap[D]? = some (.cells #[.int .u8 (x.kind : Int), .int .i64 (r : Int), .int .i64 x.b, .string x.key, .string x.val] 60 (0, 0))) := Lib.hid (by rw [hV2]; exact row_keep (box_below _ _) HD1.out)
            have HFG := Lib.hid (HS1.out.fresh (j := wc.heap.size) (Nat.le_refl _))
            have hDG : D ≠ wc.heap.size := by omega
            rw [← hV2]
            clear hV2 hT d0 d1 d2 d3 d4 hmk HD1
            generalize wc.heap.size = gh at HB2 HFG hDG hD1 ⊢
            go_wp2
            go_loopg [13, 68] n (fun gg _ s68 wq => ∃ j : Nat, s68 = .int .i64 (j : Int) ∧ j ≤ n ∧ n - j ≤ gg ∧ Hid (SM W wq i b g k lo lc ts ms wo n cap ws) ∧ Hid (Bools wq gh (hadL ws T.L j)) ∧ Hid (wq.heap[D]? = some (.cells #[.int .u8 (x.kind : Int), .int .i64 (r : Int), .int .i64 x.b, .string x.key, .string x.val] 60 (0, 0))))
            case atStart => exact ⟨0, rfl, Nat.zero_le _, by omega, HS2, HB2, HD2⟩
            case round =>
              clear HS2 HB2 HD2 HS1
              obtain ⟨j, rfl, hj, hgj, HS, HB, HDD⟩ := hrel
              have j0 : (0 : Int) ≤ (j : Int) := by omega
              by_cases hjn : j < n
              · have u1 : (j : Int) < (n : Int) := by omega
                obtain ⟨gw, hgw, _⟩ := HS.out.row.form (by omega)
                subst hgw
                have wa := HS.out.row.at hjn
                have HST := Lib.hid (hadL_step (ws := ws) (L := T.L) (j := j) (by rw [HWL.out]; exact hjn))
                obtain ⟨wj, hwj⟩ : ∃ wj, wj = ws[j]! := ⟨_, rfl⟩
                rw [← hwj] at wa HST
                clear hwj
                have AT : Hid (∀ w, Below wr.heap.size wr w → Calls Try.prog 36 #[.pointer (some ⟨b, 0, none⟩), .int .i64 (r : Int), .agg #[.string wj.e.key, .string wj.e.val, .int .i64 (wj.e.site : Int), .int .i64 (wj.e.count : Int)]] w fun e w' => e = .returned (.tuple #[.bool (hasE T.L wj.e), .bool (saw T.seen wj.e)]) ∧ Below w.heap.size w w') := Lib.hid fun w hb => by
                  have := at_any (HS.out.net.keep hb) r (by rw [HS.out.len]; exact hrk) wj.e (by omega)
                  rwa [← HTE.out] at this
                obtain ⟨q0, q1, q2, q3, _⟩ := wa
                obtain ⟨d0, d1, d2, d3, d4⟩ := cell5 HDD.out
                have hbl : j < (hadL ws T.L j).length := by rw [hadL_len _ _ (by rw [HWL.out]; omega), HWL.out]; exact hjn
                have HBL := Lib.hid hbl
                clear hbl
                go_upto_region 18 with fail
                go_region_law (((try go_simp); go_at_call 36; refine (AT.out wr.drew (drew_below wr)).mono ?_; rintro e w7 ⟨rfl, hb7⟩; have B7 := Lib.hid ((drew_below wr).trans hb7); have c7 := (HB.out.keep B7.out).at HBL.out; have z7 := (HB.out.keep B7.out).free j; clear hb7))
                all_goals go_wp2
                all_goals go_roundg (n - (j + 1))
                all_goals try omega
                all_goals
                  have hS7 := HS.out.keep B7.out
                  refine ⟨j + 1, by go_num, by omega, Nat.le_refl _, Lib.hid (hS7.far (frm_set _ gh j _) ((HB.out.keep B7.out).noStr (by have := HBL.out; omega)) HFG.out.1 HFG.out.2.1 HFG.out.2.2), Lib.hid (by rw [← HST.out]; exact (HB.out.keep B7.out).set _), Lib.hid ((frm_set _ gh j _).row (row_keep B7.out HDD.out) hDG)⟩
              · have ejn : n = j := by omega
                subst ejn
                have u1 : ¬ (n : Int) < (n : Int) := by omega
                have CP := perform_any HS.out.net (by omega) x HFI.out
                have UP := Lib.hid (deed_up HS.out.net.ok x)
                have LL : Hid ((deedR (netOf ts ms) x).1.T.length = k) := Lib.hid (by rw [UP.out.len, netOf_len, HS.out.len])
                have IW := HI.out.write k8 x HX3.out hrk HR0.out
                rw [netOf_at (by rw [HS.out.len]; exact hrk), ← HTE.out] at IW
                rw [HR0.out] at CP
                have HIN := Lib.hid HI.out
                have IW := Lib.hid IW
                have CP := Lib.hid CP
                clear UP HTE
                generalize deedR (netOf ts ms) x = rr at CP IW LL
                obtain ⟨d0, d1, d2, d3, d4⟩ := cell5 HDD.out
                go_upto_region 22 with (first | (go_at_call 31; refine CP.out.mono ?_; intro e w3 ho; obtain rfl := ho.1; obtain ⟨lo', lc', ts', ms', hs3, hr3, hf3⟩ := HS.out.step ho LL.out; have HS3 := Lib.hid hs3; have HR3 := Lib.hid hr3.out; have HB3 : Hid (Bools w3 gh (hadL ws T.L n)) := Lib.hid (hf3.row HB.out HFG.out.1); have HD3 := Lib.hid (hf3.row HDD.out HF1.out.1); obtain ⟨e0, e1, e2, e3, e4⟩ := cell5 HD3.out; have TB := netTable_in hs3.net r (by rw [hs3.len]; exact hrk); obtain ⟨y, hy⟩ : ∃ y, y = ts'[r]! := ⟨_, rfl⟩; rw [← hy] at TB; have TB := Lib.hid TB; have HY := Lib.hid hy; clear ho hs3 hr3 hf3 hy) | (go_at_call 32; refine TB.out.mono ?_; rintro e w4 ⟨rfl, hb4⟩; have B4 := Lib.hid hb4; clear hb4))
                obtain ⟨V5, hV5⟩ : ∃ V5, V5 = w4.alloc (.cells #[.int .i64 (y.T.seen 0 : Int), .int .i64 (y.T.seen 1 : Int), .int .i64 (y.T.seen 2 : Int), .int .i64 (y.T.seen 3 : Int), .int .i64 (y.T.seen 4 : Int), .int .i64 (y.T.seen 5 : Int), .int .i64 (y.T.seen 6 : Int), .int .i64 (y.T.seen 7 : Int), .slice y.ao y.n y.c] 34) := ⟨_, rfl⟩
                have B5 : Hid (Below w3.heap.size w3 V5) := Lib.hid (by rw [hV5]; exact below_then B4.out (box_below _ _))
                have BY5 : Hid (BoxAt V5 w4.heap.size y) := Lib.hid (by rw [hV5]; exact heap_alloc_new _ _)
                have HS5 := Lib.hid (HS3.out.keep B5.out)
                have HB5 := Lib.hid (HB3.out.keep B5.out)
                have HD5 := Lib.hid (row_keep B5.out HD3.out)
                have HFE := Lib.hid ((HS3.out.keep B4.out).fresh (j := w4.heap.size) (Nat.le_refl _))
                rw [← hV5]
                clear hV5 B4 B5 HS3 HB3 HD3 e0 e1 e2 e3 e4 d0 d1 d2 d3 d4 TB CP LL HS HB HDD
                generalize w4.heap.size = E5 at BY5 HFE ⊢
                by_cases hne : rr.2 ≠ 0
                · have hsame : rr.1 = netOf ts ms := by
                    rcases IW.out with ⟨_, e⟩ | ⟨e, _⟩ | ⟨e, _⟩
                    · exact e
                    · exact absurd e hne
                    · exact absurd e hne
                  have h0 : (rr.2 == 0) = false := beq_eq_false_iff_ne.2 hne
                  have HINV : Hid (Inv (i + 1) k (netOf ts' ms') ws) := Lib.hid (by rw [HR3.out, hsame]; exact HIN.out.more (Nat.le_succ i))
                  clear hsame
                  go_wp2
                  go_meet
                  exact ⟨lo', lc', ts', ms', wo, n, cap, ws, rfl, by omega, HS5, HINV⟩
                · have h0 : (rr.2 == 0) = true := by simpa using hne
                  have hz : rr.2 = 0 := by simpa using hne
                  have HW2 : Hid ((x.kind % 7 = 2 ∧ Inv (i + 1) k (netOf ts' ms') (ws.map (mark T r x.key))) ∨ (x.kind % 7 < 2 ∧ ∃ hr8 : r < 8, y.T.seen r = T.seen r + 1 ∧ Inv (i + 1) k (netOf ts' ms') (ws.map (mark T r x.key) ++ [⟨⟨x.key, x.val, r, T.seen r + 1, hr8⟩, fun _ => false, false⟩]))) := by
                    rw [HR3.out]
                    rcases IW.out with ⟨e, _⟩ | ⟨_, e1, e2⟩ | ⟨_, e1, hr8, e2, e3⟩
                    · exact absurd hz e
                    · exact .inl ⟨e1, e2⟩
                    · refine .inr ⟨e1, hr8, ?_, e3⟩
                      rw [HY.out, ← e2, ← HR3.out, netOf_at (by rw [HS5.out.len]; exact hrk)]
                  clear IW hz hne
                  go_wp2
                  go_loopg [17, 101] n (fun gg _ s101 wq => ∃ j : Nat, s101 = .int .i64 (j : Int) ∧ j ≤ n ∧ n - j ≤ gg ∧ Hid (SM W wq (i + 1) b g k lo' lc' ts' ms' wo n cap (markL ws T r x.key j)) ∧ Hid (Bools wq gh (hadL ws T.L n)) ∧ Hid (wq.heap[D]? = some (.cells #[.int .u8 (x.kind : Int), .int .i64 (r : Int), .int .i64 x.b, .string x.key, .string x.val] 60 (0, 0))) ∧ Hid (BoxAt wq E5 y))
                  case atStart => exact ⟨0, rfl, Nat.zero_le _, by omega, Lib.hid (by rw [markL_zero]; exact HS5.out), HB5, HD5, BY5⟩
                  case round =>
                    clear HS5 HB5 HD5 BY5
                    obtain ⟨j, rfl, hj, hgj, HS, HB, HDD, BY⟩ := hrel
                    have j0 : (0 : Int) ≤ (j : Int) := by omega
                    by_cases hjn : j < n
                    · as_aux_lemma =>
                      have u1 : (j : Int) < (n : Int) := by omega
                      obtain ⟨gw, hgw, _⟩ := HS.out.row.form (by omega)
                      subst hgw
                      have hjw : j < ws.length := by rw [HWL.out]; exact hjn
                      have hml : (markL ws T r x.key j).length = ws.length := markL_len _ _ _ _ _
                      have hmj := markL_at (T := T) (r := r) (key := x.key) hjw
                      obtain ⟨wj, hwj⟩ : ∃ wj, wj = ws[j]! := ⟨_, rfl⟩
                      have wa := HS.out.row.at hjn
                      have wg := HS.out.row.gone hjn hr8
                      have HH := HB.out.at (i := j) (by rw [hadL_len _ _ (by rw [HWL.out]; exact Nat.le_refl _), HWL.out]; exact hjn)
                      rw [show hadL ws T.L n = hadL ws T.L ws.length from by rw [HWL.out], hadL_at hjw, ← hwj] at HH
                      rw [hmj, ← hwj] at wa wg
                      obtain ⟨q0, q1, q2, q3, _, _, _, _, _, _, _, _, q12⟩ := wa
                      obtain ⟨d0, d1, d2, d3, d4⟩ := cell5 HDD.out
                      have HMJ := Lib.hid (hmj.trans hwj.symm)
                      have HWJ := Lib.hid hwj
                      have HML := Lib.hid hml
                      have HJW := Lib.hid hjw
                      clear hml hjw hmj hwj
                      by_cases h1 : hasE T.L wj.e = true
                      · rw [h1] at HH
                        have H1 : Hid (wj.e ∈ T.L) := Lib.hid (by unfold hasE at h1; simpa using h1)
                        clear h1
                        by_cases h2 : wj.e.key = x.key
                        · have qk := str_eq h2
                          have H2 := Lib.hid h2
                          clear h2
                          go_upto_region 26 with fail
                          go_quiet (fail)
                          go_upto_region 27 with fail
                          obtain ⟨V7, hV7⟩ : ∃ V7, V7 = wr.drewN nq := ⟨_, rfl⟩
                          have B7 : Hid (Below wr.heap.size wr V7) := Lib.hid (by rw [hV7]; exact below_drewN (Below.refl _ _) nq)
                          have HS7 := Lib.hid (HS.out.keep B7.out)
                          have HB7 := Lib.hid (HB.out.keep B7.out)
                          have HD7 := Lib.hid (row_keep B7.out HDD.out)
                          have BY7 := Lib.hid (BY.out.keep B7.out)
                          rw [← hV7]
                          clear hV7 B7 q0 q1 q2 q3 q12 d0 d1 d2 d3 d4 HH wg HS HB HDD BY
                          have wg := HS7.out.row.gone hjn hr8
                          obtain ⟨d0, d1, d2, d3, d4⟩ := cell5 HD7.out
                          have fz0 := HS7.out.row.free (j * 13 + 4 + r)
                          go_region
                          obtain ⟨V8, hV8⟩ : ∃ V8, V8 = (V7.setCell ⟨gw, j * 13 + 4 + r, none⟩ (.bool true)).drew := ⟨_, rfl⟩
                          have FR8 : Hid (Frm (fun q => q = gw) V7 V8) := Lib.hid (by rw [hV8]; exact (frm_set V7 gw _ _).then_below (drew_below _))
                          have HS8 := Lib.hid (HS7.out.gone1 (by rw [HML.out]; exact HJW.out) hr8)
                          rw [← hV8] at HS8 ⊢
                          clear hV8 wg fz0 d0 d1 d2 d3 d4
                          have HB8 : Hid (Bools V8 gh (hadL ws T.L n)) := Lib.hid (FR8.out.row HB7.out (fun e => HFG.out.2.1 0 none (by rw [e])))
                          have HD8 := Lib.hid (FR8.out.row HD7.out (fun e => HF1.out.2.1 0 none (by rw [e])))
                          have BY8 : Hid (BoxAt V8 E5 y) := Lib.hid (FR8.out.row BY7.out (fun e => HFE.out.2.1 0 none (by rw [e])))
                          have q12 := (HS8.out.row.at hjn).2.2.2.2.2.2.2.2.2.2.2.2
                          have fz1 := HS8.out.row.free (j * 13 + 12)
                          have HS9 := HS8.out.any1 (j := j) (by rw [List.length_set, HML.out]; exact HJW.out)
                          rw [mark_set (T := T) (key := x.key) (by rw [HML.out]; exact HJW.out) HMJ.out ⟨H1.out, H2.out⟩, HWJ.out, markL_step HJW.out] at HS9
                          have HS9 := Lib.hid HS9
                          clear HS7 HB7 HD7 BY7 FR8
                          go_wp2
                          go_roundg (n - (j + 1))
                          case measure => omega
                          case rel => exact ⟨j + 1, by go_num, by omega, Nat.le_refl _, HS9, Lib.hid ((frm_set V8 gw _ _).row HB8.out (fun e => HFG.out.2.1 0 none (by rw [e]))), Lib.hid ((frm_set V8 gw _ _).row HD8.out (fun e => HF1.out.2.1 0 none (by rw [e]))), Lib.hid ((frm_set V8 gw _ _).row BY8.out (fun e => HFE.out.2.1 0 none (by rw [e])))⟩
                        · have qk := str_ne h2
                          have HSK := Lib.hid (markL_skip (T := T) (r := r) (key := x.key) HJW.out (by rw [← HWJ.out]; unfold mark; rw [if_neg (fun c => h2 c.2)]))
                          clear h2
                          go_upto_region 26 with fail
                          go_quiet (fail)
                          go_wp2
                          go_roundg (n - (j + 1))
                          case measure => omega
                          case rel =>
                            have B7 := below_drewN (Below.refl wr.heap.size wr) nq
                            exact ⟨j + 1, by go_num, by omega, Nat.le_refl _, Lib.hid (by rw [← HSK.out]; exact HS.out.keep B7), Lib.hid (HB.out.keep B7), Lib.hid (row_keep B7 HDD.out), Lib.hid (BY.out.keep B7)⟩
                      · have h1' : hasE T.L wj.e = false := by simpa using h1
                        rw [h1'] at HH
                        have HSK := Lib.hid (markL_skip (T := T) (r := r) (key := x.key) HJW.out (by rw [← HWJ.out]; unfold mark; rw [if_neg (fun c => h1 (by unfold hasE; simpa using c.1))]))
                        clear h1 h1'
                        go_upto_region 26 with fail
                        go_quiet (fail)
                        go_wp2
                        go_roundg (n - (j + 1))
                        case measure => omega
                        case rel =>
                          have B7 := below_drewN (Below.refl wr.heap.size wr) nq
                          exact ⟨j + 1, by go_num, by omega, Nat.le_refl _, Lib.hid (by rw [← HSK.out]; exact HS.out.keep B7), Lib.hid (HB.out.keep B7), Lib.hid (row_keep B7 HDD.out), Lib.hid (BY.out.keep B7)⟩
                    · have ejn : n = j := by omega
                      subst ejn
                      have u1 : ¬ (n : Int) < (n : Int) := by omega
                      have HSA : Hid (SM W wr (i + 1) b g k lo' lc' ts' ms' wo n cap (ws.map (mark T r x.key))) := Lib.hid (by
                        have := HS.out
                        rwa [show markL ws T r x.key n = ws.map (mark T r x.key) from by rw [← HWL.out, markL_all]] at this)
                      clear HS
                      rcases HW2.out with ⟨hk2, hinv⟩ | ⟨hk2, _, hsee, hinv⟩
                      · have HINV := Lib.hid hinv
                        have m1 : decide ((x.kind : Int) % 7 < 2) = false := by simp; omega
                        have m2 : ¬ (x.kind : Int) % 7 < 2 := by omega
                        clear hinv hk2
                        go_wp2
                        go_meet
                        exact ⟨lo', lc', ts', ms', wo, n, cap, _, rfl, by omega, HSA, HINV⟩
                      · have HINV := Lib.hid hinv
                        have m1 : decide ((x.kind : Int) % 7 < 2) = true := by simp; omega
                        have m2 : (x.kind : Int) % 7 < 2 := by omega
                        obtain ⟨cN, hcN⟩ : ∃ cN, cN = T.seen r + 1 := ⟨_, rfl⟩
                        rw [← hcN] at hsee HINV
                        have SN : Hid (∀ w, Calls Try.prog 37 #[.agg #[.int .i64 (y.T.seen 0 : Int), .int .i64 (y.T.seen 1 : Int), .int .i64 (y.T.seen 2 : Int), .int .i64 (y.T.seen 3 : Int), .int .i64 (y.T.seen 4 : Int), .int .i64 (y.T.seen 5 : Int), .int .i64 (y.T.seen 6 : Int), .int .i64 (y.T.seen 7 : Int), .slice y.ao y.n y.c], .int .i64 (r : Int)] w fun e w' => e = .returned (.int .i64 (cN : Int)) ∧ Below w.heap.size w w') := Lib.hid fun w => by
                          have := seen_in y.T.seen (.slice y.ao y.n y.c) rfl r hr8 w
                          rwa [hsee] at this
                        obtain ⟨d0, d1, d2, d3, d4⟩ := cell5 HDD.out
                        obtain ⟨p0, p1, p2, p3, p4, p5, p6, p7, p8⟩ := cell_nine BY.out
                        clear hinv hk2 hsee hcN
                        go_upto_region 31 with fail
                        refine wp_region_late (S := fun w' => w'.cell? ⟨D, 1, none⟩ = some (.int .i64 (r : Int)) ∧ w'.cell? ⟨D, 3, none⟩ = some (.string x.key) ∧ w'.cell? ⟨D, 4, none⟩ = some (.string x.val) ∧ w'.cell? ⟨E5, 0, none⟩ = some (.int .i64 (y.T.seen 0 : Int)) ∧ w'.cell? ⟨E5, 1, none⟩ = some (.int .i64 (y.T.seen 1 : Int)) ∧ w'.cell? ⟨E5, 2, none⟩ = some (.int .i64 (y.T.seen 2 : Int)) ∧ w'.cell? ⟨E5, 3, none⟩ = some (.int .i64 (y.T.seen 3 : Int)) ∧ w'.cell? ⟨E5, 4, none⟩ = some (.int .i64 (y.T.seen 4 : Int)) ∧ w'.cell? ⟨E5, 5, none⟩ = some (.int .i64 (y.T.seen 5 : Int)) ∧ w'.cell? ⟨E5, 6, none⟩ = some (.int .i64 (y.T.seen 6 : Int)) ∧ w'.cell? ⟨E5, 7, none⟩ = some (.int .i64 (y.T.seen 7 : Int)) ∧ w'.cell? ⟨E5, 8, none⟩ = some (.slice y.ao y.n y.c)) 16 (by kernel_rfl) ⟨d1, d3, d4, p0, p1, p2, p3, p4, p5, p6, p7, p8⟩ (fun hS => ?_)
                        refine wpAnyT_take (i := 0) (v := ?v0) rfl (by kernel_rfl) (by kernel_rfl) (by kernel_rfl) (by kernel_rfl) (fun _ _ _ h => h) (Or.inl ⟨by rfl, ?hy0⟩) hS ?rest0
                        case hy0 => (intro w hSw; (try dsimp only at hSw); (first | (go_simp; done) | (go_simp; with_reducible rfl)))
                        try simp only [Act.put, List.setIfInBounds_toArray, List.set_cons_zero, List.set_cons_succ]
                        refine wpAnyT_take (i := 1) (v := ?v1) rfl (by kernel_rfl) (by kernel_rfl) (by kernel_rfl) (by kernel_rfl) (fun _ _ _ h => h) (Or.inl ⟨by rfl, ?hy1⟩) hS ?rest1
                        case hy1 => (intro w hSw; (try dsimp only at hSw); (first | (go_simp; done) | (go_simp; with_reducible rfl)))
                        try simp only [Act.put, List.setIfInBounds_toArray, List.set_cons_zero, List.set_cons_succ]
                        refine wpAnyT_take (i := 2) (v := ?v2) rfl (by kernel_rfl) (by kernel_rfl) (by kernel_rfl) (by kernel_rfl) (fun _ _ _ h => h) (Or.inl ⟨by rfl, ?hy2⟩) hS ?rest2
                        case hy2 => (intro w hSw; (try dsimp only at hSw); (first | (go_simp; done) | (go_simp; with_reducible rfl)))
                        try simp only [Act.put, List.setIfInBounds_toArray, List.set_cons_zero, List.set_cons_succ]
                        refine wpAnyT_take (i := 3) (v := ?v3) rfl (by kernel_rfl) (by kernel_rfl) (by kernel_rfl) (by kernel_rfl) (fun _ _ _ h => h) (Or.inl ⟨by rfl, ?hy3⟩) hS ?rest3
                        case hy3 => (intro w hSw; (try dsimp only at hSw); (first | (go_simp; done) | (go_simp; with_reducible rfl)))
                        try simp only [Act.put, List.setIfInBounds_toArray, List.set_cons_zero, List.set_cons_succ]
                        refine wpAnyT_take (i := 4) (v := ?v4) rfl (by kernel_rfl) (by kernel_rfl) (by kernel_rfl) (by kernel_rfl) (fun _ _ _ h => h) (Or.inl ⟨by rfl, ?hy4⟩) hS ?rest4
                        case hy4 => (intro w hSw; (try dsimp only at hSw); (first | (go_simp; done) | (go_simp; with_reducible rfl)))
                        try simp only [Act.put, List.setIfInBounds_toArray, List.set_cons_zero, List.set_cons_succ]
                        refine wpAnyT_take (i := 5) (v := ?v5) rfl (by kernel_rfl) (by kernel_rfl) (by kernel_rfl) (by kernel_rfl) (fun _ _ _ h => h) (Or.inl ⟨by rfl, ?hy5⟩) hS ?rest5
                        case hy5 => (intro w hSw; (try dsimp only at hSw); (first | (go_simp; done) | (go_simp; with_reducible rfl)))
                        try simp only [Act.put, List.setIfInBounds_toArray, List.set_cons_zero, List.set_cons_succ]
                        refine wpAnyT_take (i := 6) (v := ?v6) rfl (by kernel_rfl) (by kernel_rfl) (by kernel_rfl) (by kernel_rfl) (fun _ _ _ h => h) (Or.inl ⟨by rfl, ?hy6⟩) hS ?rest6
                        case hy6 => (intro w hSw; (try dsimp only at hSw); (first | (go_simp; done) | (go_simp; with_reducible rfl)))
                        try simp only [Act.put, List.setIfInBounds_toArray, List.set_cons_zero, List.set_cons_succ]
                        refine wpAnyT_take (i := 7) (v := ?v7) rfl (by kernel_rfl) (by kernel_rfl) (by kernel_rfl) (by kernel_rfl) (fun _ _ _ h => h) (Or.inl ⟨by rfl, ?hy7⟩) hS ?rest7
                        case hy7 => (intro w hSw; (try dsimp only at hSw); (first | (go_simp; done) | (go_simp; with_reducible rfl)))
                        try simp only [Act.put, List.setIfInBounds_toArray, List.set_cons_zero, List.set_cons_succ]
                        refine wpAnyT_take (i := 8) (v := ?v8) rfl (by kernel_rfl) (by kernel_rfl) (by kernel_rfl) (by kernel_rfl) (fun _ _ _ h => h) (Or.inl ⟨by rfl, ?hy8⟩) hS ?rest8
                        case hy8 => (intro w hSw; (try dsimp only at hSw); (first | (go_simp; done) | (go_simp; with_reducible rfl)))
                        try simp only [Act.put, List.setIfInBounds_toArray, List.set_cons_zero, List.set_cons_succ]
                        refine wpAnyT_take (i := 9) (v := ?v9) rfl (by kernel_rfl) (by kernel_rfl) (by kernel_rfl) (by kernel_rfl) (fun _ _ _ h => h) (Or.inl ⟨by rfl, ?hy9⟩) hS ?rest9
                        case hy9 => (intro w hSw; (try dsimp only at hSw); (first | (go_simp; done) | (go_simp; with_reducible rfl)))
                        try simp only [Act.put, List.setIfInBounds_toArray, List.set_cons_zero, List.set_cons_succ]
                        refine wpAnyT_step 10 rfl (by kernel_rfl) (by decide) (fun K hK => ?_)
                        try go_simp
                        go_at_call 37
                        refine (SN.out wr.drew).mono ?_
                        rintro e w7 ⟨rfl, hb7⟩
                        have B7 := Lib.hid ((drew_below wr).trans hb7)
                        have e1 := cell_later B7.out d1
                        have e3 := cell_later B7.out d3
                        have e4 := cell_later B7.out d4
                        have r0 := cell_later B7.out p0
                        have r1 := cell_later B7.out p1
                        have r2 := cell_later B7.out p2
                        have r3 := cell_later B7.out p3
                        have r4 := cell_later B7.out p4
                        have r5 := cell_later B7.out p5
                        have r6 := cell_later B7.out p6
                        have r7 := cell_later B7.out p7
                        have r8z := cell_later B7.out p8
                        clear hb7
                        refine hK.out _ _ ⟨e1, e3, e4, r0, r1, r2, r3, r4, r5, r6, r7, r8z⟩ (fun hS => ?_)
                        clear hK K
                        try simp only [Act.put, List.setIfInBounds_toArray, List.set_cons_zero, List.set_cons_succ]
                        refine wpAnyT_take (i := 11) (v := ?v11) rfl (by kernel_rfl) (by kernel_rfl) (by kernel_rfl) (by kernel_rfl) (fun _ _ _ h => h) (Or.inl ⟨by rfl, ?hy11⟩) hS ?rest11
                        case hy11 => (intro w hSw; (try dsimp only at hSw); (first | (go_simp; done) | (go_simp; with_reducible rfl)))
                        try simp only [Act.put, List.setIfInBounds_toArray, List.set_cons_zero, List.set_cons_succ]
                        refine wpAnyT_take (i := 12) (v := ?v12) rfl (by kernel_rfl) (by kernel_rfl) (by kernel_rfl) (by kernel_rfl) (fun _ _ _ h => h) (Or.inl ⟨by rfl, ?hy12⟩) hS ?rest12
                        case hy12 => (intro w hSw; (try dsimp only at hSw); (first | (go_simp; done) | (go_simp; with_reducible rfl)))
                        try simp only [Act.put, List.setIfInBounds_toArray, List.set_cons_zero, List.set_cons_succ]
                        refine wpAnyT_take (i := 13) (v := ?v13) rfl (by kernel_rfl) (by kernel_rfl) (by kernel_rfl) (by kernel_rfl) (fun _ _ _ h => h) (Or.inl ⟨by rfl, ?hy13⟩) hS ?rest13
                        case hy13 => (intro w hSw; (try dsimp only at hSw); (first | (go_simp; done) | (go_simp; with_reducible rfl)))
                        try simp only [Act.put, List.setIfInBounds_toArray, List.set_cons_zero, List.set_cons_succ]
                        refine wpAnyT_step 14 rfl (by kernel_rfl) (by decide) (fun K hK => ?_)
                        try go_simp
                        refine hK.out _ _ ⟨cell_later (box_below _ _) e1, cell_later (box_below _ _) e3, cell_later (box_below _ _) e4, cell_later (box_below _ _) r0, cell_later (box_below _ _) r1, cell_later (box_below _ _) r2, cell_later (box_below _ _) r3, cell_later (box_below _ _) r4, cell_later (box_below _ _) r5, cell_later (box_below _ _) r6, cell_later (box_below _ _) r7, cell_later (box_below _ _) r8z⟩ (fun hS => ?_)
                        clear hK K
                        try simp only [Act.put, List.setIfInBounds_toArray, List.set_cons_zero, List.set_cons_succ]
                        have HS8 := Lib.hid ((HSA.out.keep B7.out).keep (box_below w7 (.cells #[.string x.key, .string x.val, .int .i64 (r : Int), .int .i64 (cN : Int), .bool false, .bool false, .bool false, .bool false, .bool false, .bool false, .bool false, .bool false, .bool false] 88)))
                        have B8 := Lib.hid (below_then B7.out (box_below w7 (.cells #[.string x.key, .string x.val, .int .i64 (r : Int), .int .i64 (cN : Int), .bool false, .bool false, .bool false, .bool false, .bool false, .bool false, .bool false, .bool false, .bool false] 88)))
                        refine wpAnyT_step 15 rfl (by kernel_rfl) (by decide) (fun K hK => ?_)
                        refine step_appW (w := w7.alloc (.cells #[.string x.key, .string x.val, .int .i64 (r : Int), .int .i64 (cN : Int), .bool false, .bool false, .bool false, .bool false, .bool false, .bool false, .bool false, .bool false, .bool false] 88)) rfl (.tmp 133) (.tmp 147) (by rfl) W (i + 1) b g k lo' lc' ts' ms' wo n cap (ws.map (mark T r x.key)) ⟨⟨x.key, x.val, r, cN, hr8⟩, fun _ => false, false⟩ w7.heap.size 88 (heap_alloc_new w7 _) (by rfl) (by rfl) (by omega) HS8.out ?_
                        intro g9 cap9 w9 hs9 hfr9 hsz9
                        have HS9 := Lib.hid hs9
                        have cl : ∀ q o v, wr.cell? ⟨q, o, none⟩ = some v → (∀ o s, wo ≠ some ⟨q, o, s⟩) → w9.cell? ⟨q, o, none⟩ = some v := fun q o v hc hq => (World.cell?_of_block (a := ⟨q, o, none⟩) (hfr9 q (Nat.lt_of_lt_of_le (block_lt_of_cell hc) B8.out.size) hq)).trans (cell_later B8.out hc)
                        have S9 := Lib.hid (show w9.cell? ⟨D, 1, none⟩ = some (.int .i64 (r : Int)) ∧ w9.cell? ⟨D, 3, none⟩ = some (.string x.key) ∧ w9.cell? ⟨D, 4, none⟩ = some (.string x.val) ∧ w9.cell? ⟨E5, 0, none⟩ = some (.int .i64 (y.T.seen 0 : Int)) ∧ w9.cell? ⟨E5, 1, none⟩ = some (.int .i64 (y.T.seen 1 : Int)) ∧ w9.cell? ⟨E5, 2, none⟩ = some (.int .i64 (y.T.seen 2 : Int)) ∧ w9.cell? ⟨E5, 3, none⟩ = some (.int .i64 (y.T.seen 3 : Int)) ∧ w9.cell? ⟨E5, 4, none⟩ = some (.int .i64 (y.T.seen 4 : Int)) ∧ w9.cell? ⟨E5, 5, none⟩ = some (.int .i64 (y.T.seen 5 : Int)) ∧ w9.cell? ⟨E5, 6, none⟩ = some (.int .i64 (y.T.seen 6 : Int)) ∧ w9.cell? ⟨E5, 7, none⟩ = some (.int .i64 (y.T.seen 7 : Int)) ∧ w9.cell? ⟨E5, 8, none⟩ = some (.slice y.ao y.n y.c) from ⟨cl D 1 _ d1 HF1.out.2.1, cl D 3 _ d3 HF1.out.2.1, cl D 4 _ d4 HF1.out.2.1, cl E5 0 _ p0 HFE.out.2.1, cl E5 1 _ p1 HFE.out.2.1, cl E5 2 _ p2 HFE.out.2.1, cl E5 3 _ p3 HFE.out.2.1, cl E5 4 _ p4 HFE.out.2.1, cl E5 5 _ p5 HFE.out.2.1, cl E5 6 _ p6 HFE.out.2.1, cl E5 7 _ p7 HFE.out.2.1, cl E5 8 _ p8 HFE.out.2.1⟩)
                        clear hs9 hfr9 hsz9 cl
                        refine hK.out _ _ S9.out (fun hS => ?_)
                        clear hK K
                        try simp only [Act.put, List.setIfInBounds_toArray, List.set_cons_zero, List.set_cons_succ]
                        refine wpAnyT_last rfl (by kernel_rfl) (by kernel_rfl) (fun K hK => ?_)
                        go_simp
                        refine hK.out _ _ ?_
                        clear hK K
                        go_wp2
                        go_meet
                        exact ⟨lo', lc', ts', ms', some ⟨g9, 0, none⟩, n + 1, cap9, _, rfl, by omega, HS9, HINV⟩
        · as_aux_lemma =>
          clear HI HS1 HD1 HF1 HFI hq
          obtain ⟨lo, lc, ts, ms, wo, n, cap, ws, rfl, hn, HS, HI⟩ := hcut
          have HWL : Hid (ws.length = n) := Lib.hid HS.out.row.len
          clear d0 d1 d2 d3 d4
          go_wp2
          go_loopg [18, 19, 20, 21, 154] n (fun gg _ _ _ _ s154 wq => ∃ j : Nat, s154 = .int .i64 (j : Int) ∧ j ≤ n ∧ n - j ≤ gg ∧ Hid (SM W wq (i + 1) b g k lo lc ts ms wo n cap ws))
          case atStart => exact ⟨0, rfl, Nat.zero_le _, by omega, HS⟩
          case round =>
            clear HS
            obtain ⟨j, rfl, hj, hgj, HS⟩ := hrel
            have j0 : (0 : Int) ≤ (j : Int) := by omega
            by_cases hjn : j < n
            · have u1 : (j : Int) < (n : Int) := by omega
              obtain ⟨W1, rfl⟩ : ∃ w, w = wr := ⟨wr, rfl⟩
              go_wp2
              go_loopg [19, 20, 21] k (fun gg s19 _ _ wq => ∃ q : Nat, s19 = .int .i64 (q : Int) ∧ q ≤ k ∧ k - q ≤ gg ∧ Hid (SM W wq (i + 1) b g k lo lc ts ms wo n cap ws))
              case atStart => exact ⟨0, rfl, Nat.zero_le _, by omega, HS⟩
              case round =>
                clear HS
                obtain ⟨q, rfl, hqk, hgq, HS⟩ := hrel
                have q0 : (0 : Int) ≤ (q : Int) := by omega
                by_cases hql : q < k
                · have u2 : (q : Int) < (k : Int) := by omega
                  have u3 : (q : Int) < 8 := by omega
                  obtain ⟨gw, hgw, _⟩ := HS.out.row.form (by omega)
                  subst hgw
                  obtain ⟨C1, C2, C3⟩ := HI.out.check (w := ws[j]!) (mem_at (by rw [HWL.out]; exact hjn)) hql
                  rw [netOf_at (by rw [HS.out.len]; exact hql)] at C1 C2 C3
                  obtain ⟨wj, hwj⟩ : ∃ wj, wj = ws[j]! := ⟨_, rfl⟩
                  have wa := HS.out.row.at hjn
                  have wg := HS.out.row.gone hjn (r := q) (by omega)
                  rw [← hwj] at wa wg C1 C2 C3
                  clear hwj
                  have AT := at_any HS.out.net q (by rw [HS.out.len]; exact hql) wj.e (by omega)
                  have D1 : hasE ts[q]!.T.L wj.e = true → wj.e ∈ ts[q]!.T.L := fun e => by unfold hasE at e; simpa using e
                  have D2 : hasE ts[q]!.T.L wj.e = false → wj.e ∉ ts[q]!.T.L := fun e => by unfold hasE at e; simpa using e
                  have D3 : saw ts[q]!.T.seen wj.e = true → Sw ts[q]!.T wj.e := fun e => e
                  have D4 : Sw ts[q]!.T wj.e → saw ts[q]!.T.seen wj.e = true := fun e => e
                  obtain ⟨q0', q1', q2', q3', _, _, _, _, _, _, _, _, q12⟩ := wa
                  generalize hasE ts[q]!.T.L wj.e = hb at AT D1 D2
                  generalize saw ts[q]!.T.seen wj.e = sb at AT D3 D4
                  have AT := Lib.hid AT
                  have END : ∀ w7, Below wr.heap.size wr w7 → SM W w7 (i + 1) b g k lo lc ts ms (some ⟨gw, 0, none⟩) n cap ws := fun w7 hb => HS.out.keep hb
                  have END := Lib.hid END
                  cases hb with
                  | true =>
                    have e1 := D4 (C3 (D1 rfl))
                    subst e1
                    rw [C2 (D1 rfl)] at wg
                    clear C1 C2 C3 D1 D2 D3 D4
                    go_wp2_with (go_at_call 36; refine AT.out.mono ?_; rintro e w7 ⟨rfl, hb7⟩; have B7 := Lib.hid hb7; have wg7 := cell_later hb7 wg; have a7 := cell_later hb7 q12; clear hb7)
                    go_roundg (k - (q + 1))
                    case measure => omega
                    case rel => exact ⟨q + 1, by go_num, by omega, Nat.le_refl _, Lib.hid (END.out _ B7.out)⟩
                  | false =>
                    cases sb with
                    | true =>
                      rw [C1 (D3 rfl) (D2 rfl)] at q12
                      clear C1 C2 C3 D1 D2 D3 D4
                      go_wp2_with (go_at_call 36; refine AT.out.mono ?_; rintro e w7 ⟨rfl, hb7⟩; have B7 := Lib.hid hb7; have wg7 := cell_later hb7 wg; have a7 := cell_later hb7 q12; clear hb7)
                      go_roundg (k - (q + 1))
                      case measure => omega
                      case rel => exact ⟨q + 1, by go_num, by omega, Nat.le_refl _, Lib.hid (END.out _ B7.out)⟩
                    | false =>
                      clear C1 C2 C3 D1 D2 D3 D4
                      go_wp2_with (go_at_call 36; refine AT.out.mono ?_; rintro e w7 ⟨rfl, hb7⟩; have B7 := Lib.hid hb7; have wg7 := cell_later hb7 wg; have a7 := cell_later hb7 q12; clear hb7)
                      go_roundg (k - (q + 1))
                      case measure => omega
                      case rel => exact ⟨q + 1, by go_num, by omega, Nat.le_refl _, Lib.hid (END.out _ B7.out)⟩
                · have u2 : ¬ (q : Int) < (k : Int) := by omega
                  go_wp2
                  go_roundg (n - (j + 1))
                  case measure => omega
                  case rel => exact ⟨j + 1, by go_num, by omega, Nat.le_refl _, HS⟩
            · have u1 : ¬ (j : Int) < (n : Int) := by omega
              go_wp2
              go_roundg (la - (i + 1))
              case measure => omega
              case rel => exact ⟨i + 1, lo, lc, ts, ms, wo, n, cap, ws, by go_num, by omega, Nat.le_refl _, rfl, hn, HS, HI⟩
    · obtain rfl : i = la := by omega
      have t1 : ¬ (i : Int) < (i : Int) := by omega
      go_wp2_with (go_at_call 10; refine (awake_any _).mono ?_; rintro e w1 ⟨rfl, hb1⟩; have B1 := Lib.hid (HS.out.below.trans (hb1.mono HS.out.below.size)); clear hb1)
      go_ret
      exact ⟨rfl, B1.out⟩

theorem means_walk (s : Nat) (ao : Option Addr) (la ca : Nat) (xs : List DeedD) (W : World) (h : Deeds W ao la xs) (hla : la ≤ 9223372036854775807) (hs : s ≤ 255) : Calls Try.prog 8 #[.int .u8 (s : Int), .slice ao la ca] W fun e w' => e = .returned (.bool true) ∧ Below W.heap.size W w' := by
  cases hb : isBrief xs la 60
  · exact means_bad s ao la ca xs W h hla hs hb
  · refine means_good s ao la ca xs W h hla hs hb ?_
    unfold isBrief at hb
    rw [Bool.and_eq_true] at hb
    exact of_decide_eq_true hb.2
end Go.Proofs.Ytkpjckabdmmiaaa
