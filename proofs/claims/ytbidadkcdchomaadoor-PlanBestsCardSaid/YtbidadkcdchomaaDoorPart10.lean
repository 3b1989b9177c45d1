/- Part 10 of the contracts: PFeas, PCheck. -/
import Derived.Test.YtbidadkcdchomaaDoorPart9

/- package plan: isFeasible, Check. (By gen_pfeas.py.) -/
set_option linter.unusedVariables false
set_option linter.unusedSimpArgs false
namespace Go.Proofs.YtbidadkcdchomaaDoor
open Go.RowKit

/-- when the first k batches have ended -/
def endZ (bn : List BN) (zs : List Int) : Nat → Int
  | 0 => 0
  | k + 1 => max (endZ bn zs k) (zs[k]?.getD 0 + (durN bn[k]! : Int))
/-- the schedule is feasible, as the program asks it -/
structure FeasP (vn : List Nat) (bn : List BN) (en : Int) (zs : List Int) (rs : List (List Int)) : Prop where
  ls : zs.length = bn.length
  lr : rs.length = bn.length
  st : ∀ i, i < bn.length → okStart bn[i]! (zs[i]?.getD 0) = true
  ve : ∀ i, i < bn.length → AreV (vI vn) rs[i]!
  cl : ∀ i, i < bn.length → ∀ j, j < i → clashZ bn[i]!.tm bn[j]!.tm (zs[i]?.getD 0) (zs[j]?.getD 0) rs[i]! rs[j]! = false
  en : en = endZ bn zs bn.length
theorem endZ_nn (bn : List BN) (zs : List Int) : ∀ k, 0 ≤ endZ bn zs k
  | 0 => Int.le_refl _
  | k + 1 => by have := endZ_nn bn zs k; unfold endZ; omega
theorem okStart_le {b : BN} {z : Int} (h : okStart b z = true) : (b.rdy : Int) ≤ z ∧ z ≤ 9223372036854775807 - (durN b : Int) := by
  unfold okStart at h
  rw [Bool.and_eq_true, decide_eq_true_eq, decide_eq_true_eq] at h
  exact h
theorem endZ_le {bn : List BN} {zs : List Int} (h : ∀ i, i < bn.length → okStart bn[i]! (zs[i]?.getD 0) = true) : ∀ k, k ≤ bn.length → endZ bn zs k ≤ 9223372036854775807
  | 0, _ => by unfold endZ; omega
  | k + 1, hk => by
    have := endZ_le h k (by omega)
    have := okStart_le (h k (by omega))
    unfold endZ; omega

set_option maxRecDepth 100000 in
set_option maxHeartbeats 8000000 in
theorem isFeas_any (vn : List Nat) (bn : List BN) (en : Int) (va : Option Addr) (vl vc : Nat) (ba : Option Addr) (bl bc : Nat) (sa : Option Addr) (sl sc : Nat) (zs : List Int) (ya : Option Addr) (yl yc : Nat) (rs : List (List Int)) (W : World)
    (hv : Il W va vl (vI vn)) (hb : Bats W ba bl (bn.map bI)) (hs : Il W sa sl zs) (hy : Rows2 W ya yl rs) (hT : TaskN vn bn) (hsl : sl ≤ 9223372036854775807) (hyl : yl ≤ 9223372036854775807) :
    Calls Tryd.prog 33 #[.slice va vl vc, .slice ba bl bc, .agg #[.int .i64 en, .slice sa sl sc, .slice ya yl yc]] W (YesNoB (FeasP vn bn en zs rs) W) := by
  obtain ⟨V, hV⟩ : ∃ V, V = W.alloc (.cells #[.int .i64 en, .slice sa sl sc, .slice ya yl yc] 28) := ⟨_, rfl⟩
  have HB : Hid (Below W.heap.size W V) := Lib.hid (by rw [hV]; exact box_below W _)
  have R : Hid (V.heap[W.heap.size]? = some (.cells #[.int .i64 en, .slice sa sl sc, .slice ya yl yc] 28 (0, 0))) := Lib.hid (by rw [hV]; exact new_row W _)
  have e0 := cell_row R.out 0
  have e1 := cell_row R.out 1
  have e2 := cell_row R.out 2
  simp at e0 e1 e2
  have hlb : bn.length = bl := by have := hb.1; simpa using this
  have hlv : vn.length = vl := by have := hv.len; rwa [vI_len] at this
  have hls := hs.len
  have hly := hy.1
  have hbl : bl ≤ 5 := by have := hT.few; omega
  have hvl : vl ≤ 3 := by have := hT.house.few; omega
  have HLB := Lib.hid hlb
  have HLV := Lib.hid hlv
  have HLS := Lib.hid hls
  have HLY := Lib.hid hly
  have HVV := Lib.hid hv
  have HBB := Lib.hid hb
  have HSS := Lib.hid hs
  have HYY := Lib.hid hy
  have HTT := Lib.hid hT
  have HV := Lib.hid hV
  clear hV hb hs hy hv hlb hlv hls hly hT
  go_enter Tryd.func33, Tryd.ntmps33
  go_upto_region 1 with fail
  rw [← HV.out]
  by_cases g1 : sl = bl
  · have q1 : ((sl : Int) != (bl : Int)) = false := by simp; omega
    by_cases g2 : yl = bl
    · have q2 : ((yl : Int) != (bl : Int)) = false := by simp; omega
      have G1 := Lib.hid g1
      have G2 := Lib.hid g2
      clear g1 g2
      have E1 := Lib.hid e1
      have E2 := Lib.hid e2
      have E0 := Lib.hid e0
      go_wp2
      clear e0 e1 e2
      go_loopg [7, 27] bl (fun gg s7 s27 wr => ∃ k : Nat, s27 = .int .i64 (k : Int) ∧ k ≤ bl ∧ bl - k ≤ gg ∧ s7 = .int .i64 (endZ bn zs k) ∧ Hid (∀ i, i < k → okStart bn[i]! (zs[i]?.getD 0) = true ∧ AreV (vI vn) rs[i]! ∧ ∀ j, j < i → clashZ bn[i]!.tm bn[j]!.tm (zs[i]?.getD 0) (zs[j]?.getD 0) rs[i]! rs[j]! = false) ∧ Hid (Below V.heap.size V wr))
      case atStart => exact ⟨0, rfl, Nat.zero_le _, by omega, rfl, Lib.hid (fun i hi => absurd hi (by omega)), Lib.hid (Below.refl _ _)⟩
      case round =>
        obtain ⟨k, rfl, hk, hgg, rfl, HN, HBr⟩ := hrel
        have hWr := HB.out.trans (HBr.out.mono HB.out.size)
        have e0 := cell_later HBr.out E0.out
        by_cases h1 : k < bl
        · have u0 : (0 : Int) ≤ (k : Int) := by omega
          have u1 : (k : Int) < (bl : Int) := by omega
          have u2 : (k : Int) < (sl : Int) := by rw [G1.out]; exact u1
          have u3 : (k : Int) < (yl : Int) := by rw [G2.out]; exact u1
          have px := cell_later HBr.out E1.out
          have py := cell_later HBr.out E2.out
          obtain ⟨gB, ob, ta, tl, tc, hgB, hx⟩ := (HBB.out.keep hWr).at h1
          rw [bI_at (by rw [HLB.out]; exact h1)] at hx
          obtain ⟨gX, ox, hgX, hzc⟩ := (HSS.out.keep hWr).at (show 0 < sl by omega)
          have pz := hzc k (by omega)
          obtain ⟨hyn, gY, oy, hgY, hyr⟩ := HYY.out.keep hWr
          have hgY := hgY (by omega)
          obtain ⟨ra, rl, rc, pr, ilr, rle⟩ := hyr k (by omega)
          obtain ⟨b, hbe⟩ : ∃ b, b = bn[k]! := ⟨_, rfl⟩
          obtain ⟨z, hze⟩ : ∃ z, z = zs[k]?.getD 0 := ⟨_, rfl⟩
          obtain ⟨r, hre⟩ : ∃ r, r = rs[k]! := ⟨_, rfl⟩
          rw [← hbe] at hx
          rw [← hze] at pz
          rw [← hre] at ilr
          have hlt : b.tm.length = vn.length := by rw [hbe]; exact HTT.out.len k (by rw [HLB.out]; exact h1)
          have hl3 : b.tm.length ≤ 3 := by have := HLV.out; omega
          have HM : Hid (∀ q, q < b.tm.length → b.tm[q]! ≤ 30) := Lib.hid (fun q hq => by rw [hbe] at hq ⊢; exact (HTT.out.tm k (by rw [HLB.out]; exact h1) q (by rw [← HTT.out.len k (by rw [HLB.out]; exact h1)]; exact hq)).2)
          have HBE := Lib.hid hbe
          have HZE := Lib.hid hze
          have HRE := Lib.hid hre
          have HLT := Lib.hid hlt
          have c0 : wr.cell? ⟨gB, ob + k * 2, none⟩ = some (.int .i64 (b.rdy : Int)) := hx.c0
          have c1 := hx.c1
          have IL0 : Hid (Il wr ta tl (vI b.tm)) := Lib.hid hx.il
          have ILR := Lib.hid ilr
          subst hgB hgX hgY
          obtain ⟨wx, hwx⟩ : ∃ wx, wx = wr.alloc (.cells #[.int .i64 (b.rdy : Int), .slice ta tl tc] 43) := ⟨_, rfl⟩
          have HBx : Hid (Below wr.heap.size wr wx) := Lib.hid (by rw [hwx]; exact box_below wr _)
          have RX : Hid (wx.heap[wr.heap.size]? = some (.cells #[.int .i64 (b.rdy : Int), .slice ta tl tc] 43 (0, 0))) := Lib.hid (by rw [hwx]; exact new_row wr _)
          have HWX := Lib.hid hwx
          have IL := Lib.hid (IL0.out.keep HBx.out)
          have HVx := Lib.hid (HBr.out.trans (HBx.out.mono HBr.out.size))
          have HWr := Lib.hid hWr
          clear hwx hx hzc hyr ilr hbe hze hre hlt hyn hWr e0
          go_upto_region 7 with fail
          rw [← HWX.out]
          have p1 := cell_later HBx.out px
          have p2 := cell_later HBx.out py
          have px' := cell_later HBx.out pz
          have py' := cell_later HBx.out pr
          have pb0 := cell_row RX.out 0
          have pb1 := cell_row RX.out 1
          simp only [List.getElem?_toArray, List.getElem?_cons_zero, List.getElem?_cons_succ] at pb0 pb1
          clear px py pz pr c0 c1
          cases hst : okStart b z with
          | false =>
            have HST := Lib.hid hst
            clear hst
            refine wp_region_held_drew (S := fun w' => w'.cell? ⟨W.heap.size, 1, none⟩ = some (.slice (some ⟨gX, ox, none⟩) sl sc) ∧ w'.cell? ⟨W.heap.size, 2, none⟩ = some (.slice (some ⟨gY, oy, none⟩) yl yc) ∧ w'.cell? ⟨gX, ox + k, none⟩ = some (.int .i64 z) ∧ w'.cell? ⟨gY, oy + k, none⟩ = some (.slice ra rl rc) ∧ w'.cell? ⟨wr.heap.size, 0, none⟩ = some (.int .i64 (b.rdy : Int)) ∧ w'.cell? ⟨wr.heap.size, 1, none⟩ = some (.slice ta tl tc)) (by kernel_rfl) ⟨p1, p2, px', py', pb0, pb1⟩ (fun hS => ?_)
            clear p1 p2 px' py' pb0 pb1
            refine wpAnyH_take (i := 0) (v := ?vs0) rfl (by kernel_rfl) (by kernel_rfl) (by kernel_rfl) (fun _ _ _ h => h) (Or.inl ⟨by rfl, ?hys0⟩) hS ?rests0
            case hys0 => (intro w hSw; (try dsimp only at hSw); (first | (go_simp; done) | (go_simp; with_reducible rfl)))
            try simp only [Act.put, List.getElem_toArray, List.getElem_cons_succ, List.getElem_cons_zero, List.setIfInBounds_toArray, List.set_cons_zero, List.set_cons_succ]
            refine wpAnyH_take (i := 1) (v := ?vs1) rfl (by kernel_rfl) (by kernel_rfl) (by kernel_rfl) (fun _ _ _ h => h) (Or.inl ⟨by rfl, ?hys1⟩) hS ?rests1
            case hys1 => (intro w hSw; (try dsimp only at hSw); (first | (go_simp; done) | (go_simp; with_reducible rfl)))
            try simp only [Act.put, List.getElem_toArray, List.getElem_cons_succ, List.getElem_cons_zero, List.setIfInBounds_toArray, List.set_cons_zero, List.set_cons_succ]
            refine wpAnyH_take (i := 2) (v := ?vs2) rfl (by kernel_rfl) (by kernel_rfl) (by kernel_rfl) (fun _ _ _ h => h) (Or.inl ⟨by rfl, ?hys2⟩) hS ?rests2
            case hys2 => (intro w hSw; (try dsimp only at hSw); (first | (go_simp; done) | (go_simp; with_reducible rfl)))
            try simp only [Act.put, List.getElem_toArray, List.getElem_cons_succ, List.getElem_cons_zero, List.setIfInBounds_toArray, List.set_cons_zero, List.set_cons_succ]
            refine wpAnyH_take (i := 3) (v := ?vs3) rfl (by kernel_rfl) (by kernel_rfl) (by kernel_rfl) (fun _ _ _ h => h) (Or.inl ⟨by rfl, ?hys3⟩) hS ?rests3
            case hys3 => (intro w hSw; (try dsimp only at hSw); (first | (go_simp; done) | (go_simp; with_reducible rfl)))
            try simp only [Act.put, List.getElem_toArray, List.getElem_cons_succ, List.getElem_cons_zero, List.setIfInBounds_toArray, List.set_cons_zero, List.set_cons_succ]
            refine wpAnyH_take (i := 4) (v := ?vs4) rfl (by kernel_rfl) (by kernel_rfl) (by kernel_rfl) (fun _ _ _ h => h) (Or.inl ⟨by rfl, ?hys4⟩) hS ?rests4
            case hys4 => (intro w hSw; (try dsimp only at hSw); (first | (go_simp; done) | (go_simp; with_reducible rfl)))
            try simp only [Act.put, List.getElem_toArray, List.getElem_cons_succ, List.getElem_cons_zero, List.setIfInBounds_toArray, List.set_cons_zero, List.set_cons_succ]
            refine wpAnyH_take (i := 5) (v := ?vs5) rfl (by kernel_rfl) (by kernel_rfl) (by kernel_rfl) (fun _ _ _ h => h) (Or.inl ⟨by rfl, ?hys5⟩) hS ?rests5
            case hys5 => (intro w hSw; (try dsimp only at hSw); (first | (go_simp; done) | (go_simp; with_reducible rfl)))
            try simp only [Act.put, List.getElem_toArray, List.getElem_cons_succ, List.getElem_cons_zero, List.setIfInBounds_toArray, List.set_cons_zero, List.set_cons_succ]
            refine wpAnyH_ready (rs := [6]) (by kernel_rfl) (by simp) ?_
            refine AllReadyH.cons rfl (fun K hK => ?_) AllReadyH.nil
            try go_simp
            go_at_call 43
            refine (isStart_any b ta tl tc z _ (IL.out.keep (drew_below _)) HM.out hl3).mono ?_
            rintro e w1 ⟨rfl, hb⟩
            rw [HST.out]
            obtain ⟨z0, z1, z2, z3, z4, z5⟩ := hS
            have HBR := Lib.hid ((drew_below wx).trans hb)
            have x0 := cell_later hb z0
            have x1 := cell_later hb z1
            have x2 := cell_later hb z2
            have x3 := cell_later hb z3
            have x4 := cell_later hb z4
            have x5 := cell_later hb z5
            clear hb z0 z1 z2 z3 z4 z5
            refine hK.out _ _ ⟨x0, x1, x2, x3, x4, x5⟩ (fun hS => ?_)
            clear hK K
            try simp only [Act.put, List.getElem_toArray, List.getElem_cons_succ, List.getElem_cons_zero, List.setIfInBounds_toArray, List.set_cons_zero, List.set_cons_succ]
            refine wpAnyH_take (i := 7) (v := ?vs7) rfl (by kernel_rfl) (by kernel_rfl) (by kernel_rfl) (fun _ _ _ h => h) (Or.inl ⟨by rfl, ?hys7⟩) hS ?rests7
            case hys7 => (intro w hSw; (try dsimp only at hSw); (first | (go_simp; done) | (go_simp; with_reducible rfl)))
            try simp only [Act.put, List.getElem_toArray, List.getElem_cons_succ, List.getElem_cons_zero, List.setIfInBounds_toArray, List.set_cons_zero, List.set_cons_succ]
            refine wpAnyH_take (i := 8) (v := ?vs8) rfl (by kernel_rfl) (by kernel_rfl) (by kernel_rfl) (fun _ _ _ h => h) (Or.inl ⟨by rfl, ?hys8⟩) hS ?rests8
            case hys8 => (intro w hSw; (try dsimp only at hSw); (first | (go_simp; done) | (go_simp; with_reducible rfl)))
            try simp only [Act.put, List.getElem_toArray, List.getElem_cons_succ, List.getElem_cons_zero, List.setIfInBounds_toArray, List.set_cons_zero, List.set_cons_succ]
            refine wpAnyH_take (i := 9) (v := undef) rfl (by kernel_rfl) (by kernel_rfl) (by kernel_rfl) (fun _ _ _ h => h) (Or.inr ⟨by rfl, rfl⟩) hS ?_
            try simp only [Act.put, List.getElem_toArray, List.getElem_cons_succ, List.getElem_cons_zero, List.setIfInBounds_toArray, List.set_cons_zero, List.set_cons_succ]
            refine wpAnyH_take (i := 10) (v := undef) rfl (by kernel_rfl) (by kernel_rfl) (by kernel_rfl) (fun _ _ _ h => h) (Or.inr ⟨by rfl, rfl⟩) hS ?_
            try simp only [Act.put, List.getElem_toArray, List.getElem_cons_succ, List.getElem_cons_zero, List.setIfInBounds_toArray, List.set_cons_zero, List.set_cons_succ]
            refine wpAnyH_take (i := 11) (v := undef) rfl (by kernel_rfl) (by kernel_rfl) (by kernel_rfl) (fun _ _ _ h => h) (Or.inr ⟨by rfl, rfl⟩) hS ?_
            try simp only [Act.put, List.getElem_toArray, List.getElem_cons_succ, List.getElem_cons_zero, List.setIfInBounds_toArray, List.set_cons_zero, List.set_cons_succ]
            refine wpAnyH_take (i := 12) (v := undef) rfl (by kernel_rfl) (by kernel_rfl) (by kernel_rfl) (fun _ _ _ h => h) (Or.inr ⟨by rfl, rfl⟩) hS ?_
            try simp only [Act.put, List.getElem_toArray, List.getElem_cons_succ, List.getElem_cons_zero, List.setIfInBounds_toArray, List.set_cons_zero, List.set_cons_succ]
            refine wpAnyH_take (i := 13) (v := undef) rfl (by kernel_rfl) (by kernel_rfl) (by kernel_rfl) (fun _ _ _ h => h) (Or.inr ⟨by rfl, rfl⟩) hS ?_
            try simp only [Act.put, List.getElem_toArray, List.getElem_cons_succ, List.getElem_cons_zero, List.setIfInBounds_toArray, List.set_cons_zero, List.set_cons_succ]
            refine wpAnyH_take (i := 14) (v := undef) rfl (by kernel_rfl) (by kernel_rfl) (by kernel_rfl) (fun _ _ _ h => h) (Or.inr ⟨by rfl, rfl⟩) hS ?_
            try simp only [Act.put, List.getElem_toArray, List.getElem_cons_succ, List.getElem_cons_zero, List.setIfInBounds_toArray, List.set_cons_zero, List.set_cons_succ]
            refine wpAnyH_take (i := 15) (v := undef) rfl (by kernel_rfl) (by kernel_rfl) (by kernel_rfl) (fun _ _ _ h => h) (Or.inr ⟨by rfl, rfl⟩) hS ?_
            try simp only [Act.put, List.getElem_toArray, List.getElem_cons_succ, List.getElem_cons_zero, List.setIfInBounds_toArray, List.set_cons_zero, List.set_cons_succ]
            refine wpAnyH_take (i := 16) (v := undef) rfl (by kernel_rfl) (by kernel_rfl) (by kernel_rfl) (fun _ _ _ h => h) (Or.inr ⟨by rfl, rfl⟩) hS ?_
            try simp only [Act.put, List.getElem_toArray, List.getElem_cons_succ, List.getElem_cons_zero, List.setIfInBounds_toArray, List.set_cons_zero, List.set_cons_succ]
            refine wpAnyH_take (i := 17) (v := ?vs17) rfl (by kernel_rfl) (by kernel_rfl) (by kernel_rfl) (fun _ _ _ h => h) (Or.inl ⟨by rfl, ?hys17⟩) hS ?rests17
            case hys17 => (intro w hSw; (try dsimp only at hSw); (first | (go_simp; done) | (go_simp; with_reducible rfl)))
            try simp only [Act.put, List.getElem_toArray, List.getElem_cons_succ, List.getElem_cons_zero, List.setIfInBounds_toArray, List.set_cons_zero, List.set_cons_succ]
            refine wpAnyH_done (by kernel_rfl) ?_ _
            all_goals go_wp2_with fail
            all_goals go_ret
            all_goals exact ⟨.inr ⟨fun h => (by have := h.st k (by rw [HLB.out]; exact h1); rw [← HBE.out, ← HZE.out, HST.out] at this; cases this), rfl⟩, HWr.out.trans ((HBx.out.trans (HBR.out.mono HBx.out.size)).mono HWr.out.size)⟩
          | true =>
            have HST := Lib.hid hst
            clear hst
            by_cases hav : AreV (vI vn) r
            · have HAV := Lib.hid hav
              have HAR : Hid (∀ w', Below wx.heap.size wx w' → Calls Tryd.prog 44 #[.slice va vl vc, .slice ra rl rc] w' (fun e w'' => e = .returned (.bool true) ∧ w' = w'')) := Lib.hid (fun w' hw' => (areV_any va vl vc ra rl rc (vI vn) r w' (HVV.out.keep (HWr.out.trans ((HBx.out.trans (hw'.mono HBx.out.size)).mono HWr.out.size))) (ILR.out.keep (HBx.out.trans (hw'.mono HBx.out.size))) rle (by omega)).mono (by
                rintro e w'' ⟨⟨_, rfl⟩ | ⟨hn, rfl⟩, rfl⟩
                · exact ⟨rfl, rfl⟩
                · exact absurd hav hn))
              clear hav
              refine wp_region_held_drew (S := fun w' => w'.cell? ⟨W.heap.size, 1, none⟩ = some (.slice (some ⟨gX, ox, none⟩) sl sc) ∧ w'.cell? ⟨W.heap.size, 2, none⟩ = some (.slice (some ⟨gY, oy, none⟩) yl yc) ∧ w'.cell? ⟨gX, ox + k, none⟩ = some (.int .i64 z) ∧ w'.cell? ⟨gY, oy + k, none⟩ = some (.slice ra rl rc) ∧ w'.cell? ⟨wr.heap.size, 0, none⟩ = some (.int .i64 (b.rdy : Int)) ∧ w'.cell? ⟨wr.heap.size, 1, none⟩ = some (.slice ta tl tc)) (by kernel_rfl) ⟨p1, p2, px', py', pb0, pb1⟩ (fun hS => ?_)
              clear p1 p2 px' py' pb0 pb1
              refine wpAnyH_take (i := 0) (v := ?vo0) rfl (by kernel_rfl) (by kernel_rfl) (by kernel_rfl) (fun _ _ _ h => h) (Or.inl ⟨by rfl, ?hyo0⟩) hS ?resto0
              case hyo0 => (intro w hSw; (try dsimp only at hSw); (first | (go_simp; done) | (go_simp; with_reducible rfl)))
              try simp only [Act.put, List.getElem_toArray, List.getElem_cons_succ, List.getElem_cons_zero, List.setIfInBounds_toArray, List.set_cons_zero, List.set_cons_succ]
              refine wpAnyH_take (i := 1) (v := ?vo1) rfl (by kernel_rfl) (by kernel_rfl) (by kernel_rfl) (fun _ _ _ h => h) (Or.inl ⟨by rfl, ?hyo1⟩) hS ?resto1
              case hyo1 => (intro w hSw; (try dsimp only at hSw); (first | (go_simp; done) | (go_simp; with_reducible rfl)))
              try simp only [Act.put, List.getElem_toArray, List.getElem_cons_succ, List.getElem_cons_zero, List.setIfInBounds_toArray, List.set_cons_zero, List.set_cons_succ]
              refine wpAnyH_take (i := 2) (v := ?vo2) rfl (by kernel_rfl) (by kernel_rfl) (by kernel_rfl) (fun _ _ _ h => h) (Or.inl ⟨by rfl, ?hyo2⟩) hS ?resto2
              case hyo2 => (intro w hSw; (try dsimp only at hSw); (first | (go_simp; done) | (go_simp; with_reducible rfl)))
              try simp only [Act.put, List.getElem_toArray, List.getElem_cons_succ, List.getElem_cons_zero, List.setIfInBounds_toArray, List.set_cons_zero, List.set_cons_succ]
              refine wpAnyH_take (i := 3) (v := ?vo3) rfl (by kernel_rfl) (by kernel_rfl) (by kernel_rfl) (fun _ _ _ h => h) (Or.inl ⟨by rfl, ?hyo3⟩) hS ?resto3
              case hyo3 => (intro w hSw; (try dsimp only at hSw); (first | (go_simp; done) | (go_simp; with_reducible rfl)))
              try simp only [Act.put, List.getElem_toArray, List.getElem_cons_succ, List.getElem_cons_zero, List.setIfInBounds_toArray, List.set_cons_zero, List.set_cons_succ]
              refine wpAnyH_take (i := 4) (v := ?vo4) rfl (by kernel_rfl) (by kernel_rfl) (by kernel_rfl) (fun _ _ _ h => h) (Or.inl ⟨by rfl, ?hyo4⟩) hS ?resto4
              case hyo4 => (intro w hSw; (try dsimp only at hSw); (first | (go_simp; done) | (go_simp; with_reducible rfl)))
              try simp only [Act.put, List.getElem_toArray, List.getElem_cons_succ, List.getElem_cons_zero, List.setIfInBounds_toArray, List.set_cons_zero, List.set_cons_succ]
              refine wpAnyH_take (i := 5) (v := ?vo5) rfl (by kernel_rfl) (by kernel_rfl) (by kernel_rfl) (fun _ _ _ h => h) (Or.inl ⟨by rfl, ?hyo5⟩) hS ?resto5
              case hyo5 => (intro w hSw; (try dsimp only at hSw); (first | (go_simp; done) | (go_simp; with_reducible rfl)))
              try simp only [Act.put, List.getElem_toArray, List.getElem_cons_succ, List.getElem_cons_zero, List.setIfInBounds_toArray, List.set_cons_zero, List.set_cons_succ]
              refine wpAnyH_ready (rs := [6]) (by kernel_rfl) (by simp) ?_
              refine AllReadyH.cons rfl (fun K hK => ?_) AllReadyH.nil
              try go_simp
              go_at_call 43
              refine (isStart_any b ta tl tc z _ (IL.out.keep (drew_below _)) HM.out hl3).mono ?_
              rintro e w1 ⟨rfl, hb⟩
              rw [HST.out]
              obtain ⟨z0, z1, z2, z3, z4, z5⟩ := hS
              have HBR := Lib.hid ((drew_below wx).trans hb)
              have x0 := cell_later hb z0
              have x1 := cell_later hb z1
              have x2 := cell_later hb z2
              have x3 := cell_later hb z3
              have x4 := cell_later hb z4
              have x5 := cell_later hb z5
              clear hb z0 z1 z2 z3 z4 z5
              refine hK.out _ _ ⟨x0, x1, x2, x3, x4, x5⟩ (fun hS => ?_)
              clear hK K
              try simp only [Act.put, List.getElem_toArray, List.getElem_cons_succ, List.getElem_cons_zero, List.setIfInBounds_toArray, List.set_cons_zero, List.set_cons_succ]
              refine wpAnyH_take (i := 7) (v := ?vo7) rfl (by kernel_rfl) (by kernel_rfl) (by kernel_rfl) (fun _ _ _ h => h) (Or.inl ⟨by rfl, ?hyo7⟩) hS ?resto7
              case hyo7 => (intro w hSw; (try dsimp only at hSw); (first | (go_simp; done) | (go_simp; with_reducible rfl)))
              try simp only [Act.put, List.getElem_toArray, List.getElem_cons_succ, List.getElem_cons_zero, List.setIfInBounds_toArray, List.set_cons_zero, List.set_cons_succ]
              refine wpAnyH_take (i := 8) (v := ?vo8) rfl (by kernel_rfl) (by kernel_rfl) (by kernel_rfl) (fun _ _ _ h => h) (Or.inl ⟨by rfl, ?hyo8⟩) hS ?resto8
              case hyo8 => (intro w hSw; (try dsimp only at hSw); (first | (go_simp; done) | (go_simp; with_reducible rfl)))
              try simp only [Act.put, List.getElem_toArray, List.getElem_cons_succ, List.getElem_cons_zero, List.setIfInBounds_toArray, List.set_cons_zero, List.set_cons_succ]
              refine wpAnyH_take (i := 9) (v := ?vo9) rfl (by kernel_rfl) (by kernel_rfl) (by kernel_rfl) (fun _ _ _ h => h) (Or.inl ⟨by rfl, ?hyo9⟩) hS ?resto9
              case hyo9 => (intro w hSw; (try dsimp only at hSw); (first | (go_simp; done) | (go_simp; with_reducible rfl)))
              try simp only [Act.put, List.getElem_toArray, List.getElem_cons_succ, List.getElem_cons_zero, List.setIfInBounds_toArray, List.set_cons_zero, List.set_cons_succ]
              refine wpAnyH_take (i := 10) (v := ?vo10) rfl (by kernel_rfl) (by kernel_rfl) (by kernel_rfl) (fun _ _ _ h => h) (Or.inl ⟨by rfl, ?hyo10⟩) hS ?resto10
              case hyo10 => (intro w hSw; (try dsimp only at hSw); (first | (go_simp; done) | (go_simp; with_reducible rfl)))
              try simp only [Act.put, List.getElem_toArray, List.getElem_cons_succ, List.getElem_cons_zero, List.setIfInBounds_toArray, List.set_cons_zero, List.set_cons_succ]
              refine wpAnyH_take (i := 11) (v := ?vo11) rfl (by kernel_rfl) (by kernel_rfl) (by kernel_rfl) (fun _ _ _ h => h) (Or.inl ⟨by rfl, ?hyo11⟩) hS ?resto11
              case hyo11 => (intro w hSw; (try dsimp only at hSw); (first | (go_simp; done) | (go_simp; with_reducible rfl)))
              try simp only [Act.put, List.getElem_toArray, List.getElem_cons_succ, List.getElem_cons_zero, List.setIfInBounds_toArray, List.set_cons_zero, List.set_cons_succ]
              refine wpAnyH_take (i := 12) (v := ?vo12) rfl (by kernel_rfl) (by kernel_rfl) (by kernel_rfl) (fun _ _ _ h => h) (Or.inl ⟨by rfl, ?hyo12⟩) hS ?resto12
              case hyo12 => (intro w hSw; (try dsimp only at hSw); (first | (go_simp; done) | (go_simp; with_reducible rfl)))
              try simp only [Act.put, List.getElem_toArray, List.getElem_cons_succ, List.getElem_cons_zero, List.setIfInBounds_toArray, List.set_cons_zero, List.set_cons_succ]
              refine wpAnyH_take (i := 13) (v := ?vo13) rfl (by kernel_rfl) (by kernel_rfl) (by kernel_rfl) (fun _ _ _ h => h) (Or.inl ⟨by rfl, ?hyo13⟩) hS ?resto13
              case hyo13 => (intro w hSw; (try dsimp only at hSw); (first | (go_simp; done) | (go_simp; with_reducible rfl)))
              try simp only [Act.put, List.getElem_toArray, List.getElem_cons_succ, List.getElem_cons_zero, List.setIfInBounds_toArray, List.set_cons_zero, List.set_cons_succ]
              refine wpAnyH_take (i := 14) (v := ?vo14) rfl (by kernel_rfl) (by kernel_rfl) (by kernel_rfl) (fun _ _ _ h => h) (Or.inl ⟨by rfl, ?hyo14⟩) hS ?resto14
              case hyo14 => (intro w hSw; (try dsimp only at hSw); (first | (go_simp; done) | (go_simp; with_reducible rfl)))
              try simp only [Act.put, List.getElem_toArray, List.getElem_cons_succ, List.getElem_cons_zero, List.setIfInBounds_toArray, List.set_cons_zero, List.set_cons_succ]
              refine wpAnyH_ready (rs := [15]) (by kernel_rfl) (by simp) ?_
              refine AllReadyH.cons rfl (fun K hK => ?_) AllReadyH.nil
              try go_simp
              go_at_call 44
              refine (HAR.out _ HBR.out).mono ?_
              rintro e w3 ⟨rfl, rfl⟩
              refine hK.out _ _ hS (fun hS => ?_)
              clear hK K
              try simp only [Act.put, List.getElem_toArray, List.getElem_cons_succ, List.getElem_cons_zero, List.setIfInBounds_toArray, List.set_cons_zero, List.set_cons_succ]
              refine wpAnyH_take (i := 16) (v := ?vo16) rfl (by kernel_rfl) (by kernel_rfl) (by kernel_rfl) (fun _ _ _ h => h) (Or.inl ⟨by rfl, ?hyo16⟩) hS ?resto16
              case hyo16 => (intro w hSw; (try dsimp only at hSw); (first | (go_simp; done) | (go_simp; with_reducible rfl)))
              try simp only [Act.put, List.getElem_toArray, List.getElem_cons_succ, List.getElem_cons_zero, List.setIfInBounds_toArray, List.set_cons_zero, List.set_cons_succ]
              refine wpAnyH_take (i := 17) (v := ?vo17) rfl (by kernel_rfl) (by kernel_rfl) (by kernel_rfl) (fun _ _ _ h => h) (Or.inl ⟨by rfl, ?hyo17⟩) hS ?resto17
              case hyo17 => (intro w hSw; (try dsimp only at hSw); (first | (go_simp; done) | (go_simp; with_reducible rfl)))
              try simp only [Act.put, List.getElem_toArray, List.getElem_cons_succ, List.getElem_cons_zero, List.setIfInBounds_toArray, List.set_cons_zero, List.set_cons_succ]
              refine wpAnyH_done (by kernel_rfl) ?_ _
              all_goals go_wp2_with fail
              have IL2 := Lib.hid (IL.out.keep HBR.out)
              have z1 := (okStart_le HST.out).1
              have z2 := (okStart_le HST.out).2
              have hd : (b.tm.sum : Nat) = durN b := rfl
              have zz : 0 ≤ z + ((b.tm.sum : Nat) : Int) := by omega
              have zm : z + ((b.tm.sum : Nat) : Int) ≤ 9223372036854775807 := by omega
              have zw : IntKind.i64.wrap (z + ((b.tm.sum : Nat) : Int)) = z + ((b.tm.sum : Nat) : Int) := IntWalk.i64_in _ (by omega)
              have HD := Lib.hid hd
              have z0 : 0 ≤ z := by omega
              clear hd
              rcases Int.lt_or_le (endZ bn zs k) (z + ((b.tm.sum : Nat) : Int)) with hmx | hmx
              · have HE1 : Hid (endZ bn zs (k + 1) = z + ((b.tm.sum : Nat) : Int)) := Lib.hid (by unfold endZ; rw [← HBE.out, ← HZE.out, ← HD.out]; omega)
                refine wp_region_held_drew (S := fun w' => w'.cell? ⟨W.heap.size, 1, none⟩ = some (.slice (some ⟨gX, ox, none⟩) sl sc) ∧ w'.cell? ⟨gX, ox + k, none⟩ = some (.int .i64 z) ∧ w'.cell? ⟨wr.heap.size, 0, none⟩ = some (.int .i64 (b.rdy : Int)) ∧ w'.cell? ⟨wr.heap.size, 1, none⟩ = some (.slice ta tl tc)) (by kernel_rfl) ⟨x0, x2, x4, x5⟩ (fun hS => ?_)
                clear x0 x1 x2 x3 x4 x5
                refine wpAnyH_take (i := 0) (v := ?vma0) rfl (by kernel_rfl) (by kernel_rfl) (by kernel_rfl) (fun _ _ _ h => h) (Or.inl ⟨by rfl, ?hyma0⟩) hS ?restma0
                case hyma0 => (intro w hSw; (try dsimp only at hSw); (first | (go_simp; done) | (go_simp; with_reducible rfl)))
                try simp only [Act.put, List.getElem_toArray, List.getElem_cons_succ, List.getElem_cons_zero, List.setIfInBounds_toArray, List.set_cons_zero, List.set_cons_succ]
                refine wpAnyH_take (i := 1) (v := ?vma1) rfl (by kernel_rfl) (by kernel_rfl) (by kernel_rfl) (fun _ _ _ h => h) (Or.inl ⟨by rfl, ?hyma1⟩) hS ?restma1
                case hyma1 => (intro w hSw; (try dsimp only at hSw); (first | (go_simp; done) | (go_simp; with_reducible rfl)))
                try simp only [Act.put, List.getElem_toArray, List.getElem_cons_succ, List.getElem_cons_zero, List.setIfInBounds_toArray, List.set_cons_zero, List.set_cons_succ]
                refine wpAnyH_take (i := 2) (v := ?vma2) rfl (by kernel_rfl) (by kernel_rfl) (by kernel_rfl) (fun _ _ _ h => h) (Or.inl ⟨by rfl, ?hyma2⟩) hS ?restma2
                case hyma2 => (intro w hSw; (try dsimp only at hSw); (first | (go_simp; done) | (go_simp; with_reducible rfl)))
                try simp only [Act.put, List.getElem_toArray, List.getElem_cons_succ, List.getElem_cons_zero, List.setIfInBounds_toArray, List.set_cons_zero, List.set_cons_succ]
                refine wpAnyH_take (i := 3) (v := ?vma3) rfl (by kernel_rfl) (by kernel_rfl) (by kernel_rfl) (fun _ _ _ h => h) (Or.inl ⟨by rfl, ?hyma3⟩) hS ?restma3
                case hyma3 => (intro w hSw; (try dsimp only at hSw); (first | (go_simp; done) | (go_simp; with_reducible rfl)))
                try simp only [Act.put, List.getElem_toArray, List.getElem_cons_succ, List.getElem_cons_zero, List.setIfInBounds_toArray, List.set_cons_zero, List.set_cons_succ]
                refine wpAnyH_take (i := 4) (v := ?vma4) rfl (by kernel_rfl) (by kernel_rfl) (by kernel_rfl) (fun _ _ _ h => h) (Or.inl ⟨by rfl, ?hyma4⟩) hS ?restma4
                case hyma4 => (intro w hSw; (try dsimp only at hSw); (first | (go_simp; done) | (go_simp; with_reducible rfl)))
                try simp only [Act.put, List.getElem_toArray, List.getElem_cons_succ, List.getElem_cons_zero, List.setIfInBounds_toArray, List.set_cons_zero, List.set_cons_succ]
                refine wpAnyH_take (i := 5) (v := ?vma5) rfl (by kernel_rfl) (by kernel_rfl) (by kernel_rfl) (fun _ _ _ h => h) (Or.inl ⟨by rfl, ?hyma5⟩) hS ?restma5
                case hyma5 => (intro w hSw; (try dsimp only at hSw); (first | (go_simp; done) | (go_simp; with_reducible rfl)))
                try simp only [Act.put, List.getElem_toArray, List.getElem_cons_succ, List.getElem_cons_zero, List.setIfInBounds_toArray, List.set_cons_zero, List.set_cons_succ]
                refine wpAnyH_take (i := 6) (v := ?vma6) rfl (by kernel_rfl) (by kernel_rfl) (by kernel_rfl) (fun _ _ _ h => h) (Or.inl ⟨by rfl, ?hyma6⟩) hS ?restma6
                case hyma6 => (intro w hSw; (try dsimp only at hSw); (first | (go_simp; done) | (go_simp; with_reducible rfl)))
                try simp only [Act.put, List.getElem_toArray, List.getElem_cons_succ, List.getElem_cons_zero, List.setIfInBounds_toArray, List.set_cons_zero, List.set_cons_succ]
                refine wpAnyH_ready (rs := [7]) (by kernel_rfl) (by simp) ?_
                refine AllReadyH.cons rfl (fun K hK => ?_) AllReadyH.nil
                try go_simp
                go_at_call 36
                refine (duration_any (b.rdy : Int) ta tl tc b.tm _ (IL2.out.keep (drew_below _)) HM.out hl3).mono ?_
                rintro e w2 ⟨rfl, hb⟩
                obtain ⟨z0, z1, z2, z3⟩ := hS
                have HBS := Lib.hid ((drew_below w1).trans hb)
                have x0 := cell_later hb z0
                have x1 := cell_later hb z1
                have x2 := cell_later hb z2
                have x3 := cell_later hb z3
                clear hb z0 z1 z2 z3
                refine hK.out _ _ ⟨x0, x1, x2, x3⟩ (fun hS => ?_)
                clear hK K
                try simp only [Act.put, List.getElem_toArray, List.getElem_cons_succ, List.getElem_cons_zero, List.setIfInBounds_toArray, List.set_cons_zero, List.set_cons_succ]
                clear x0 x1 x2 x3
                refine wpAnyH_take (i := 8) (v := ?vma8) rfl (by kernel_rfl) (by kernel_rfl) (by kernel_rfl) (fun _ _ _ h => h) (Or.inl ⟨by rfl, ?hyma8⟩) hS ?restma8
                case hyma8 => (intro w hSw; (try dsimp only at hSw); (first | (go_simp; done) | (go_simp; with_reducible rfl)))
                try simp only [Act.put, List.getElem_toArray, List.getElem_cons_succ, List.getElem_cons_zero, List.setIfInBounds_toArray, List.set_cons_zero, List.set_cons_succ]
                refine wpAnyH_take (i := 9) (v := ?vma9) rfl (by kernel_rfl) (by kernel_rfl) (by kernel_rfl) (fun _ _ _ h => h) (Or.inl ⟨by rfl, ?hyma9⟩) hS ?restma9
                case hyma9 => (intro w hSw; (try dsimp only at hSw); (first | (go_simp; done) | (go_simp; with_reducible rfl)))
                try simp only [Act.put, List.getElem_toArray, List.getElem_cons_succ, List.getElem_cons_zero, List.setIfInBounds_toArray, List.set_cons_zero, List.set_cons_succ]
                refine wpAnyH_take (i := 10) (v := ?vma10) rfl (by kernel_rfl) (by kernel_rfl) (by kernel_rfl) (fun _ _ _ h => h) (Or.inl ⟨by rfl, ?hyma10⟩) hS ?restma10
                case hyma10 => (intro w hSw; (try dsimp only at hSw); (first | (go_simp; done) | (go_simp; with_reducible rfl)))
                try simp only [Act.put, List.getElem_toArray, List.getElem_cons_succ, List.getElem_cons_zero, List.setIfInBounds_toArray, List.set_cons_zero, List.set_cons_succ]
                refine wpAnyH_done (by kernel_rfl) ?_ _
                all_goals go_wp2_with fail
                go_loopg [61] k (fun gg s61 wr2 => ∃ j : Nat, s61 = .int .i64 (j : Int) ∧ j ≤ k ∧ k - j ≤ gg ∧ Hid (∀ q, q < j → clashZ b.tm bn[q]!.tm z (zs[q]?.getD 0) r rs[q]! = false) ∧ Hid (Below w2.heap.size w2 wr2))
                case atStart => exact ⟨0, rfl, Nat.zero_le _, by omega, Lib.hid (fun q hq => absurd hq (by omega)), Lib.hid (Below.refl _ _)⟩
                case round =>
                  obtain ⟨j, rfl, hj, hgg2, HN2, HB2⟩ := hrel
                  have HV2 := Lib.hid (HVx.out.trans ((HBR.out.trans ((HBS.out.trans (HB2.out.mono HBS.out.size)).mono HBR.out.size)).mono HVx.out.size))
                  have HW2 := Lib.hid (HB.out.trans (HV2.out.mono HB.out.size))
                  by_cases g : j < k
                  · have u5 : (j : Int) < (k : Int) := by omega
                    have y0 := cell_later HV2.out E0.out
                    have y1 := cell_later HV2.out E1.out
                    have y2 := cell_later HV2.out E2.out
                    have s1 := (okStart_le (HN.out j g).1).1
                    have s2 := (okStart_le (HN.out j g).1).2
                    have hjb : j < bn.length := by rw [HLB.out]; omega
                    have lt2 := HTT.out.len j hjb
                    have HCL := Lib.hid (clash_any b bn[j]! en z (zs[j]?.getD 0) _ bl bc bn _ sl sc zs _ yl yc rs r rs[j]! k j _ HRE.out rfl (HBB.out.keep HW2.out) (HSS.out.keep HW2.out) (HYY.out.keep HW2.out) hbl G1.out G2.out h1 (by omega) HBE.out rfl HZE.out rfl HM.out hl3 z0 zm (fun q hq => (HTT.out.tm j hjb q (by rw [← lt2]; exact hq)).2) (by have := HTT.out.house.few; omega) (by omega) (by have hdj : (bn[j]!.tm.sum : Nat) = durN bn[j]! := rfl; omega) (by rw [HAV.out.1, vI_len, HLT.out]) (by rw [(HN.out j g).2.1.1, vI_len, HLT.out]))
                    clear s1 s2 hjb lt2
                    cases hc : clashZ b.tm bn[j]!.tm z (zs[j]?.getD 0) r rs[j]! with
                    | true =>
                      rw [hc] at HCL
                      have HC := Lib.hid hc
                      clear hc
                      go_wp2_with (go_at_call 45; refine HCL.out.mono ?_; rintro e w5 ⟨rfl, hb5⟩; have HB5 := Lib.hid (HW2.out.trans (hb5.mono HW2.out.size)); clear hb5)
                      go_ret
                      exact ⟨.inr ⟨fun h => (by have := h.cl k (by rw [HLB.out]; exact h1) j g; rw [← HBE.out, ← HZE.out, ← HRE.out, HC.out] at this; cases this), rfl⟩, HB5.out⟩
                    | false =>
                      rw [hc] at HCL
                      have HC := Lib.hid hc
                      clear hc
                      go_wp2_with (go_at_call 45; refine HCL.out.mono ?_; rintro e w5 ⟨rfl, hb5⟩; have HB5 := Lib.hid (HB2.out.trans (hb5.mono HB2.out.size)); clear hb5)
                      go_roundg (k - (j + 1))
                      case measure => omega
                      case rel => exact ⟨j + 1, by go_num, by omega, Nat.le_refl _, Lib.hid (fun q hq => by
                          rcases Nat.lt_succ_iff_lt_or_eq.1 hq with hq | rfl
                          · exact HN2.out q hq
                          · exact HC.out), HB5⟩
                  · have ejk : j = k := by omega
                    subst ejk
                    have u5 : ¬ (j : Int) < (j : Int) := by omega
                    go_wp2
                    go_roundg (bl - (j + 1))
                    case measure => omega
                    case rel => exact ⟨j + 1, by go_num, by omega, Nat.le_refl _, by rw [HE1.out], Lib.hid (fun i hi => by
                        rcases Nat.lt_succ_iff_lt_or_eq.1 hi with hi | rfl
                        · exact HN.out i hi
                        · exact ⟨by rw [← HBE.out, ← HZE.out]; exact HST.out, by rw [← HRE.out]; exact HAV.out, fun q hq => by rw [← HBE.out, ← HZE.out, ← HRE.out]; exact HN2.out q hq⟩), HV2⟩
              · have HE1 : Hid (endZ bn zs (k + 1) = endZ bn zs k) := Lib.hid (by
                  have : endZ bn zs (k + 1) = max (endZ bn zs k) (zs[k]?.getD 0 + (durN bn[k]! : Int)) := rfl
                  rw [this, ← HBE.out, ← HZE.out, ← HD.out]; omega)
                refine wp_region_held_drew (S := fun w' => w'.cell? ⟨W.heap.size, 1, none⟩ = some (.slice (some ⟨gX, ox, none⟩) sl sc) ∧ w'.cell? ⟨gX, ox + k, none⟩ = some (.int .i64 z) ∧ w'.cell? ⟨wr.heap.size, 0, none⟩ = some (.int .i64 (b.rdy : Int)) ∧ w'.cell? ⟨wr.heap.size, 1, none⟩ = some (.slice ta tl tc)) (by kernel_rfl) ⟨x0, x2, x4, x5⟩ (fun hS => ?_)
                clear x0 x1 x2 x3 x4 x5
                refine wpAnyH_take (i := 0) (v := ?vmb0) rfl (by kernel_rfl) (by kernel_rfl) (by kernel_rfl) (fun _ _ _ h => h) (Or.inl ⟨by rfl, ?hymb0⟩) hS ?restmb0
                case hymb0 => (intro w hSw; (try dsimp only at hSw); (first | (go_simp; done) | (go_simp; with_reducible rfl)))
                try simp only [Act.put, List.getElem_toArray, List.getElem_cons_succ, List.getElem_cons_zero, List.setIfInBounds_toArray, List.set_cons_zero, List.set_cons_succ]
                refine wpAnyH_take (i := 1) (v := ?vmb1) rfl (by kernel_rfl) (by kernel_rfl) (by kernel_rfl) (fun _ _ _ h => h) (Or.inl ⟨by rfl, ?hymb1⟩) hS ?restmb1
                case hymb1 => (intro w hSw; (try dsimp only at hSw); (first | (go_simp; done) | (go_simp; with_reducible rfl)))
                try simp only [Act.put, List.getElem_toArray, List.getElem_cons_succ, List.getElem_cons_zero, List.setIfInBounds_toArray, List.set_cons_zero, List.set_cons_succ]
                refine wpAnyH_take (i := 2) (v := ?vmb2) rfl (by kernel_rfl) (by kernel_rfl) (by kernel_rfl) (fun _ _ _ h => h) (Or.inl ⟨by rfl, ?hymb2⟩) hS ?restmb2
                case hymb2 => (intro w hSw; (try dsimp only at hSw); (first | (go_simp; done) | (go_simp; with_reducible rfl)))
                try simp only [Act.put, List.getElem_toArray, List.getElem_cons_succ, List.getElem_cons_zero, List.setIfInBounds_toArray, List.set_cons_zero, List.set_cons_succ]
                refine wpAnyH_take (i := 3) (v := ?vmb3) rfl (by kernel_rfl) (by kernel_rfl) (by kernel_rfl) (fun _ _ _ h => h) (Or.inl ⟨by rfl, ?hymb3⟩) hS ?restmb3
                case hymb3 => (intro w hSw; (try dsimp only at hSw); (first | (go_simp; done) | (go_simp; with_reducible rfl)))
                try simp only [Act.put, List.getElem_toArray, List.getElem_cons_succ, List.getElem_cons_zero, List.setIfInBounds_toArray, List.set_cons_zero, List.set_cons_succ]
                refine wpAnyH_take (i := 4) (v := ?vmb4) rfl (by kernel_rfl) (by kernel_rfl) (by kernel_rfl) (fun _ _ _ h => h) (Or.inl ⟨by rfl, ?hymb4⟩) hS ?restmb4
                case hymb4 => (intro w hSw; (try dsimp only at hSw); (first | (go_simp; done) | (go_simp; with_reducible rfl)))
                try simp only [Act.put, List.getElem_toArray, List.getElem_cons_succ, List.getElem_cons_zero, List.setIfInBounds_toArray, List.set_cons_zero, List.set_cons_succ]
                refine wpAnyH_take (i := 5) (v := ?vmb5) rfl (by kernel_rfl) (by kernel_rfl) (by kernel_rfl) (fun _ _ _ h => h) (Or.inl ⟨by rfl, ?hymb5⟩) hS ?restmb5
                case hymb5 => (intro w hSw; (try dsimp only at hSw); (first | (go_simp; done) | (go_simp; with_reducible rfl)))
                try simp only [Act.put, List.getElem_toArray, List.getElem_cons_succ, List.getElem_cons_zero, List.setIfInBounds_toArray, List.set_cons_zero, List.set_cons_succ]
                refine wpAnyH_take (i := 6) (v := ?vmb6) rfl (by kernel_rfl) (by kernel_rfl) (by kernel_rfl) (fun _ _ _ h => h) (Or.inl ⟨by rfl, ?hymb6⟩) hS ?restmb6
                case hymb6 => (intro w hSw; (try dsimp only at hSw); (first | (go_simp; done) | (go_simp; with_reducible rfl)))
                try simp only [Act.put, List.getElem_toArray, List.getElem_cons_succ, List.getElem_cons_zero, List.setIfInBounds_toArray, List.set_cons_zero, List.set_cons_succ]
                refine wpAnyH_ready (rs := [7]) (by kernel_rfl) (by simp) ?_
                refine AllReadyH.cons rfl (fun K hK => ?_) AllReadyH.nil
                try go_simp
                go_at_call 36
                refine (duration_any (b.rdy : Int) ta tl tc b.tm _ (IL2.out.keep (drew_below _)) HM.out hl3).mono ?_
                rintro e w2 ⟨rfl, hb⟩
                obtain ⟨z0, z1, z2, z3⟩ := hS
                have HBS := Lib.hid ((drew_below w1).trans hb)
                have x0 := cell_later hb z0
                have x1 := cell_later hb z1
                have x2 := cell_later hb z2
                have x3 := cell_later hb z3
                clear hb z0 z1 z2 z3
                refine hK.out _ _ ⟨x0, x1, x2, x3⟩ (fun hS => ?_)
                clear hK K
                try simp only [Act.put, List.getElem_toArray, List.getElem_cons_succ, List.getElem_cons_zero, List.setIfInBounds_toArray, List.set_cons_zero, List.set_cons_succ]
                clear x0 x1 x2 x3
                refine wpAnyH_take (i := 8) (v := ?vmb8) rfl (by kernel_rfl) (by kernel_rfl) (by kernel_rfl) (fun _ _ _ h => h) (Or.inl ⟨by rfl, ?hymb8⟩) hS ?restmb8
                case hymb8 => (intro w hSw; (try dsimp only at hSw); (first | (go_simp; done) | (go_simp; with_reducible rfl)))
                try simp only [Act.put, List.getElem_toArray, List.getElem_cons_succ, List.getElem_cons_zero, List.setIfInBounds_toArray, List.set_cons_zero, List.set_cons_succ]
                refine wpAnyH_take (i := 9) (v := ?vmb9) rfl (by kernel_rfl) (by kernel_rfl) (by kernel_rfl) (fun _ _ _ h => h) (Or.inl ⟨by rfl, ?hymb9⟩) hS ?restmb9
                case hymb9 => (intro w hSw; (try dsimp only at hSw); (first | (go_simp; done) | (go_simp; with_reducible rfl)))
                try simp only [Act.put, List.getElem_toArray, List.getElem_cons_succ, List.getElem_cons_zero, List.setIfInBounds_toArray, List.set_cons_zero, List.set_cons_succ]
                refine wpAnyH_take (i := 10) (v := ?vmb10) rfl (by kernel_rfl) (by kernel_rfl) (by kernel_rfl) (fun _ _ _ h => h) (Or.inl ⟨by rfl, ?hymb10⟩) hS ?restmb10
                case hymb10 => (intro w hSw; (try dsimp only at hSw); (first | (go_simp; done) | (go_simp; with_reducible rfl)))
                try simp only [Act.put, List.getElem_toArray, List.getElem_cons_succ, List.getElem_cons_zero, List.setIfInBounds_toArray, List.set_cons_zero, List.set_cons_succ]
                refine wpAnyH_done (by kernel_rfl) ?_ _
                all_goals go_wp2_with fail
                go_loopg [61] k (fun gg s61 wr2 => ∃ j : Nat, s61 = .int .i64 (j : Int) ∧ j ≤ k ∧ k - j ≤ gg ∧ Hid (∀ q, q < j → clashZ b.tm bn[q]!.tm z (zs[q]?.getD 0) r rs[q]! = false) ∧ Hid (Below w2.heap.size w2 wr2))
                case atStart => exact ⟨0, rfl, Nat.zero_le _, by omega, Lib.hid (fun q hq => absurd hq (by omega)), Lib.hid (Below.refl _ _)⟩
                case round =>
                  obtain ⟨j, rfl, hj, hgg2, HN2, HB2⟩ := hrel
                  have HV2 := Lib.hid (HVx.out.trans ((HBR.out.trans ((HBS.out.trans (HB2.out.mono HBS.out.size)).mono HBR.out.size)).mono HVx.out.size))
                  have HW2 := Lib.hid (HB.out.trans (HV2.out.mono HB.out.size))
                  by_cases g : j < k
                  · have u5 : (j : Int) < (k : Int) := by omega
                    have y0 := cell_later HV2.out E0.out
                    have y1 := cell_later HV2.out E1.out
                    have y2 := cell_later HV2.out E2.out
                    have s1 := (okStart_le (HN.out j g).1).1
                    have s2 := (okStart_le (HN.out j g).1).2
                    have hjb : j < bn.length := by rw [HLB.out]; omega
                    have lt2 := HTT.out.len j hjb
                    have HCL := Lib.hid (clash_any b bn[j]! en z (zs[j]?.getD 0) _ bl bc bn _ sl sc zs _ yl yc rs r rs[j]! k j _ HRE.out rfl (HBB.out.keep HW2.out) (HSS.out.keep HW2.out) (HYY.out.keep HW2.out) hbl G1.out G2.out h1 (by omega) HBE.out rfl HZE.out rfl HM.out hl3 z0 zm (fun q hq => (HTT.out.tm j hjb q (by rw [← lt2]; exact hq)).2) (by have := HTT.out.house.few; omega) (by omega) (by have hdj : (bn[j]!.tm.sum : Nat) = durN bn[j]! := rfl; omega) (by rw [HAV.out.1, vI_len, HLT.out]) (by rw [(HN.out j g).2.1.1, vI_len, HLT.out]))
                    clear s1 s2 hjb lt2
                    cases hc : clashZ b.tm bn[j]!.tm z (zs[j]?.getD 0) r rs[j]! with
                    | true =>
                      rw [hc] at HCL
                      have HC := Lib.hid hc
                      clear hc
                      go_wp2_with (go_at_call 45; refine HCL.out.mono ?_; rintro e w5 ⟨rfl, hb5⟩; have HB5 := Lib.hid (HW2.out.trans (hb5.mono HW2.out.size)); clear hb5)
                      go_ret
                      exact ⟨.inr ⟨fun h => (by have := h.cl k (by rw [HLB.out]; exact h1) j g; rw [← HBE.out, ← HZE.out, ← HRE.out, HC.out] at this; cases this), rfl⟩, HB5.out⟩
                    | false =>
                      rw [hc] at HCL
                      have HC := Lib.hid hc
                      clear hc
                      go_wp2_with (go_at_call 45; refine HCL.out.mono ?_; rintro e w5 ⟨rfl, hb5⟩; have HB5 := Lib.hid (HB2.out.trans (hb5.mono HB2.out.size)); clear hb5)
                      go_roundg (k - (j + 1))
                      case measure => omega
                      case rel => exact ⟨j + 1, by go_num, by omega, Nat.le_refl _, Lib.hid (fun q hq => by
                          rcases Nat.lt_succ_iff_lt_or_eq.1 hq with hq | rfl
                          · exact HN2.out q hq
                          · exact HC.out), HB5⟩
                  · have ejk : j = k := by omega
                    subst ejk
                    have u5 : ¬ (j : Int) < (j : Int) := by omega
                    go_wp2
                    go_roundg (bl - (j + 1))
                    case measure => omega
                    case rel => exact ⟨j + 1, by go_num, by omega, Nat.le_refl _, by rw [HE1.out], Lib.hid (fun i hi => by
                        rcases Nat.lt_succ_iff_lt_or_eq.1 hi with hi | rfl
                        · exact HN.out i hi
                        · exact ⟨by rw [← HBE.out, ← HZE.out]; exact HST.out, by rw [← HRE.out]; exact HAV.out, fun q hq => by rw [← HBE.out, ← HZE.out, ← HRE.out]; exact HN2.out q hq⟩), HV2⟩
            · have HAV := Lib.hid hav
              have HAR : Hid (∀ w', Below wx.heap.size wx w' → Calls Tryd.prog 44 #[.slice va vl vc, .slice ra rl rc] w' (fun e w'' => e = .returned (.bool false) ∧ w' = w'')) := Lib.hid (fun w' hw' => (areV_any va vl vc ra rl rc (vI vn) r w' (HVV.out.keep (HWr.out.trans ((HBx.out.trans (hw'.mono HBx.out.size)).mono HWr.out.size))) (ILR.out.keep (HBx.out.trans (hw'.mono HBx.out.size))) rle (by omega)).mono (by
                rintro e w'' ⟨⟨hn, rfl⟩ | ⟨_, rfl⟩, rfl⟩
                · exact absurd hn hav
                · exact ⟨rfl, rfl⟩))
              clear hav
              refine wp_region_held_drew (S := fun w' => w'.cell? ⟨W.heap.size, 1, none⟩ = some (.slice (some ⟨gX, ox, none⟩) sl sc) ∧ w'.cell? ⟨W.heap.size, 2, none⟩ = some (.slice (some ⟨gY, oy, none⟩) yl yc) ∧ w'.cell? ⟨gX, ox + k, none⟩ = some (.int .i64 z) ∧ w'.cell? ⟨gY, oy + k, none⟩ = some (.slice ra rl rc) ∧ w'.cell? ⟨wr.heap.size, 0, none⟩ = some (.int .i64 (b.rdy : Int)) ∧ w'.cell? ⟨wr.heap.size, 1, none⟩ = some (.slice ta tl tc)) (by kernel_rfl) ⟨p1, p2, px', py', pb0, pb1⟩ (fun hS => ?_)
              clear p1 p2 px' py' pb0 pb1
              refine wpAnyH_take (i := 0) (v := ?vv0) rfl (by kernel_rfl) (by kernel_rfl) (by kernel_rfl) (fun _ _ _ h => h) (Or.inl ⟨by rfl, ?hyv0⟩) hS ?restv0
              case hyv0 => (intro w hSw; (try dsimp only at hSw); (first | (go_simp; done) | (go_simp; with_reducible rfl)))
              try simp only [Act.put, List.getElem_toArray, List.getElem_cons_succ, List.getElem_cons_zero, List.setIfInBounds_toArray, List.set_cons_zero, List.set_cons_succ]
              refine wpAnyH_take (i := 1) (v := ?vv1) rfl (by kernel_rfl) (by kernel_rfl) (by kernel_rfl) (fun _ _ _ h => h) (Or.inl ⟨by rfl, ?hyv1⟩) hS ?restv1
              case hyv1 => (intro w hSw; (try dsimp only at hSw); (first | (go_simp; done) | (go_simp; with_reducible rfl)))
              try simp only [Act.put, List.getElem_toArray, List.getElem_cons_succ, List.getElem_cons_zero, List.setIfInBounds_toArray, List.set_cons_zero, List.set_cons_succ]
              refine wpAnyH_take (i := 2) (v := ?vv2) rfl (by kernel_rfl) (by kernel_rfl) (by kernel_rfl) (fun _ _ _ h => h) (Or.inl ⟨by rfl, ?hyv2⟩) hS ?restv2
              case hyv2 => (intro w hSw; (try dsimp only at hSw); (first | (go_simp; done) | (go_simp; with_reducible rfl)))
              try simp only [Act.put, List.getElem_toArray, List.getElem_cons_succ, List.getElem_cons_zero, List.setIfInBounds_toArray, List.set_cons_zero, List.set_cons_succ]
              refine wpAnyH_take (i := 3) (v := ?vv3) rfl (by kernel_rfl) (by kernel_rfl) (by kernel_rfl) (fun _ _ _ h => h) (Or.inl ⟨by rfl, ?hyv3⟩) hS ?restv3
              case hyv3 => (intro w hSw; (try dsimp only at hSw); (first | (go_simp; done) | (go_simp; with_reducible rfl)))
              try simp only [Act.put, List.getElem_toArray, List.getElem_cons_succ, List.getElem_cons_zero, List.setIfInBounds_toArray, List.set_cons_zero, List.set_cons_succ]
              refine wpAnyH_take (i := 4) (v := ?vv4) rfl (by kernel_rfl) (by kernel_rfl) (by kernel_rfl) (fun _ _ _ h => h) (Or.inl ⟨by rfl, ?hyv4⟩) hS ?restv4
              case hyv4 => (intro w hSw; (try dsimp only at hSw); (first | (go_simp; done) | (go_simp; with_reducible rfl)))
              try simp only [Act.put, List.getElem_toArray, List.getElem_cons_succ, List.getElem_cons_zero, List.setIfInBounds_toArray, List.set_cons_zero, List.set_cons_succ]
              refine wpAnyH_take (i := 5) (v := ?vv5) rfl (by kernel_rfl) (by kernel_rfl) (by kernel_rfl) (fun _ _ _ h => h) (Or.inl ⟨by rfl, ?hyv5⟩) hS ?restv5
              case hyv5 => (intro w hSw; (try dsimp only at hSw); (first | (go_simp; done) | (go_simp; with_reducible rfl)))
              try simp only [Act.put, List.getElem_toArray, List.getElem_cons_succ, List.getElem_cons_zero, List.setIfInBounds_toArray, List.set_cons_zero, List.set_cons_succ]
              refine wpAnyH_ready (rs := [6]) (by kernel_rfl) (by simp) ?_
              refine AllReadyH.cons rfl (fun K hK => ?_) AllReadyH.nil
              try go_simp
              go_at_call 43
              refine (isStart_any b ta tl tc z _ (IL.out.keep (drew_below _)) HM.out hl3).mono ?_
              rintro e w1 ⟨rfl, hb⟩
              rw [HST.out]
              obtain ⟨z0, z1, z2, z3, z4, z5⟩ := hS
              have HBR := Lib.hid ((drew_below wx).trans hb)
              have x0 := cell_later hb z0
              have x1 := cell_later hb z1
              have x2 := cell_later hb z2
              have x3 := cell_later hb z3
              have x4 := cell_later hb z4
              have x5 := cell_later hb z5
              clear hb z0 z1 z2 z3 z4 z5
              refine hK.out _ _ ⟨x0, x1, x2, x3, x4, x5⟩ (fun hS => ?_)
              clear hK K
              try simp only [Act.put, List.getElem_toArray, List.getElem_cons_succ, List.getElem_cons_zero, List.setIfInBounds_toArray, List.set_cons_zero, List.set_cons_succ]
              refine wpAnyH_take (i := 7) (v := ?vv7) rfl (by kernel_rfl) (by kernel_rfl) (by kernel_rfl) (fun _ _ _ h => h) (Or.inl ⟨by rfl, ?hyv7⟩) hS ?restv7
              case hyv7 => (intro w hSw; (try dsimp only at hSw); (first | (go_simp; done) | (go_simp; with_reducible rfl)))
              try simp only [Act.put, List.getElem_toArray, List.getElem_cons_succ, List.getElem_cons_zero, List.setIfInBounds_toArray, List.set_cons_zero, List.set_cons_succ]
              refine wpAnyH_take (i := 8) (v := ?vv8) rfl (by kernel_rfl) (by kernel_rfl) (by kernel_rfl) (fun _ _ _ h => h) (Or.inl ⟨by rfl, ?hyv8⟩) hS ?restv8
              case hyv8 => (intro w hSw; (try dsimp only at hSw); (first | (go_simp; done) | (go_simp; with_reducible rfl)))
              try simp only [Act.put, List.getElem_toArray, List.getElem_cons_succ, List.getElem_cons_zero, List.setIfInBounds_toArray, List.set_cons_zero, List.set_cons_succ]
              refine wpAnyH_take (i := 9) (v := ?vv9) rfl (by kernel_rfl) (by kernel_rfl) (by kernel_rfl) (fun _ _ _ h => h) (Or.inl ⟨by rfl, ?hyv9⟩) hS ?restv9
              case hyv9 => (intro w hSw; (try dsimp only at hSw); (first | (go_simp; done) | (go_simp; with_reducible rfl)))
              try simp only [Act.put, List.getElem_toArray, List.getElem_cons_succ, List.getElem_cons_zero, List.setIfInBounds_toArray, List.set_cons_zero, List.set_cons_succ]
              refine wpAnyH_take (i := 10) (v := ?vv10) rfl (by kernel_rfl) (by kernel_rfl) (by kernel_rfl) (fun _ _ _ h => h) (Or.inl ⟨by rfl, ?hyv10⟩) hS ?restv10
              case hyv10 => (intro w hSw; (try dsimp only at hSw); (first | (go_simp; done) | (go_simp; with_reducible rfl)))
              try simp only [Act.put, List.getElem_toArray, List.getElem_cons_succ, List.getElem_cons_zero, List.setIfInBounds_toArray, List.set_cons_zero, List.set_cons_succ]
              refine wpAnyH_take (i := 11) (v := ?vv11) rfl (by kernel_rfl) (by kernel_rfl) (by kernel_rfl) (fun _ _ _ h => h) (Or.inl ⟨by rfl, ?hyv11⟩) hS ?restv11
              case hyv11 => (intro w hSw; (try dsimp only at hSw); (first | (go_simp; done) | (go_simp; with_reducible rfl)))
              try simp only [Act.put, List.getElem_toArray, List.getElem_cons_succ, List.getElem_cons_zero, List.setIfInBounds_toArray, List.set_cons_zero, List.set_cons_succ]
              refine wpAnyH_take (i := 12) (v := ?vv12) rfl (by kernel_rfl) (by kernel_rfl) (by kernel_rfl) (fun _ _ _ h => h) (Or.inl ⟨by rfl, ?hyv12⟩) hS ?restv12
              case hyv12 => (intro w hSw; (try dsimp only at hSw); (first | (go_simp; done) | (go_simp; with_reducible rfl)))
              try simp only [Act.put, List.getElem_toArray, List.getElem_cons_succ, List.getElem_cons_zero, List.setIfInBounds_toArray, List.set_cons_zero, List.set_cons_succ]
              refine wpAnyH_take (i := 13) (v := ?vv13) rfl (by kernel_rfl) (by kernel_rfl) (by kernel_rfl) (fun _ _ _ h => h) (Or.inl ⟨by rfl, ?hyv13⟩) hS ?restv13
              case hyv13 => (intro w hSw; (try dsimp only at hSw); (first | (go_simp; done) | (go_simp; with_reducible rfl)))
              try simp only [Act.put, List.getElem_toArray, List.getElem_cons_succ, List.getElem_cons_zero, List.setIfInBounds_toArray, List.set_cons_zero, List.set_cons_succ]
              refine wpAnyH_take (i := 14) (v := ?vv14) rfl (by kernel_rfl) (by kernel_rfl) (by kernel_rfl) (fun _ _ _ h => h) (Or.inl ⟨by rfl, ?hyv14⟩) hS ?restv14
              case hyv14 => (intro w hSw; (try dsimp only at hSw); (first | (go_simp; done) | (go_simp; with_reducible rfl)))
              try simp only [Act.put, List.getElem_toArray, List.getElem_cons_succ, List.getElem_cons_zero, List.setIfInBounds_toArray, List.set_cons_zero, List.set_cons_succ]
              refine wpAnyH_ready (rs := [15]) (by kernel_rfl) (by simp) ?_
              refine AllReadyH.cons rfl (fun K hK => ?_) AllReadyH.nil
              try go_simp
              go_at_call 44
              refine (HAR.out _ HBR.out).mono ?_
              rintro e w3 ⟨rfl, rfl⟩
              refine hK.out _ _ hS (fun hS => ?_)
              clear hK K
              try simp only [Act.put, List.getElem_toArray, List.getElem_cons_succ, List.getElem_cons_zero, List.setIfInBounds_toArray, List.set_cons_zero, List.set_cons_succ]
              refine wpAnyH_take (i := 16) (v := ?vv16) rfl (by kernel_rfl) (by kernel_rfl) (by kernel_rfl) (fun _ _ _ h => h) (Or.inl ⟨by rfl, ?hyv16⟩) hS ?restv16
              case hyv16 => (intro w hSw; (try dsimp only at hSw); (first | (go_simp; done) | (go_simp; with_reducible rfl)))
              try simp only [Act.put, List.getElem_toArray, List.getElem_cons_succ, List.getElem_cons_zero, List.setIfInBounds_toArray, List.set_cons_zero, List.set_cons_succ]
              refine wpAnyH_take (i := 17) (v := ?vv17) rfl (by kernel_rfl) (by kernel_rfl) (by kernel_rfl) (fun _ _ _ h => h) (Or.inl ⟨by rfl, ?hyv17⟩) hS ?restv17
              case hyv17 => (intro w hSw; (try dsimp only at hSw); (first | (go_simp; done) | (go_simp; with_reducible rfl)))
              try simp only [Act.put, List.getElem_toArray, List.getElem_cons_succ, List.getElem_cons_zero, List.setIfInBounds_toArray, List.set_cons_zero, List.set_cons_succ]
              refine wpAnyH_done (by kernel_rfl) ?_ _
              all_goals go_wp2_with fail
              all_goals go_ret
              all_goals exact ⟨.inr ⟨fun h => by have := h.ve k (by rw [HLB.out]; exact h1); rw [← HRE.out] at this; exact HAV.out this, rfl⟩, HWr.out.trans ((HBx.out.trans (HBR.out.mono HBx.out.size)).mono HWr.out.size)⟩
        · obtain rfl : k = bl := by omega
          have u1 : ¬ (k : Int) < (k : Int) := by omega
          have HWr := Lib.hid hWr
          have HFE : Hid (en = endZ bn zs k ↔ FeasP vn bn en zs rs) := Lib.hid ⟨fun he => ⟨by rw [HLS.out, HLB.out]; exact G1.out, by rw [HLY.out, HLB.out]; exact G2.out, fun i hi => (HN.out i (by rw [HLB.out] at hi; exact hi)).1, fun i hi => (HN.out i (by rw [HLB.out] at hi; exact hi)).2.1, fun i hi => (HN.out i (by rw [HLB.out] at hi; exact hi)).2.2, by rw [HLB.out]; exact he⟩, fun h => by have := h.en; rw [HLB.out] at this; exact this⟩
          clear hWr
          by_cases he : en = endZ bn zs k
          · have t0 : (en == endZ bn zs k) = true := by simpa using he
            have HE := Lib.hid he
            clear he
            go_wp2
            go_ret
            exact ⟨.inl ⟨HFE.out.1 HE.out, rfl⟩, HWr.out⟩
          · have t0 : (en == endZ bn zs k) = false := by simpa using he
            have HE := Lib.hid he
            clear he
            go_wp2
            go_ret
            exact ⟨.inr ⟨fun h => HE.out (HFE.out.2 h), rfl⟩, HWr.out⟩
    · have q2 : ((yl : Int) != (bl : Int)) = true := by simp; omega
      have G2 := Lib.hid g2
      have G1 := Lib.hid g1
      clear g2 g1
      go_wp2
      go_ret
      exact ⟨.inr ⟨fun h => G2.out (by rw [← HLY.out, ← HLB.out]; exact h.lr), rfl⟩, HB.out⟩
  · have q1 : ((sl : Int) != (bl : Int)) = true := by simp; omega
    have G1 := Lib.hid g1
    clear g1
    go_wp2
    go_ret
    exact ⟨.inr ⟨fun h => G1.out (by rw [← HLS.out, ← HLB.out]; exact h.ls), rfl⟩, HB.out⟩
end Go.Proofs.YtbidadkcdchomaaDoor

/- package plan: Check. -/
set_option linter.unusedVariables false
set_option linter.unusedSimpArgs false
namespace Go.Proofs.YtbidadkcdchomaaDoor
open Go.RowKit

/-- what Check answers -/
def CheckR (vs : List Int) (bs : List Bt) (en : Int) (zs : List Int) (rs : List (List Int)) (z : Int) : Prop :=
  (¬ TaskP vs bs ∧ z = 2) ∨ (TaskP vs bs ∧ ∃ vn bn, vs = vI vn ∧ bs = bn.map bI ∧ TaskN vn bn ∧ ((FeasP vn bn en zs rs ∧ z = 0) ∨ (¬ FeasP vn bn en zs rs ∧ z = 20)))
set_option maxHeartbeats 1000000 in
theorem check_any (vs : List Int) (bs : List Bt) (en : Int) (va : Option Addr) (vl vc : Nat) (ba : Option Addr) (bl bc : Nat) (sa : Option Addr) (sl sc : Nat) (zs : List Int) (ya : Option Addr) (yl yc : Nat) (rs : List (List Int)) (W : World)
    (hv : Il W va vl vs) (hb : Bats W ba bl bs) (hs : Il W sa sl zs) (hy : Rows2 W ya yl rs) (hvl : vl ≤ 9223372036854775807) (hbl : bl ≤ 9223372036854775807) (hsl : sl ≤ 9223372036854775807) (hyl : yl ≤ 9223372036854775807) :
    Calls Tryd.prog 17 #[.slice va vl vc, .slice ba bl bc, .agg #[.int .i64 en, .slice sa sl sc, .slice ya yl yc]] W fun e w' => ∃ z, e = .returned (.int .i64 z) ∧ CheckR vs bs en zs rs z ∧ Below W.heap.size W w' := by
  have HB := Lib.hid (box_below W (.cells #[.int .i64 en, .slice sa sl sc, .slice ya yl yc] 28))
  have HV := Lib.hid (hv.keep HB.out)
  have HBB := Lib.hid (hb.keep HB.out)
  have HS := Lib.hid (hs.keep HB.out)
  have HY := Lib.hid (hy.keep HB.out)
  have R := Lib.hid (new_row W (.cells #[.int .i64 en, .slice sa sl sc, .slice ya yl yc] 28))
  clear hv hb hs hy
  go_enter Tryd.func17, Tryd.ntmps17
  go_wp2_with fail
  refine (isTask_any va vl vc ba bl bc vs bs _ HV.out HBB.out hvl hbl).mono ?_
  rintro e w1 ⟨⟨ht, rfl⟩ | ⟨ht, rfl⟩, hb1⟩
  · obtain ⟨vn, bn, rfl, rfl, hT⟩ := task_nat ht
    have HT := Lib.hid hT
    have HTP := Lib.hid ht
    have HB1 := Lib.hid hb1
    have HBB1 := Lib.hid (HB.out.trans (hb1.mono HB.out.size))
    have R1 := row_keep HB1.out R.out
    have c0 := cell_row R1 0
    have c1 := cell_row R1 1
    have c2 := cell_row R1 2
    simp at c0 c1 c2
    clear ht hT hb1 R1
    go_wp2_with fail
    refine (isFeas_any vn bn en va vl vc ba bl bc sa sl sc zs ya yl yc rs _ (HV.out.keep HB1.out) (HBB.out.keep HB1.out) (HS.out.keep HB1.out) (HY.out.keep HB1.out) HT.out hsl hyl).mono ?_
    rintro e w2 ⟨⟨hf, rfl⟩ | ⟨hf, rfl⟩, hb2⟩
    · have HF := Lib.hid hf
      have HB2 := Lib.hid (HBB1.out.trans (hb2.mono HBB1.out.size))
      clear hf hb2 c0 c1 c2
      go_wp2
      go_ret
      exact ⟨0, rfl, .inr ⟨HTP.out, vn, bn, rfl, rfl, HT.out, .inl ⟨HF.out, rfl⟩⟩, HB2.out⟩
    · have HF := Lib.hid hf
      have HB2 := Lib.hid (HBB1.out.trans (hb2.mono HBB1.out.size))
      clear hf hb2 c0 c1 c2
      go_wp2
      go_ret
      exact ⟨20, rfl, .inr ⟨HTP.out, vn, bn, rfl, rfl, HT.out, .inr ⟨HF.out, rfl⟩⟩, HB2.out⟩
  · have HT := Lib.hid ht
    have HB2 := Lib.hid (HB.out.trans (hb1.mono HB.out.size))
    clear ht hb1
    go_wp2
    go_ret
    exact ⟨2, rfl, .inl ⟨HT.out, rfl⟩, HB2.out⟩
end Go.Proofs.YtbidadkcdchomaaDoor
