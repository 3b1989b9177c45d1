/- Part 14 of the contracts: LWork, PlanLeastW. -/
import Derived.BigQuiet
import Derived.Deep.RegionHeld3
import Derived.OrdersHeld
import Derived.Test.YtbidadkcdchomaaDoorPart13

/- The laws' work (a number, no matter which); the specification's Less. (By gen_lwork.py.) -/
set_option linter.unusedVariables false
set_option linter.unusedSimpArgs false
namespace Go.Proofs.YtbidadkcdchomaaDoor
open Go.RowKit

theorem less_step {xs ys : List Int} {k : Nat} (h1 : k < xs.length) (h2 : k < ys.length) : lessZ (xs.drop k) (ys.drop k) = if xs[k]?.getD 0 ≠ ys[k]?.getD 0 then decide (xs[k]?.getD 0 < ys[k]?.getD 0) else lessZ (xs.drop (k + 1)) (ys.drop (k + 1)) := by
  rw [List.drop_eq_getElem_cons h1, List.drop_eq_getElem_cons h2, List.getElem?_eq_getElem h1, List.getElem?_eq_getElem h2]
  rfl
theorem less_end {xs : List Int} (ys : List Int) {k : Nat} (h : xs.length ≤ k) : lessZ (xs.drop k) ys = false := by
  rw [List.drop_of_length_le h]
  rfl
set_option maxRecDepth 100000 in
set_option maxHeartbeats 2000000 in
theorem less_any (aa : Option Addr) (la ca : Nat) (ab : Option Addr) (lb cb : Nat) (xs ys : List Int) (W : World) (ha : Il W aa la xs) (hb : Il W ab lb ys) (hl : la = lb) (h1 : la ≤ 1000000) :
    Calls Tryd.prog 20 #[.slice aa la ca, .slice ab lb cb] W fun e w' => e = .returned (.bool (lessZ xs ys)) ∧ Drew W w' := by
  subst hl
  have HLA := Lib.hid ha.len
  have HLB := Lib.hid hb.len
  have HA := Lib.hid ha
  have HB := Lib.hid hb
  clear ha hb
  go_enter Tryd.func20, Tryd.ntmps20
  go_wp2
  go_loopg [5] la (fun gg s5 wr => ∃ k : Nat, s5 = .int .i64 (k : Int) ∧ k ≤ la ∧ la - k ≤ gg ∧ Hid (lessZ xs ys = lessZ (xs.drop k) (ys.drop k)) ∧ Hid (Drew W wr))
  case atStart => exact ⟨0, rfl, Nat.zero_le _, by omega, Lib.hid (by simp), Lib.hid (Drew.refl _)⟩
  case round =>
    obtain ⟨k, rfl, hk, hgg, HQ, HD⟩ := hrel
    by_cases h3 : k < la
    · have u0 : (0 : Int) ≤ (k : Int) := by omega
      have u1 : (k : Int) < (la : Int) := by omega
      obtain ⟨b1, o1, rfl, hc1⟩ := (HA.out.of_drew HD.out).at (by omega)
      obtain ⟨b2, o2, rfl, hc2⟩ := (HB.out.of_drew HD.out).at (by omega)
      have c1 := hc1 k h3
      have c2 := hc2 k h3
      have HS := Lib.hid (HQ.out.trans (less_step (xs := xs) (ys := ys) (k := k) (by rw [HLA.out]; exact h3) (by rw [HLB.out]; exact h3)))
      clear hc1 hc2
      by_cases h4 : xs[k]?.getD 0 = ys[k]?.getD 0
      · have H4 := Lib.hid (HS.out.trans (if_neg (fun c => c h4)))
        rw [← h4] at c2
        generalize xs[k]?.getD 0 = x at c1 c2
        clear h4
        go_wp2
        go_quiet (fail)
        go_wp2
        go_roundg (la - (k + 1))
        case measure => omega
        case rel => exact ⟨k + 1, by go_num, by omega, Nat.le_refl _, H4, Lib.hid (HD.out.more _)⟩
      · have H4 := Lib.hid (HS.out.trans (if_pos h4))
        generalize xs[k]?.getD 0 = x at c1 h4 H4
        generalize ys[k]?.getD 0 = y at c2 h4 H4
        by_cases h5 : x < y
        · have H5 := Lib.hid (H4.out.trans (decide_eq_true h5))
          go_wp2
          go_quiet (fail)
          go_wp2
          go_quiet (fail)
          go_wp2
          go_ret
          exact ⟨retB (by rw [H5.out]; first | done | simp [h5]), (HD.out.more _).more _⟩
        · have H5 := Lib.hid (H4.out.trans (decide_eq_false h5))
          go_wp2
          go_quiet (fail)
          go_wp2
          go_quiet (fail)
          go_wp2
          go_ret
          exact ⟨retB (by rw [H5.out]; first | done | simp [h5]), (HD.out.more _).more _⟩
    · obtain rfl : k = la := by omega
      have u1 : ¬ (k : Int) < (k : Int) := by omega
      have HS := Lib.hid (HQ.out.trans (less_end _ (by rw [HLA.out]; exact Nat.le_refl _)))
      go_wp2
      go_ret
      exact ⟨congrArg (fun b => Ending.returned (.bool b)) HS.out.symm, HD.out⟩
/-- an integer is returned, no matter which -/
def OutAnyZ (W : World) (e : Ending) (w' : World) : Prop := ∃ z : Int, e = .returned (.int .i64 z) ∧ Below W.heap.size W w'
set_option maxRecDepth 100000 in
set_option maxHeartbeats 4000000 in
theorem work_any {vn : List Nat} {bn : List BN} (ba : Option Addr) (bl bc : Nat) (W : World) (hb : Bats W ba bl (bn.map bI)) (hT : TaskN vn bn) :
    Calls Tryd.prog 19 #[.slice ba bl bc] W (OutAnyZ W) := by
  have hlb : bn.length = bl := by have := hb.1; simpa using this
  have h5 : bl ≤ 5 := by have := hT.few; omega
  have HB := Lib.hid hb
  have HT := Lib.hid hT
  have HL := Lib.hid hlb
  clear hb hT hlb
  go_enter Tryd.func19, Tryd.ntmps19
  go_wp2
  go_loopg [3, 4] bl (fun gg s3 s4 wr => ∃ (k : Nat) (z : Int), s4 = .int .i64 (k : Int) ∧ k ≤ bl ∧ bl - k ≤ gg ∧ s3 = .int .i64 z ∧ Hid (Below W.heap.size W wr))
  case atStart => exact ⟨0, 1, rfl, Nat.zero_le _, by omega, rfl, Lib.hid (Below.refl _ _)⟩
  case round =>
    obtain ⟨k, z, rfl, hk, hgg, rfl, HW⟩ := hrel
    by_cases h1 : k < bl
    · have u0 : (0 : Int) ≤ (k : Int) := by omega
      have u1 : (k : Int) < (bl : Int) := by omega
      have hkb : k < bn.length := by rw [HL.out]; exact h1
      obtain ⟨g, o, ta, tl, tc, rfl, hx⟩ := (HB.out.keep HW.out).at h1
      rw [bI_at hkb] at hx
      have hlt := HT.out.len k hkb
      have hl3 : (bn[k]!).tm.length ≤ 3 := by have := HT.out.house.few; omega
      have hmt : ∀ q, q < (bn[k]!).tm.length → (bn[k]!).tm[q]! ≤ 30 := fun q hq => (HT.out.tm k hkb q (by omega)).2
      have hr := HT.out.rdy k hkb
      have hd := HT.out.dur hkb
      generalize bn[k]! = b at hx hl3 hmt hr hd
      have c0 : wr.cell? ⟨g, o + k * 2, none⟩ = some (.int .i64 (b.rdy : Int)) := hx.c0
      have c1 : wr.cell? ⟨g, o + k * 2 + 1, none⟩ = some (.slice ta tl tc) := hx.c1
      have P := Lib.hid (total_any (b.rdy : Int) ta tl tc b.tm wr.drew (hx.il.drew) hmt hl3)
      obtain ⟨d, hdd⟩ : ∃ d, d = b.tm.sum := ⟨_, rfl⟩
      have hd : d ≤ 90 := by rw [hdd]; exact hd
      rw [← hdd] at P
      clear hx hlt hmt hdd
      go_upto_region 5 with fail
      refine wp_region_held_drew (S := fun w' => w'.cell? ⟨g, o + k * 2, none⟩ = some (.int .i64 (b.rdy : Int)) ∧ w'.cell? ⟨g, o + k * 2 + 1, none⟩ = some (.slice ta tl tc)) (by kernel_rfl) ⟨c0, c1⟩ (fun hS => ?_)
      refine wpAnyH_take (i := 0) (v := ?vw0) rfl (by kernel_rfl) (by kernel_rfl) (by kernel_rfl) (fun _ _ _ h => h) (Or.inl ⟨by rfl, ?hyw0⟩) hS ?restw0
      case hyw0 => (intro w hSw; (try dsimp only at hSw); (first | (go_simp; done) | (go_simp; with_reducible rfl)))
      try simp only [Act.put, List.getElem_toArray, List.getElem_cons_succ, List.getElem_cons_zero, List.setIfInBounds_toArray, List.set_cons_zero, List.set_cons_succ]
      refine wpAnyH_take (i := 1) (v := ?vw1) rfl (by kernel_rfl) (by kernel_rfl) (by kernel_rfl) (fun _ _ _ h => h) (Or.inl ⟨by rfl, ?hyw1⟩) hS ?restw1
      case hyw1 => (intro w hSw; (try dsimp only at hSw); (first | (go_simp; done) | (go_simp; with_reducible rfl)))
      try simp only [Act.put, List.getElem_toArray, List.getElem_cons_succ, List.getElem_cons_zero, List.setIfInBounds_toArray, List.set_cons_zero, List.set_cons_succ]
      refine wpAnyH_take (i := 2) (v := ?vw2) rfl (by kernel_rfl) (by kernel_rfl) (by kernel_rfl) (fun _ _ _ h => h) (Or.inl ⟨by rfl, ?hyw2⟩) hS ?restw2
      case hyw2 => (intro w hSw; (try dsimp only at hSw); (first | (go_simp; done) | (go_simp; with_reducible rfl)))
      try simp only [Act.put, List.getElem_toArray, List.getElem_cons_succ, List.getElem_cons_zero, List.setIfInBounds_toArray, List.set_cons_zero, List.set_cons_succ]
      refine wpAnyH_take (i := 3) (v := ?vw3) rfl (by kernel_rfl) (by kernel_rfl) (by kernel_rfl) (fun _ _ _ h => h) (Or.inl ⟨by rfl, ?hyw3⟩) hS ?restw3
      case hyw3 => (intro w hSw; (try dsimp only at hSw); (first | (go_simp; done) | (go_simp; with_reducible rfl)))
      try simp only [Act.put, List.getElem_toArray, List.getElem_cons_succ, List.getElem_cons_zero, List.setIfInBounds_toArray, List.set_cons_zero, List.set_cons_succ]
      refine wpAnyH_take (i := 4) (v := ?vw4) rfl (by kernel_rfl) (by kernel_rfl) (by kernel_rfl) (fun _ _ _ h => h) (Or.inl ⟨by rfl, ?hyw4⟩) hS ?restw4
      case hyw4 => (intro w hSw; (try dsimp only at hSw); (first | (go_simp; done) | (go_simp; with_reducible rfl)))
      try simp only [Act.put, List.getElem_toArray, List.getElem_cons_succ, List.getElem_cons_zero, List.setIfInBounds_toArray, List.set_cons_zero, List.set_cons_succ]
      refine wpAnyH_take (i := 5) (v := ?vw5) rfl (by kernel_rfl) (by kernel_rfl) (by kernel_rfl) (fun _ _ _ h => h) (Or.inl ⟨by rfl, ?hyw5⟩) hS ?restw5
      case hyw5 => (intro w hSw; (try dsimp only at hSw); (first | (go_simp; done) | (go_simp; with_reducible rfl)))
      try simp only [Act.put, List.getElem_toArray, List.getElem_cons_succ, List.getElem_cons_zero, List.setIfInBounds_toArray, List.set_cons_zero, List.set_cons_succ]
      refine wpAnyH_take (i := 6) (v := ?vw6) rfl (by kernel_rfl) (by kernel_rfl) (by kernel_rfl) (fun _ _ _ h => h) (Or.inl ⟨by rfl, ?hyw6⟩) hS ?restw6
      case hyw6 => (intro w hSw; (try dsimp only at hSw); (first | (go_simp; done) | (go_simp; with_reducible rfl)))
      try simp only [Act.put, List.getElem_toArray, List.getElem_cons_succ, List.getElem_cons_zero, List.setIfInBounds_toArray, List.set_cons_zero, List.set_cons_succ]
      refine wpAnyH_take (i := 7) (v := ?vw7) rfl (by kernel_rfl) (by kernel_rfl) (by kernel_rfl) (fun _ _ _ h => h) (Or.inl ⟨by rfl, ?hyw7⟩) hS ?restw7
      case hyw7 => (intro w hSw; (try dsimp only at hSw); (first | (go_simp; done) | (go_simp; with_reducible rfl)))
      try simp only [Act.put, List.getElem_toArray, List.getElem_cons_succ, List.getElem_cons_zero, List.setIfInBounds_toArray, List.set_cons_zero, List.set_cons_succ]
      refine wpAnyH_take (i := 8) (v := ?vw8) rfl (by kernel_rfl) (by kernel_rfl) (by kernel_rfl) (fun _ _ _ h => h) (Or.inl ⟨by rfl, ?hyw8⟩) hS ?restw8
      case hyw8 => (intro w hSw; (try dsimp only at hSw); (first | (go_simp; done) | (go_simp; with_reducible rfl)))
      try simp only [Act.put, List.getElem_toArray, List.getElem_cons_succ, List.getElem_cons_zero, List.setIfInBounds_toArray, List.set_cons_zero, List.set_cons_succ]
      refine wpAnyH_take (i := 9) (v := ?vw9) rfl (by kernel_rfl) (by kernel_rfl) (by kernel_rfl) (fun _ _ _ h => h) (Or.inl ⟨by rfl, ?hyw9⟩) hS ?restw9
      case hyw9 => (intro w hSw; (try dsimp only at hSw); (first | (go_simp; done) | (go_simp; with_reducible rfl)))
      try simp only [Act.put, List.getElem_toArray, List.getElem_cons_succ, List.getElem_cons_zero, List.setIfInBounds_toArray, List.set_cons_zero, List.set_cons_succ]
      refine wpAnyH_take (i := 10) (v := ?vw10) rfl (by kernel_rfl) (by kernel_rfl) (by kernel_rfl) (fun _ _ _ h => h) (Or.inl ⟨by rfl, ?hyw10⟩) hS ?restw10
      case hyw10 => (intro w hSw; (try dsimp only at hSw); (first | (go_simp; done) | (go_simp; with_reducible rfl)))
      try simp only [Act.put, List.getElem_toArray, List.getElem_cons_succ, List.getElem_cons_zero, List.setIfInBounds_toArray, List.set_cons_zero, List.set_cons_succ]
      refine wpAnyH_ready (rs := [11]) (by kernel_rfl) (by simp) ?_
      refine AllReadyH.cons rfl (fun K hK => ?_) AllReadyH.nil
      try go_simp
      refine P.out.mono ?_
      rintro e w1 ⟨rfl, hb1⟩
      have B1 := Lib.hid ((drew_below wr).trans hb1)
      have k0 := cell_later B1.out c0; have k1 := cell_later B1.out c1
      clear hb1
      refine hK.out _ _ ⟨k0, k1⟩ (fun hS => ?_)
      clear hK K
      try simp only [Act.put, List.getElem_toArray, List.getElem_cons_succ, List.getElem_cons_zero, List.setIfInBounds_toArray, List.set_cons_zero, List.set_cons_succ]
      clear k0 k1
      refine wpAnyH_take (i := 12) (v := ?vw12) rfl (by kernel_rfl) (by kernel_rfl) (by kernel_rfl) (fun _ _ _ h => h) (Or.inl ⟨by rfl, ?hyw12⟩) hS ?restw12
      case hyw12 => (intro w hSw; (try dsimp only at hSw); (first | (go_simp; done) | (go_simp; with_reducible rfl)))
      try simp only [Act.put, List.getElem_toArray, List.getElem_cons_succ, List.getElem_cons_zero, List.setIfInBounds_toArray, List.set_cons_zero, List.set_cons_succ]
      refine wpAnyH_take (i := 13) (v := ?vw13) rfl (by kernel_rfl) (by kernel_rfl) (by kernel_rfl) (fun _ _ _ h => h) (Or.inl ⟨by rfl, ?hyw13⟩) hS ?restw13
      case hyw13 => (intro w hSw; (try dsimp only at hSw); (first | (go_simp; done) | (go_simp; with_reducible rfl)))
      try simp only [Act.put, List.getElem_toArray, List.getElem_cons_succ, List.getElem_cons_zero, List.setIfInBounds_toArray, List.set_cons_zero, List.set_cons_succ]
      refine wpAnyH_take (i := 14) (v := ?vw14) rfl (by kernel_rfl) (by kernel_rfl) (by kernel_rfl) (fun _ _ _ h => h) (Or.inl ⟨by rfl, ?hyw14⟩) hS ?restw14
      case hyw14 => (intro w hSw; (try dsimp only at hSw); (first | (go_simp; done) | (go_simp; with_reducible rfl)))
      try simp only [Act.put, List.getElem_toArray, List.getElem_cons_succ, List.getElem_cons_zero, List.setIfInBounds_toArray, List.set_cons_zero, List.set_cons_succ]
      refine wpAnyH_take (i := 15) (v := ?vw15) rfl (by kernel_rfl) (by kernel_rfl) (by kernel_rfl) (fun _ _ _ h => h) (Or.inl ⟨by rfl, ?hyw15⟩) hS ?restw15
      case hyw15 => (intro w hSw; (try dsimp only at hSw); (first | (go_simp; done) | (go_simp; with_reducible rfl)))
      try simp only [Act.put, List.getElem_toArray, List.getElem_cons_succ, List.getElem_cons_zero, List.setIfInBounds_toArray, List.set_cons_zero, List.set_cons_succ]
      refine wpAnyH_take (i := 16) (v := ?vw16) rfl (by kernel_rfl) (by kernel_rfl) (by kernel_rfl) (fun _ _ _ h => h) (Or.inl ⟨by rfl, ?hyw16⟩) hS ?restw16
      case hyw16 => (intro w hSw; (try dsimp only at hSw); (first | (go_simp; done) | (go_simp; with_reducible rfl)))
      try simp only [Act.put, List.getElem_toArray, List.getElem_cons_succ, List.getElem_cons_zero, List.setIfInBounds_toArray, List.set_cons_zero, List.set_cons_succ]
      refine wpAnyH_done (by kernel_rfl) ?_ _
      have HB1 := Lib.hid (HW.out.trans (B1.out.mono HW.out.size))
      generalize IntKind.i64.wrap (z * IntKind.i64.wrap ((if 0 < IntKind.i64.wrap (IntKind.i64.wrap (30 - (b.rdy : Int)) - (d : Int)) then IntKind.i64.wrap (IntKind.i64.wrap (30 - (b.rdy : Int)) - (d : Int)) else 0) + 1)) = z2
      generalize IntKind.i64.wrap ((if 0 < IntKind.i64.wrap (IntKind.i64.wrap (30 - (b.rdy : Int)) - (d : Int)) then IntKind.i64.wrap (IntKind.i64.wrap (30 - (b.rdy : Int)) - (d : Int)) else 0) + 1) = z3
      generalize (if 0 < IntKind.i64.wrap (IntKind.i64.wrap (30 - (b.rdy : Int)) - (d : Int)) then IntKind.i64.wrap (IntKind.i64.wrap (30 - (b.rdy : Int)) - (d : Int)) else 0) = z4
      generalize IntKind.i64.wrap (IntKind.i64.wrap (30 - (b.rdy : Int)) - (d : Int)) = z5
      generalize IntKind.i64.wrap (30 - (b.rdy : Int)) = z6
      clear hS c0 c1 P
      by_cases h2 : (100000 : Int) < z2
      · go_wp2
        go_ret
        exact ⟨z2, rfl, HB1.out⟩
      · go_wp2
        go_roundg (bl - (k + 1))
        case measure => omega
        case rel => exact ⟨k + 1, z2, by go_num, by omega, Nat.le_refl _, rfl, HB1⟩
    · obtain rfl : k = bl := by omega
      have u1 : ¬ (k : Int) < (k : Int) := by omega
      go_wp2
      go_ret
      exact ⟨z, rfl, HW.out⟩
end Go.Proofs.YtbidadkcdchomaaDoor

/- PlanLeast, at any house, batches and schedule in memory. -/
set_option linter.unusedVariables false
set_option linter.unusedSimpArgs false
namespace Go.Proofs.YtbidadkcdchomaaDoor
open Go.RowKit

/-- true is returned -/
def YesL (W : World) (e : Ending) (w' : World) : Prop := e = .returned (.bool true) ∧ Below W.heap.size W w'
theorem few_bats {w : World} {ba : Option Addr} {bl : Nat} {bn : List BN} (h : Bats w ba bl (bn.map bI)) : bn.length = bl := by have := h.1; simpa using this
set_option maxRecDepth 100000 in
set_option maxHeartbeats 8000000 in
theorem least_walk (vs : List Int) (bs : List Bt) (en : Int) (va : Option Addr) (vl vc : Nat) (ba : Option Addr) (bl bc : Nat) (sa : Option Addr) (sl sc : Nat) (zs : List Int) (ya : Option Addr) (yl yc : Nat) (rs : List (List Int)) (W : World)
    (hv : Il W va vl vs) (hb : Bats W ba bl bs) (hs : Il W sa sl zs) (hy : Rows2 W ya yl rs) (hN : NowM W) (hvl : vl ≤ 9223372036854775807) (hbl : bl ≤ 9223372036854775807) (hsl : sl ≤ 9223372036854775807) (hyl : yl ≤ 9223372036854775807) :
    Calls Tryd.prog 5 #[.slice va vl vc, .slice ba bl bc, .agg #[.int .i64 en, .slice sa sl sc, .slice ya yl yc]] W (YesL W) := by
  obtain ⟨V, hV⟩ : ∃ V, V = W.alloc (.cells #[.int .i64 en, .slice sa sl sc, .slice ya yl yc] 28) := ⟨_, rfl⟩
  have HB : Hid (Below W.heap.size W V) := Lib.hid (by rw [hV]; exact box_below W _)
  have R : Hid (V.heap[W.heap.size]? = some (.cells #[.int .i64 en, .slice sa sl sc, .slice ya yl yc] 28 (0, 0))) := Lib.hid (by rw [hV]; exact new_row W _)
  have HVI := Lib.hid (hv.keep HB.out)
  have HBB := Lib.hid (hb.keep HB.out)
  have HSS := Lib.hid (hs.keep HB.out)
  have HYY := Lib.hid (hy.keep HB.out)
  have HNN := Lib.hid (hN.keep HB.out)
  have HSL := Lib.hid hs.len
  have HV := Lib.hid hV
  obtain ⟨q0, q1, q2⟩ := cells3 R.out
  clear hv hb hs hy hN hV
  go_enter Tryd.func5, Tryd.ntmps5
  go_upto_region 1 with fail
  rw [← HV.out]
  go_wp2_with fail
  refine (few_any va vl vc ba bl bc bs V HBB.out).mono ?_
  rintro e w1 ⟨b, rfl, hb1⟩
  have HB1 := Lib.hid hb1
  obtain ⟨q0, q1, q2⟩ := cells3 (row_keep hb1 R.out)
  clear hb1
  cases b with
  | false =>
    have PA := Lib.hid (awake_any w1 (HNN.out.keep HB1.out))
    go_wp2_with (go_at_call 9; refine PA.out.mono ?_; rintro e w2 ⟨rfl, hb2⟩; have HB2 := Lib.hid (HB.out.trans ((below_then HB1.out hb2).mono HB.out.size)); clear hb2)
    go_ret
    exact ⟨rfl, HB2.out⟩
  | true =>
    go_wp2_with fail
    refine (fewV_any en sa sl sc ya yl yc rs w1 (HYY.out.keep HB1.out)).mono ?_
    rintro e w2 ⟨b, rfl, hb2⟩
    have HB2 := Lib.hid (below_then HB1.out hb2)
    obtain ⟨q0, q1, q2⟩ := cells3 (row_keep HB2.out R.out)
    clear hb2
    cases b with
    | false =>
      have PA := Lib.hid (awake_any w2 (HNN.out.keep HB2.out))
      go_wp2_with (go_at_call 9; refine PA.out.mono ?_; rintro e w3 ⟨rfl, hb3⟩; have HB3 := Lib.hid (HB.out.trans ((below_then HB2.out hb3).mono HB.out.size)); clear hb3)
      go_ret
      exact ⟨rfl, HB3.out⟩
    | true =>
      go_wp2_with fail
      refine (task_any va vl vc ba bl bc vs bs w2 (HVI.out.keep HB2.out) (HBB.out.keep HB2.out) hvl hbl).mono ?_
      rintro e w3 ⟨⟨ht, rfl⟩ | ⟨ht, rfl⟩, hb3⟩
      · have HB3 := Lib.hid (below_then HB2.out hb3)
        obtain ⟨q0, q1, q2⟩ := cells3 (row_keep HB3.out R.out)
        obtain ⟨vn, bn, rfl, rfl, hT⟩ := task_nat ht
        have HTP := Lib.hid ht
        have HT := Lib.hid hT
        have HL := Lib.hid (few_bats HBB.out)
        clear hb3 ht hT
        go_wp2_with fail
        refine (work_any ba bl bc w3 (HBB.out.keep HB3.out) HT.out).mono ?_
        rintro e w4 ⟨wk, rfl, hb4⟩
        have HB4 := Lib.hid (below_then HB3.out hb4)
        obtain ⟨q0, q1, q2⟩ := cells3 (row_keep HB4.out R.out)
        clear hb4
        by_cases hwk : (100000 : Int) < wk
        · have PA := Lib.hid (awake_any w4 (HNN.out.keep HB4.out))
          go_wp2_with (go_at_call 9; refine PA.out.mono ?_; rintro e w5 ⟨rfl, hb5⟩; have HB5 := Lib.hid (HB.out.trans ((below_then HB4.out hb5).mono HB.out.size)); clear hb5)
          go_ret
          exact ⟨rfl, HB5.out⟩
        · have PB := Lib.hid (best_any (vI vn) (bn.map bI) va vl vc ba bl bc w4 (HVI.out.keep HB4.out) (HBB.out.keep HB4.out) (HNN.out.keep HB4.out) hvl hbl (fun vn' bn' h1 h2 h3 => has_best h3 (by have := HL.out; rw [← bI_inj h2]; exact this)))
          go_upto_region 3 with fail
          go_wp2_with fail
          refine PB.out.mono ?_
          rintro e w5 ⟨hb5, ⟨hn, _⟩ | ⟨_, vn', bn', h1, h2, _, ho⟩⟩
          · exact absurd HTP.out hn
          obtain rfl := vI_inj h1
          obtain rfl := bI_inj h2
          rcases ho with ⟨hno, rfl⟩ | ⟨en', ss, col, sa', sc', ya', hbest, rfl, hss, hrows⟩
          · have HNO := Lib.hid (none_truth HT.out HL.out hno)
            obtain ⟨w6, hw6⟩ : ∃ w6, w6 = w5.alloc (.cells #[.int .i64 0, .slice none 0 0, .slice none 0 0] 28) := ⟨_, rfl⟩
            have HB6 : Hid (Below V.heap.size V w6) := Lib.hid (by rw [hw6]; exact below_then HB4.out (below_then hb5 (box_below w5 _)))
            obtain ⟨q0, q1, q2⟩ := cells3 (row_keep HB6.out R.out)
            clear hb5 hno h1 h2
            go_upto_region 4 with fail
            rw [← hw6]
            clear hw6
            go_wp2_with fail
            refine (check_any (vI vn) (bn.map bI) en va vl vc ba bl bc sa sl sc zs ya yl yc rs w6 (HVI.out.keep HB6.out) (HBB.out.keep HB6.out) (HSS.out.keep HB6.out) (HYY.out.keep HB6.out) hvl hbl hsl hyl).mono ?_
            rintro e w7 ⟨z, rfl, hR, hb7⟩
            have HB7 := Lib.hid (below_then HB6.out hb7)
            obtain ⟨q0, q1, q2⟩ := cells3 (row_keep HB7.out R.out)
            rcases hR with ⟨h, _⟩ | ⟨_, vn', bn', h1, h2, _, ⟨hf, rfl⟩ | ⟨hf, rfl⟩⟩
            · exact absurd HTP.out h
            · obtain rfl := vI_inj h1
              obtain rfl := bI_inj h2
              obtain ⟨f, _, he, hF⟩ := feas_of_P HT.out HL.out hf
              have hen : ¬ en ≤ 30 := fun h => HNO.out _ f (by omega) hF
              clear hb7 hf he hF h1 h2
              have PA := Lib.hid (awake_any w7 (HNN.out.keep HB7.out))
              go_wp2_with (go_at_call 9; refine PA.out.mono ?_; rintro e wz ⟨rfl, hbz⟩; have HBZ := Lib.hid (HB.out.trans ((below_then HB7.out hbz).mono HB.out.size)); clear hbz)
              go_ret
              exact ⟨by rw [decide_eq_false (show ¬ en ≤ 30 by omega)]; rfl, HBZ.out⟩
            · clear hb7 hf h1 h2
              have PA := Lib.hid (awake_any w7 (HNN.out.keep HB7.out))
              go_wp2_with (go_at_call 9; refine PA.out.mono ?_; rintro e wz ⟨rfl, hbz⟩; have HBZ := Lib.hid (HB.out.trans ((below_then HB7.out hbz).mono HB.out.size)); clear hbz)
              go_ret
              exact ⟨rfl, HBZ.out⟩
          · skip
            have h5 : bl ≤ 5 := by have := HT.out.few; have := HL.out; omega
            have HT1 := Lib.hid (hbest.truth HT.out HL.out)
            have HFB := Lib.hid (hbest.feasP HT.out HL.out)
            have hen' : en' ≤ 30 := hbest.le
            obtain ⟨w6, hw6⟩ : ∃ w6, w6 = w5.alloc (.cells #[.int .i64 (en' : Int), .slice sa' bl sc', .slice ya' bl bl] 28) := ⟨_, rfl⟩
            have HB6 : Hid (Below V.heap.size V w6) := Lib.hid (by rw [hw6]; exact below_then HB4.out (below_then hb5 (box_below w5 _)))
            have R6 : Hid (w6.heap[w5.heap.size]? = some (.cells #[.int .i64 (en' : Int), .slice sa' bl sc', .slice ya' bl bl] 28 (0, 0))) := Lib.hid (by rw [hw6]; exact new_row w5 _)
            have HS6 : Hid (Il w6 sa' bl (vI ss)) := Lib.hid (by rw [hw6]; exact hss.keep (box_below w5 _))
            have HY6 : Hid (Rows2 w6 ya' bl (rowsB col bl vn.length)) := Lib.hid (by rw [hw6]; exact hrows.keep (box_below w5 _))
            obtain ⟨q0, q1, q2⟩ := cells3 (row_keep HB6.out R.out)
            clear hb5 hbest hss hrows h1 h2
            go_upto_region 4 with fail
            rw [← hw6]
            clear hw6
            go_wp2_with fail
            refine (check_any (vI vn) (bn.map bI) en va vl vc ba bl bc sa sl sc zs ya yl yc rs w6 (HVI.out.keep HB6.out) (HBB.out.keep HB6.out) (HSS.out.keep HB6.out) (HYY.out.keep HB6.out) hvl hbl hsl hyl).mono ?_
            rintro e w7 ⟨z, rfl, hR, hb7⟩
            have HB7 := Lib.hid hb7
            obtain ⟨q0, q1, q2⟩ := cells3 (row_keep (below_then HB6.out HB7.out) R.out)
            rcases hR with ⟨h, _⟩ | ⟨_, vn', bn', h1, h2, _, ⟨hf, rfl⟩ | ⟨hf, rfl⟩⟩
            · exact absurd HTP.out h
            · obtain rfl := vI_inj h1
              obtain rfl := bI_inj h2
              obtain ⟨hL1, hL2⟩ := HT1.out.isLeast HT.out HL.out hf
              have HLL : Hid (sl = bl) := Lib.hid (by have := hf.ls; have := HSL.out; have := HL.out; omega)
              have HL2 := Lib.hid hL2
              clear hb7 hf h1 h2 hL2
              by_cases h30 : en ≤ 30
              · by_cases heq : en = (en' : Int)
                · have HLS := Lib.hid (HL2.out heq)
                  have hsl5 : sl ≤ 5 := by have := HLL.out; omega
                  obtain ⟨k0, k1, k2⟩ := cells3 (row_keep HB7.out R6.out)
                  go_upto_region 7 with fail
                  go_wp2_with fail
                  refine (check_any (vI vn) (bn.map bI) (en' : Int) va vl vc ba bl bc sa' bl sc' (vI ss) ya' bl bl (rowsB col bl vn.length) w7 (HVI.out.keep (below_then HB6.out HB7.out)) (HBB.out.keep (below_then HB6.out HB7.out)) (HS6.out.keep HB7.out) (HY6.out.keep HB7.out) hvl hbl hbl hbl).mono ?_
                  rintro e w8 ⟨z, rfl, hR, hb8⟩
                  have HB8 := Lib.hid (below_then HB7.out hb8)
                  have HB8V := Lib.hid (below_then HB6.out HB8.out)
                  obtain ⟨q0, q1, q2⟩ := cells3 (row_keep HB8V.out R.out)
                  obtain ⟨k0, k1, k2⟩ := cells3 (row_keep HB8.out R6.out)
                  rcases hR with ⟨h, _⟩ | ⟨_, vn', bn', h1, h2, _, ⟨hg, rfl⟩ | ⟨hg, rfl⟩⟩
                  · exact absurd HTP.out h
                  · obtain rfl := vI_inj h1
                    obtain rfl := bI_inj h2
                    clear hb8 hg h1 h2
                    go_upto_region 9 with fail
                    go_wp2_with fail
                    refine (less_any sa sl sc sa' bl sc' zs (vI ss) w8 (HSS.out.keep HB8V.out) (HS6.out.keep HB8.out) HLL.out (by omega)).mono ?_
                    rintro e w9 ⟨rfl, hd9⟩
                    rw [HLS.out]
                    have HB9 := Lib.hid (below_then HB8V.out hd9.below)
                    clear hd9
                    have PA := Lib.hid (awake_any w9 (HNN.out.keep HB9.out))
                    go_wp2_with (go_at_call 9; refine PA.out.mono ?_; rintro e wz ⟨rfl, hbz⟩; have HBZ := Lib.hid (HB.out.trans ((below_then HB9.out hbz).mono HB.out.size)); clear hbz)
                    go_ret
                    exact ⟨rfl, HBZ.out⟩
                  · obtain rfl := vI_inj h1
                    obtain rfl := bI_inj h2
                    exact absurd HFB.out hg
                · skip
                  obtain ⟨k0, k1, k2⟩ := cells3 (row_keep HB7.out R6.out)
                  go_upto_region 7 with fail
                  go_wp2_with fail
                  refine (check_any (vI vn) (bn.map bI) (en' : Int) va vl vc ba bl bc sa' bl sc' (vI ss) ya' bl bl (rowsB col bl vn.length) w7 (HVI.out.keep (below_then HB6.out HB7.out)) (HBB.out.keep (below_then HB6.out HB7.out)) (HS6.out.keep HB7.out) (HY6.out.keep HB7.out) hvl hbl hbl hbl).mono ?_
                  rintro e w8 ⟨z, rfl, hR, hb8⟩
                  have HB8 := Lib.hid (below_then HB7.out hb8)
                  have HB8V := Lib.hid (below_then HB6.out HB8.out)
                  obtain ⟨q0, q1, q2⟩ := cells3 (row_keep HB8V.out R.out)
                  obtain ⟨k0, k1, k2⟩ := cells3 (row_keep HB8.out R6.out)
                  rcases hR with ⟨h, _⟩ | ⟨_, vn', bn', h1, h2, _, ⟨hg, rfl⟩ | ⟨hg, rfl⟩⟩
                  · exact absurd HTP.out h
                  · obtain rfl := vI_inj h1
                    obtain rfl := bI_inj h2
                    clear hb8 hg h1 h2
                    have PA := Lib.hid (awake_any w8 (HNN.out.keep HB8V.out))
                    go_wp2_with (go_at_call 9; refine PA.out.mono ?_; rintro e wz ⟨rfl, hbz⟩; have HBZ := Lib.hid (HB.out.trans ((below_then HB8V.out hbz).mono HB.out.size)); clear hbz)
                    go_ret
                    exact ⟨rfl, HBZ.out⟩
                  · obtain rfl := vI_inj h1
                    obtain rfl := bI_inj h2
                    exact absurd HFB.out hg
              · skip
                obtain ⟨k0, k1, k2⟩ := cells3 (row_keep HB7.out R6.out)
                go_upto_region 7 with fail
                go_wp2_with fail
                refine (check_any (vI vn) (bn.map bI) (en' : Int) va vl vc ba bl bc sa' bl sc' (vI ss) ya' bl bl (rowsB col bl vn.length) w7 (HVI.out.keep (below_then HB6.out HB7.out)) (HBB.out.keep (below_then HB6.out HB7.out)) (HS6.out.keep HB7.out) (HY6.out.keep HB7.out) hvl hbl hbl hbl).mono ?_
                rintro e w8 ⟨z, rfl, hR, hb8⟩
                have HB8 := Lib.hid (below_then HB7.out hb8)
                have HB8V := Lib.hid (below_then HB6.out HB8.out)
                obtain ⟨q0, q1, q2⟩ := cells3 (row_keep HB8V.out R.out)
                obtain ⟨k0, k1, k2⟩ := cells3 (row_keep HB8.out R6.out)
                rcases hR with ⟨h, _⟩ | ⟨_, vn', bn', h1, h2, _, ⟨hg, rfl⟩ | ⟨hg, rfl⟩⟩
                · exact absurd HTP.out h
                · obtain rfl := vI_inj h1
                  obtain rfl := bI_inj h2
                  clear hb8 hg h1 h2
                  have PA := Lib.hid (awake_any w8 (HNN.out.keep HB8V.out))
                  go_wp2_with (go_at_call 9; refine PA.out.mono ?_; rintro e wz ⟨rfl, hbz⟩; have HBZ := Lib.hid (HB.out.trans ((below_then HB8V.out hbz).mono HB.out.size)); clear hbz)
                  go_ret
                  exact ⟨rfl, HBZ.out⟩
                · obtain rfl := vI_inj h1
                  obtain rfl := bI_inj h2
                  exact absurd HFB.out hg
            · clear hb7 hf h1 h2
              obtain ⟨k0, k1, k2⟩ := cells3 (row_keep HB7.out R6.out)
              go_upto_region 7 with fail
              go_wp2_with fail
              refine (check_any (vI vn) (bn.map bI) (en' : Int) va vl vc ba bl bc sa' bl sc' (vI ss) ya' bl bl (rowsB col bl vn.length) w7 (HVI.out.keep (below_then HB6.out HB7.out)) (HBB.out.keep (below_then HB6.out HB7.out)) (HS6.out.keep HB7.out) (HY6.out.keep HB7.out) hvl hbl hbl hbl).mono ?_
              rintro e w8 ⟨z, rfl, hR, hb8⟩
              have HB8 := Lib.hid (below_then HB7.out hb8)
              have HB8V := Lib.hid (below_then HB6.out HB8.out)
              obtain ⟨q0, q1, q2⟩ := cells3 (row_keep HB8V.out R.out)
              obtain ⟨k0, k1, k2⟩ := cells3 (row_keep HB8.out R6.out)
              rcases hR with ⟨h, _⟩ | ⟨_, vn', bn', h1, h2, _, ⟨hg, rfl⟩ | ⟨hg, rfl⟩⟩
              · exact absurd HTP.out h
              · obtain rfl := vI_inj h1
                obtain rfl := bI_inj h2
                clear hb8 hg h1 h2
                have PA := Lib.hid (awake_any w8 (HNN.out.keep HB8V.out))
                go_wp2_with (go_at_call 9; refine PA.out.mono ?_; rintro e wz ⟨rfl, hbz⟩; have HBZ := Lib.hid (HB.out.trans ((below_then HB8V.out hbz).mono HB.out.size)); clear hbz)
                go_ret
                exact ⟨rfl, HBZ.out⟩
              · obtain rfl := vI_inj h1
                obtain rfl := bI_inj h2
                exact absurd HFB.out hg
      · have HB3 := Lib.hid (below_then HB2.out hb3)
        have PA := Lib.hid (awake_any w3 (HNN.out.keep HB3.out))
        clear hb3 ht
        go_wp2_with (go_at_call 9; refine PA.out.mono ?_; rintro e w4 ⟨rfl, hb4⟩; have HB4 := Lib.hid (HB.out.trans ((below_then HB3.out hb4).mono HB.out.size)); clear hb4)
        go_ret
        exact ⟨rfl, HB4.out⟩
end Go.Proofs.YtbidadkcdchomaaDoor
