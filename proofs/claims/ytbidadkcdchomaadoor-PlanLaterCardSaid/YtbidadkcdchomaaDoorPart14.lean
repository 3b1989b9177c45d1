/- Part 14 of the contracts: LWork, PlanLeastW, PMore, PlanMoreW. -/
import Derived.BigQuiet
import Derived.Deep.RegionHeld3
import Derived.OrdersHeld
import Derived.Deep.AppendLies
import Derived.Test.YtbidadkcdchomaaDoorPart13

/- The laws' work (a number, no matter which); the specification's Less. (By gen_lwork.py.) -/
set_option linter.unusedVariables false
set_option linter.unusedSimpArgs false
namespace Go.Proofs.YtbidadkcdchomaaDoor
open Go.RowKit

theorem less_step {xs ys : List Int} {k : Nat} (h1 : k < xs.length) (h2 : k < ys.length) : lessZ (xs.drop k) (ys.drop k) = if xs[k]?.getD 0 ≠ ys[k]?.getD 0 then decide (xs[k]?.getD 0 < ys[k]?.getD 0) else lessZ (xs.drop (k + 1)) (ys.drop (k + 1)) := by
  rw [List.drop_eq_getElem_cons h1, List.drop_eq_getElem_cons h2, List.getElem?_eq_getElem h1, List.getElem?_eq_getElem h2]
  rfl
theorem less_end {xs : List Int} (ys : List Int) {k : Nat} (h : xs.length ≤ k) : lessZ (xs.drop k) ys = false := by
  rw [List.drop_of_length_le h]
  rfl
set_option maxRecDepth 100000 in
set_option maxHeartbeats 2000000 in
theorem less_any (aa : Option Addr) (la ca : Nat) (ab : Option Addr) (lb cb : Nat) (xs ys : List Int) (W : World) (ha : Il W aa la xs) (hb : Il W ab lb ys) (hl : la = lb) (h1 : la ≤ 1000000) :
    Calls Tryd.prog 20 #[.slice aa la ca, .slice ab lb cb] W fun e w' => e = .returned (.bool (lessZ xs ys)) ∧ Drew W w' := by
  subst hl
  have HLA := Lib.hid ha.len
  have HLB := Lib.hid hb.len
  have HA := Lib.hid ha
  have HB := Lib.hid hb
  clear ha hb
  go_enter Tryd.func20, Tryd.ntmps20
  go_wp2
  go_loopg [5] la (fun gg s5 wr => ∃ k : Nat, s5 = .int .i64 (k : Int) ∧ k ≤ la ∧ la - k ≤ gg ∧ Hid (lessZ xs ys = lessZ (xs.drop k) (ys.drop k)) ∧ Hid (Drew W wr))
  case atStart => exact ⟨0, rfl, Nat.zero_le _, by omega, Lib.hid (by simp), Lib.hid (Drew.refl _)⟩
  case round =>
    obtain ⟨k, rfl, hk, hgg, HQ, HD⟩ := hrel
    by_cases h3 : k < la
    · have u0 : (0 : Int) ≤ (k : Int) := by omega
      have u1 : (k : Int) < (la : Int) := by omega
      obtain ⟨b1, o1, rfl, hc1⟩ := (HA.out.of_drew HD.out).at (by omega)
      obtain ⟨b2, o2, rfl, hc2⟩ := (HB.out.of_drew HD.out).at (by omega)
      have c1 := hc1 k h3
      have c2 := hc2 k h3
      have HS := Lib.hid (HQ.out.trans (less_step (xs := xs) (ys := ys) (k := k) (by rw [HLA.out]; exact h3) (by rw [HLB.out]; exact h3)))
      clear hc1 hc2
      by_cases h4 : xs[k]?.getD 0 = ys[k]?.getD 0
      · have H4 := Lib.hid (HS.out.trans (if_neg (fun c => c h4)))
        rw [← h4] at c2
        generalize xs[k]?.getD 0 = x at c1 c2
        clear h4
        go_wp2
        go_quiet (fail)
        go_wp2
        go_roundg (la - (k + 1))
        case measure => omega
        case rel => exact ⟨k + 1, by go_num, by omega, Nat.le_refl _, H4, Lib.hid (HD.out.more _)⟩
      · have H4 := Lib.hid (HS.out.trans (if_pos h4))
        generalize xs[k]?.getD 0 = x at c1 h4 H4
        generalize ys[k]?.getD 0 = y at c2 h4 H4
        by_cases h5 : x < y
        · have H5 := Lib.hid (H4.out.trans (decide_eq_true h5))
          go_wp2
          go_quiet (fail)
          go_wp2
          go_quiet (fail)
          go_wp2
          go_ret
          exact ⟨retB (by rw [H5.out]; first | done | simp [h5]), (HD.out.more _).more _⟩
        · have H5 := Lib.hid (H4.out.trans (decide_eq_false h5))
          go_wp2
          go_quiet (fail)
          go_wp2
          go_quiet (fail)
          go_wp2
          go_ret
          exact ⟨retB (by rw [H5.out]; first | done | simp [h5]), (HD.out.more _).more _⟩
    · obtain rfl : k = la := by omega
      have u1 : ¬ (k : Int) < (k : Int) := by omega
      have HS := Lib.hid (HQ.out.trans (less_end _ (by rw [HLA.out]; exact Nat.le_refl _)))
      go_wp2
      go_ret
      exact ⟨congrArg (fun b => Ending.returned (.bool b)) HS.out.symm, HD.out⟩
/-- an integer is returned, no matter which -/
def OutAnyZ (W : World) (e : Ending) (w' : World) : Prop := ∃ z : Int, e = .returned (.int .i64 z) ∧ Below W.heap.size W w'
set_option maxRecDepth 100000 in
set_option maxHeartbeats 4000000 in
theorem work_any {vn : List Nat} {bn : List BN} (ba : Option Addr) (bl bc : Nat) (W : World) (hb : Bats W ba bl (bn.map bI)) (hT : TaskN vn bn) :
    Calls Tryd.prog 19 #[.slice ba bl bc] W (OutAnyZ W) := by
  have hlb : bn.length = bl := by have := hb.1; simpa using this
  have h5 : bl ≤ 5 := by have := hT.few; omega
  have HB := Lib.hid hb
  have HT := Lib.hid hT
  have HL := Lib.hid hlb
  clear hb hT hlb
  go_enter Tryd.func19, Tryd.ntmps19
  go_wp2
  go_loopg [3, 4] bl (fun gg s3 s4 wr => ∃ (k : Nat) (z : Int), s4 = .int .i64 (k : Int) ∧ k ≤ bl ∧ bl - k ≤ gg ∧ s3 = .int .i64 z ∧ Hid (Below W.heap.size W wr))
  case atStart => exact ⟨0, 1, rfl, Nat.zero_le _, by omega, rfl, Lib.hid (Below.refl _ _)⟩
  case round =>
    obtain ⟨k, z, rfl, hk, hgg, rfl, HW⟩ := hrel
    by_cases h1 : k < bl
    · have u0 : (0 : Int) ≤ (k : Int) := by omega
      have u1 : (k : Int) < (bl : Int) := by omega
      have hkb : k < bn.length := by rw [HL.out]; exact h1
      obtain ⟨g, o, ta, tl, tc, rfl, hx⟩ := (HB.out.keep HW.out).at h1
      rw [bI_at hkb] at hx
      have hlt := HT.out.len k hkb
      have hl3 : (bn[k]!).tm.length ≤ 3 := by have := HT.out.house.few; omega
      have hmt : ∀ q, q < (bn[k]!).tm.length → (bn[k]!).tm[q]! ≤ 30 := fun q hq => (HT.out.tm k hkb q (by omega)).2
      have hr := HT.out.rdy k hkb
      have hd := HT.out.dur hkb
      generalize bn[k]! = b at hx hl3 hmt hr hd
      have c0 : wr.cell? ⟨g, o + k * 2, none⟩ = some (.int .i64 (b.rdy : Int)) := hx.c0
      have c1 : wr.cell? ⟨g, o + k * 2 + 1, none⟩ = some (.slice ta tl tc) := hx.c1
      have P := Lib.hid (total_any (b.rdy : Int) ta tl tc b.tm wr.drew (hx.il.drew) hmt hl3)
      obtain ⟨d, hdd⟩ : ∃ d, d = b.tm.sum := ⟨_, rfl⟩
      have hd : d ≤ 90 := by rw [hdd]; exact hd
      rw [← hdd] at P
      clear hx hlt hmt hdd
      go_upto_region 5 with fail
      refine wp_region_held_drew (S := fun w' => w'.cell? ⟨g, o + k * 2, none⟩ = some (.int .i64 (b.rdy : Int)) ∧ w'.cell? ⟨g, o + k * 2 + 1, none⟩ = some (.slice ta tl tc)) (by kernel_rfl) ⟨c0, c1⟩ (fun hS => ?_)
      refine wpAnyH_take (i := 0) (v := ?vw0) rfl (by kernel_rfl) (by kernel_rfl) (by kernel_rfl) (fun _ _ _ h => h) (Or.inl ⟨by rfl, ?hyw0⟩) hS ?restw0
      case hyw0 => (intro w hSw; (try dsimp only at hSw); (first | (go_simp; done) | (go_simp; with_reducible rfl)))
      try simp only [Act.put, List.getElem_toArray, List.getElem_cons_succ, List.getElem_cons_zero, List.setIfInBounds_toArray, List.set_cons_zero, List.set_cons_succ]
      refine wpAnyH_take (i := 1) (v := ?vw1) rfl (by kernel_rfl) (by kernel_rfl) (by kernel_rfl) (fun _ _ _ h => h) (Or.inl ⟨by rfl, ?hyw1⟩) hS ?restw1
      case hyw1 => (intro w hSw; (try dsimp only at hSw); (first | (go_simp; done) | (go_simp; with_reducible rfl)))
      try simp only [Act.put, List.getElem_toArray, List.getElem_cons_succ, List.getElem_cons_zero, List.setIfInBounds_toArray, List.set_cons_zero, List.set_cons_succ]
      refine wpAnyH_take (i := 2) (v := ?vw2) rfl (by kernel_rfl) (by kernel_rfl) (by kernel_rfl) (fun _ _ _ h => h) (Or.inl ⟨by rfl, ?hyw2⟩) hS ?restw2
      case hyw2 => (intro w hSw; (try dsimp only at hSw); (first | (go_simp; done) | (go_simp; with_reducible rfl)))
      try simp only [Act.put, List.getElem_toArray, List.getElem_cons_succ, List.getElem_cons_zero, List.setIfInBounds_toArray, List.set_cons_zero, List.set_cons_succ]
      refine wpAnyH_take (i := 3) (v := ?vw3) rfl (by kernel_rfl) (by kernel_rfl) (by kernel_rfl) (fun _ _ _ h => h) (Or.inl ⟨by rfl, ?hyw3⟩) hS ?restw3
      case hyw3 => (intro w hSw; (try dsimp only at hSw); (first | (go_simp; done) | (go_simp; with_reducible rfl)))
      try simp only [Act.put, List.getElem_toArray, List.getElem_cons_succ, List.getElem_cons_zero, List.setIfInBounds_toArray, List.set_cons_zero, List.set_cons_succ]
      refine wpAnyH_take (i := 4) (v := ?vw4) rfl (by kernel_rfl) (by kernel_rfl) (by kernel_rfl) (fun _ _ _ h => h) (Or.inl ⟨by rfl, ?hyw4⟩) hS ?restw4
      case hyw4 => (intro w hSw; (try dsimp only at hSw); (first | (go_simp; done) | (go_simp; with_reducible rfl)))
      try simp only [Act.put, List.getElem_toArray, List.getElem_cons_succ, List.getElem_cons_zero, List.setIfInBounds_toArray, List.set_cons_zero, List.set_cons_succ]
      refine wpAnyH_take (i := 5) (v := ?vw5) rfl (by kernel_rfl) (by kernel_rfl) (by kernel_rfl) (fun _ _ _ h => h) (Or.inl ⟨by rfl, ?hyw5⟩) hS ?restw5
      case hyw5 => (intro w hSw; (try dsimp only at hSw); (first | (go_simp; done) | (go_simp; with_reducible rfl)))
      try simp only [Act.put, List.getElem_toArray, List.getElem_cons_succ, List.getElem_cons_zero, List.setIfInBounds_toArray, List.set_cons_zero, List.set_cons_succ]
      refine wpAnyH_take (i := 6) (v := ?vw6) rfl (by kernel_rfl) (by kernel_rfl) (by kernel_rfl) (fun _ _ _ h => h) (Or.inl ⟨by rfl, ?hyw6⟩) hS ?restw6
      case hyw6 => (intro w hSw; (try dsimp only at hSw); (first | (go_simp; done) | (go_simp; with_reducible rfl)))
      try simp only [Act.put, List.getElem_toArray, List.getElem_cons_succ, List.getElem_cons_zero, List.setIfInBounds_toArray, List.set_cons_zero, List.set_cons_succ]
      refine wpAnyH_take (i := 7) (v := ?vw7) rfl (by kernel_rfl) (by kernel_rfl) (by kernel_rfl) (fun _ _ _ h => h) (Or.inl ⟨by rfl, ?hyw7⟩) hS ?restw7
      case hyw7 => (intro w hSw; (try dsimp only at hSw); (first | (go_simp; done) | (go_simp; with_reducible rfl)))
      try simp only [Act.put, List.getElem_toArray, List.getElem_cons_succ, List.getElem_cons_zero, List.setIfInBounds_toArray, List.set_cons_zero, List.set_cons_succ]
      refine wpAnyH_take (i := 8) (v := ?vw8) rfl (by kernel_rfl) (by kernel_rfl) (by kernel_rfl) (fun _ _ _ h => h) (Or.inl ⟨by rfl, ?hyw8⟩) hS ?restw8
      case hyw8 => (intro w hSw; (try dsimp only at hSw); (first | (go_simp; done) | (go_simp; with_reducible rfl)))
      try simp only [Act.put, List.getElem_toArray, List.getElem_cons_succ, List.getElem_cons_zero, List.setIfInBounds_toArray, List.set_cons_zero, List.set_cons_succ]
      refine wpAnyH_take (i := 9) (v := ?vw9) rfl (by kernel_rfl) (by kernel_rfl) (by kernel_rfl) (fun _ _ _ h => h) (Or.inl ⟨by rfl, ?hyw9⟩) hS ?restw9
      case hyw9 => (intro w hSw; (try dsimp only at hSw); (first | (go_simp; done) | (go_simp; with_reducible rfl)))
      try simp only [Act.put, List.getElem_toArray, List.getElem_cons_succ, List.getElem_cons_zero, List.setIfInBounds_toArray, List.set_cons_zero, List.set_cons_succ]
      refine wpAnyH_take (i := 10) (v := ?vw10) rfl (by kernel_rfl) (by kernel_rfl) (by kernel_rfl) (fun _ _ _ h => h) (Or.inl ⟨by rfl, ?hyw10⟩) hS ?restw10
      case hyw10 => (intro w hSw; (try dsimp only at hSw); (first | (go_simp; done) | (go_simp; with_reducible rfl)))
      try simp only [Act.put, List.getElem_toArray, List.getElem_cons_succ, List.getElem_cons_zero, List.setIfInBounds_toArray, List.set_cons_zero, List.set_cons_succ]
      refine wpAnyH_ready (rs := [11]) (by kernel_rfl) (by simp) ?_
      refine AllReadyH.cons rfl (fun K hK => ?_) AllReadyH.nil
      try go_simp
      refine P.out.mono ?_
      rintro e w1 ⟨rfl, hb1⟩
      have B1 := Lib.hid ((drew_below wr).trans hb1)
      have k0 := cell_later B1.out c0; have k1 := cell_later B1.out c1
      clear hb1
      refine hK.out _ _ ⟨k0, k1⟩ (fun hS => ?_)
      clear hK K
      try simp only [Act.put, List.getElem_toArray, List.getElem_cons_succ, List.getElem_cons_zero, List.setIfInBounds_toArray, List.set_cons_zero, List.set_cons_succ]
      clear k0 k1
      refine wpAnyH_take (i := 12) (v := ?vw12) rfl (by kernel_rfl) (by kernel_rfl) (by kernel_rfl) (fun _ _ _ h => h) (Or.inl ⟨by rfl, ?hyw12⟩) hS ?restw12
      case hyw12 => (intro w hSw; (try dsimp only at hSw); (first | (go_simp; done) | (go_simp; with_reducible rfl)))
      try simp only [Act.put, List.getElem_toArray, List.getElem_cons_succ, List.getElem_cons_zero, List.setIfInBounds_toArray, List.set_cons_zero, List.set_cons_succ]
      refine wpAnyH_take (i := 13) (v := ?vw13) rfl (by kernel_rfl) (by kernel_rfl) (by kernel_rfl) (fun _ _ _ h => h) (Or.inl ⟨by rfl, ?hyw13⟩) hS ?restw13
      case hyw13 => (intro w hSw; (try dsimp only at hSw); (first | (go_simp; done) | (go_simp; with_reducible rfl)))
      try simp only [Act.put, List.getElem_toArray, List.getElem_cons_succ, List.getElem_cons_zero, List.setIfInBounds_toArray, List.set_cons_zero, List.set_cons_succ]
      refine wpAnyH_take (i := 14) (v := ?vw14) rfl (by kernel_rfl) (by kernel_rfl) (by kernel_rfl) (fun _ _ _ h => h) (Or.inl ⟨by rfl, ?hyw14⟩) hS ?restw14
      case hyw14 => (intro w hSw; (try dsimp only at hSw); (first | (go_simp; done) | (go_simp; with_reducible rfl)))
      try simp only [Act.put, List.getElem_toArray, List.getElem_cons_succ, List.getElem_cons_zero, List.setIfInBounds_toArray, List.set_cons_zero, List.set_cons_succ]
      refine wpAnyH_take (i := 15) (v := ?vw15) rfl (by kernel_rfl) (by kernel_rfl) (by kernel_rfl) (fun _ _ _ h => h) (Or.inl ⟨by rfl, ?hyw15⟩) hS ?restw15
      case hyw15 => (intro w hSw; (try dsimp only at hSw); (first | (go_simp; done) | (go_simp; with_reducible rfl)))
      try simp only [Act.put, List.getElem_toArray, List.getElem_cons_succ, List.getElem_cons_zero, List.setIfInBounds_toArray, List.set_cons_zero, List.set_cons_succ]
      refine wpAnyH_take (i := 16) (v := ?vw16) rfl (by kernel_rfl) (by kernel_rfl) (by kernel_rfl) (fun _ _ _ h => h) (Or.inl ⟨by rfl, ?hyw16⟩) hS ?restw16
      case hyw16 => (intro w hSw; (try dsimp only at hSw); (first | (go_simp; done) | (go_simp; with_reducible rfl)))
      try simp only [Act.put, List.getElem_toArray, List.getElem_cons_succ, List.getElem_cons_zero, List.setIfInBounds_toArray, List.set_cons_zero, List.set_cons_succ]
      refine wpAnyH_done (by kernel_rfl) ?_ _
      have HB1 := Lib.hid (HW.out.trans (B1.out.mono HW.out.size))
      generalize IntKind.i64.wrap (z * IntKind.i64.wrap ((if 0 < IntKind.i64.wrap (IntKind.i64.wrap (30 - (b.rdy : Int)) - (d : Int)) then IntKind.i64.wrap (IntKind.i64.wrap (30 - (b.rdy : Int)) - (d : Int)) else 0) + 1)) = z2
      generalize IntKind.i64.wrap ((if 0 < IntKind.i64.wrap (IntKind.i64.wrap (30 - (b.rdy : Int)) - (d : Int)) then IntKind.i64.wrap (IntKind.i64.wrap (30 - (b.rdy : Int)) - (d : Int)) else 0) + 1) = z3
      generalize (if 0 < IntKind.i64.wrap (IntKind.i64.wrap (30 - (b.rdy : Int)) - (d : Int)) then IntKind.i64.wrap (IntKind.i64.wrap (30 - (b.rdy : Int)) - (d : Int)) else 0) = z4
      generalize IntKind.i64.wrap (IntKind.i64.wrap (30 - (b.rdy : Int)) - (d : Int)) = z5
      generalize IntKind.i64.wrap (30 - (b.rdy : Int)) = z6
      clear hS c0 c1 P
      by_cases h2 : (100000 : Int) < z2
      · go_wp2
        go_ret
        exact ⟨z2, rfl, HB1.out⟩
      · go_wp2
        go_roundg (bl - (k + 1))
        case measure => omega
        case rel => exact ⟨k + 1, z2, by go_num, by omega, Nat.le_refl _, rfl, HB1⟩
    · obtain rfl : k = bl := by omega
      have u1 : ¬ (k : Int) < (k : Int) := by omega
      go_wp2
      go_ret
      exact ⟨z, rfl, HW.out⟩
end Go.Proofs.YtbidadkcdchomaaDoor

/- PlanLeast, at any house, batches and schedule in memory. -/
set_option linter.unusedVariables false
set_option linter.unusedSimpArgs false
namespace Go.Proofs.YtbidadkcdchomaaDoor
open Go.RowKit

/-- true is returned -/
def YesL (W : World) (e : Ending) (w' : World) : Prop := e = .returned (.bool true) ∧ Below W.heap.size W w'
theorem few_bats {w : World} {ba : Option Addr} {bl : Nat} {bn : List BN} (h : Bats w ba bl (bn.map bI)) : bn.length = bl := by have := h.1; simpa using this
set_option maxRecDepth 100000 in
set_option maxHeartbeats 8000000 in
theorem least_walk (vs : List Int) (bs : List Bt) (en : Int) (va : Option Addr) (vl vc : Nat) (ba : Option Addr) (bl bc : Nat) (sa : Option Addr) (sl sc : Nat) (zs : List Int) (ya : Option Addr) (yl yc : Nat) (rs : List (List Int)) (W : World)
    (hv : Il W va vl vs) (hb : Bats W ba bl bs) (hs : Il W sa sl zs) (hy : Rows2 W ya yl rs) (hN : NowM W) (hvl : vl ≤ 9223372036854775807) (hbl : bl ≤ 9223372036854775807) (hsl : sl ≤ 9223372036854775807) (hyl : yl ≤ 9223372036854775807) :
    Calls Tryd.prog 5 #[.slice va vl vc, .slice ba bl bc, .agg #[.int .i64 en, .slice sa sl sc, .slice ya yl yc]] W (YesL W) := by
  obtain ⟨V, hV⟩ : ∃ V, V = W.alloc (.cells #[.int .i64 en, .slice sa sl sc, .slice ya yl yc] 28) := ⟨_, rfl⟩
  have HB : Hid (Below W.heap.size W V) := Lib.hid (by rw [hV]; exact box_below W _)
  have R : Hid (V.heap[W.heap.size]? = some (.cells #[.int .i64 en, .slice sa sl sc, .slice ya yl yc] 28 (0, 0))) := Lib.hid (by rw [hV]; exact new_row W _)
  have HVI := Lib.hid (hv.keep HB.out)
  have HBB := Lib.hid (hb.keep HB.out)
  have HSS := Lib.hid (hs.keep HB.out)
  have HYY := Lib.hid (hy.keep HB.out)
  have HNN := Lib.hid (hN.keep HB.out)
  have HSL := Lib.hid hs.len
  have HV := Lib.hid hV
  obtain ⟨q0, q1, q2⟩ := cells3 R.out
  clear hv hb hs hy hN hV
  go_enter Tryd.func5, Tryd.ntmps5
  go_upto_region 1 with fail
  rw [← HV.out]
  go_wp2_with fail
  refine (few_any va vl vc ba bl bc bs V HBB.out).mono ?_
  rintro e w1 ⟨b, rfl, hb1⟩
  have HB1 := Lib.hid hb1
  obtain ⟨q0, q1, q2⟩ := cells3 (row_keep hb1 R.out)
  clear hb1
  cases b with
  | false =>
    have PA := Lib.hid (awake_any w1 (HNN.out.keep HB1.out))
    go_wp2_with (go_at_call 9; refine PA.out.mono ?_; rintro e w2 ⟨rfl, hb2⟩; have HB2 := Lib.hid (HB.out.trans ((below_then HB1.out hb2).mono HB.out.size)); clear hb2)
    go_ret
    exact ⟨rfl, HB2.out⟩
  | true =>
    go_wp2_with fail
    refine (fewV_any en sa sl sc ya yl yc rs w1 (HYY.out.keep HB1.out)).mono ?_
    rintro e w2 ⟨b, rfl, hb2⟩
    have HB2 := Lib.hid (below_then HB1.out hb2)
    obtain ⟨q0, q1, q2⟩ := cells3 (row_keep HB2.out R.out)
    clear hb2
    cases b with
    | false =>
      have PA := Lib.hid (awake_any w2 (HNN.out.keep HB2.out))
      go_wp2_with (go_at_call 9; refine PA.out.mono ?_; rintro e w3 ⟨rfl, hb3⟩; have HB3 := Lib.hid (HB.out.trans ((below_then HB2.out hb3).mono HB.out.size)); clear hb3)
      go_ret
      exact ⟨rfl, HB3.out⟩
    | true =>
      go_wp2_with fail
      refine (task_any va vl vc ba bl bc vs bs w2 (HVI.out.keep HB2.out) (HBB.out.keep HB2.out) hvl hbl).mono ?_
      rintro e w3 ⟨⟨ht, rfl⟩ | ⟨ht, rfl⟩, hb3⟩
      · have HB3 := Lib.hid (below_then HB2.out hb3)
        obtain ⟨q0, q1, q2⟩ := cells3 (row_keep HB3.out R.out)
        obtain ⟨vn, bn, rfl, rfl, hT⟩ := task_nat ht
        have HTP := Lib.hid ht
        have HT := Lib.hid hT
        have HL := Lib.hid (few_bats HBB.out)
        clear hb3 ht hT
        go_wp2_with fail
        refine (work_any ba bl bc w3 (HBB.out.keep HB3.out) HT.out).mono ?_
        rintro e w4 ⟨wk, rfl, hb4⟩
        have HB4 := Lib.hid (below_then HB3.out hb4)
        obtain ⟨q0, q1, q2⟩ := cells3 (row_keep HB4.out R.out)
        clear hb4
        by_cases hwk : (100000 : Int) < wk
        · have PA := Lib.hid (awake_any w4 (HNN.out.keep HB4.out))
          go_wp2_with (go_at_call 9; refine PA.out.mono ?_; rintro e w5 ⟨rfl, hb5⟩; have HB5 := Lib.hid (HB.out.trans ((below_then HB4.out hb5).mono HB.out.size)); clear hb5)
          go_ret
          exact ⟨rfl, HB5.out⟩
        · have PB := Lib.hid (best_any (vI vn) (bn.map bI) va vl vc ba bl bc w4 (HVI.out.keep HB4.out) (HBB.out.keep HB4.out) (HNN.out.keep HB4.out) hvl hbl (fun vn' bn' h1 h2 h3 => has_best h3 (by have := HL.out; rw [← bI_inj h2]; exact this)))
          go_upto_region 3 with fail
          go_wp2_with fail
          refine PB.out.mono ?_
          rintro e w5 ⟨hb5, ⟨hn, _⟩ | ⟨_, vn', bn', h1, h2, _, ho⟩⟩
          · exact absurd HTP.out hn
          obtain rfl := vI_inj h1
          obtain rfl := bI_inj h2
          rcases ho with ⟨hno, rfl⟩ | ⟨en', ss, col, sa', sc', ya', hbest, rfl, hss, hrows⟩
          · have HNO := Lib.hid (none_truth HT.out HL.out hno)
            obtain ⟨w6, hw6⟩ : ∃ w6, w6 = w5.alloc (.cells #[.int .i64 0, .slice none 0 0, .slice none 0 0] 28) := ⟨_, rfl⟩
            have HB6 : Hid (Below V.heap.size V w6) := Lib.hid (by rw [hw6]; exact below_then HB4.out (below_then hb5 (box_below w5 _)))
            obtain ⟨q0, q1, q2⟩ := cells3 (row_keep HB6.out R.out)
            clear hb5 hno h1 h2
            go_upto_region 4 with fail
            rw [← hw6]
            clear hw6
            go_wp2_with fail
            refine (check_any (vI vn) (bn.map bI) en va vl vc ba bl bc sa sl sc zs ya yl yc rs w6 (HVI.out.keep HB6.out) (HBB.out.keep HB6.out) (HSS.out.keep HB6.out) (HYY.out.keep HB6.out) hvl hbl hsl hyl).mono ?_
            rintro e w7 ⟨z, rfl, hR, hb7⟩
            have HB7 := Lib.hid (below_then HB6.out hb7)
            obtain ⟨q0, q1, q2⟩ := cells3 (row_keep HB7.out R.out)
            rcases hR with ⟨h, _⟩ | ⟨_, vn', bn', h1, h2, _, ⟨hf, rfl⟩ | ⟨hf, rfl⟩⟩
            · exact absurd HTP.out h
            · obtain rfl := vI_inj h1
              obtain rfl := bI_inj h2
              obtain ⟨f, _, he, hF⟩ := feas_of_P HT.out HL.out hf
              have hen : ¬ en ≤ 30 := fun h => HNO.out _ f (by omega) hF
              clear hb7 hf he hF h1 h2
              have PA := Lib.hid (awake_any w7 (HNN.out.keep HB7.out))
              go_wp2_with (go_at_call 9; refine PA.out.mono ?_; rintro e wz ⟨rfl, hbz⟩; have HBZ := Lib.hid (HB.out.trans ((below_then HB7.out hbz).mono HB.out.size)); clear hbz)
              go_ret
              exact ⟨by rw [decide_eq_false (show ¬ en ≤ 30 by omega)]; rfl, HBZ.out⟩
            · clear hb7 hf h1 h2
              have PA := Lib.hid (awake_any w7 (HNN.out.keep HB7.out))
              go_wp2_with (go_at_call 9; refine PA.out.mono ?_; rintro e wz ⟨rfl, hbz⟩; have HBZ := Lib.hid (HB.out.trans ((below_then HB7.out hbz).mono HB.out.size)); clear hbz)
              go_ret
              exact ⟨rfl, HBZ.out⟩
          · skip
            have h5 : bl ≤ 5 := by have := HT.out.few; have := HL.out; omega
            have HT1 := Lib.hid (hbest.truth HT.out HL.out)
            have HFB := Lib.hid (hbest.feasP HT.out HL.out)
            have hen' : en' ≤ 30 := hbest.le
            obtain ⟨w6, hw6⟩ : ∃ w6, w6 = w5.alloc (.cells #[.int .i64 (en' : Int), .slice sa' bl sc', .slice ya' bl bl] 28) := ⟨_, rfl⟩
            have HB6 : Hid (Below V.heap.size V w6) := Lib.hid (by rw [hw6]; exact below_then HB4.out (below_then hb5 (box_below w5 _)))
            have R6 : Hid (w6.heap[w5.heap.size]? = some (.cells #[.int .i64 (en' : Int), .slice sa' bl sc', .slice ya' bl bl] 28 (0, 0))) := Lib.hid (by rw [hw6]; exact new_row w5 _)
            have HS6 : Hid (Il w6 sa' bl (vI ss)) := Lib.hid (by rw [hw6]; exact hss.keep (box_below w5 _))
            have HY6 : Hid (Rows2 w6 ya' bl (rowsB col bl vn.length)) := Lib.hid (by rw [hw6]; exact hrows.keep (box_below w5 _))
            obtain ⟨q0, q1, q2⟩ := cells3 (row_keep HB6.out R.out)
            clear hb5 hbest hss hrows h1 h2
            go_upto_region 4 with fail
            rw [← hw6]
            clear hw6
            go_wp2_with fail
            refine (check_any (vI vn) (bn.map bI) en va vl vc ba bl bc sa sl sc zs ya yl yc rs w6 (HVI.out.keep HB6.out) (HBB.out.keep HB6.out) (HSS.out.keep HB6.out) (HYY.out.keep HB6.out) hvl hbl hsl hyl).mono ?_
            rintro e w7 ⟨z, rfl, hR, hb7⟩
            have HB7 := Lib.hid hb7
            obtain ⟨q0, q1, q2⟩ := cells3 (row_keep (below_then HB6.out HB7.out) R.out)
            rcases hR with ⟨h, _⟩ | ⟨_, vn', bn', h1, h2, _, ⟨hf, rfl⟩ | ⟨hf, rfl⟩⟩
            · exact absurd HTP.out h
            · obtain rfl := vI_inj h1
              obtain rfl := bI_inj h2
              obtain ⟨hL1, hL2⟩ := HT1.out.isLeast HT.out HL.out hf
              have HLL : Hid (sl = bl) := Lib.hid (by have := hf.ls; have := HSL.out; have := HL.out; omega)
              have HL2 := Lib.hid hL2
              clear hb7 hf h1 h2 hL2
              by_cases h30 : en ≤ 30
              · by_cases heq : en = (en' : Int)
                · have HLS := Lib.hid (HL2.out heq)
                  have hsl5 : sl ≤ 5 := by have := HLL.out; omega
                  obtain ⟨k0, k1, k2⟩ := cells3 (row_keep HB7.out R6.out)
                  go_upto_region 7 with fail
                  go_wp2_with fail
                  refine (check_any (vI vn) (bn.map bI) (en' : Int) va vl vc ba bl bc sa' bl sc' (vI ss) ya' bl bl (rowsB col bl vn.length) w7 (HVI.out.keep (below_then HB6.out HB7.out)) (HBB.out.keep (below_then HB6.out HB7.out)) (HS6.out.keep HB7.out) (HY6.out.keep HB7.out) hvl hbl hbl hbl).mono ?_
                  rintro e w8 ⟨z, rfl, hR, hb8⟩
                  have HB8 := Lib.hid (below_then HB7.out hb8)
                  have HB8V := Lib.hid (below_then HB6.out HB8.out)
                  obtain ⟨q0, q1, q2⟩ := cells3 (row_keep HB8V.out R.out)
                  obtain ⟨k0, k1, k2⟩ := cells3 (row_keep HB8.out R6.out)
                  rcases hR with ⟨h, _⟩ | ⟨_, vn', bn', h1, h2, _, ⟨hg, rfl⟩ | ⟨hg, rfl⟩⟩
                  · exact absurd HTP.out h
                  · obtain rfl := vI_inj h1
                    obtain rfl := bI_inj h2
                    clear hb8 hg h1 h2
                    go_upto_region 9 with fail
                    go_wp2_with fail
                    refine (less_any sa sl sc sa' bl sc' zs (vI ss) w8 (HSS.out.keep HB8V.out) (HS6.out.keep HB8.out) HLL.out (by omega)).mono ?_
                    rintro e w9 ⟨rfl, hd9⟩
                    rw [HLS.out]
                    have HB9 := Lib.hid (below_then HB8V.out hd9.below)
                    clear hd9
                    have PA := Lib.hid (awake_any w9 (HNN.out.keep HB9.out))
                    go_wp2_with (go_at_call 9; refine PA.out.mono ?_; rintro e wz ⟨rfl, hbz⟩; have HBZ := Lib.hid (HB.out.trans ((below_then HB9.out hbz).mono HB.out.size)); clear hbz)
                    go_ret
                    exact ⟨rfl, HBZ.out⟩
                  · obtain rfl := vI_inj h1
                    obtain rfl := bI_inj h2
                    exact absurd HFB.out hg
                · skip
                  obtain ⟨k0, k1, k2⟩ := cells3 (row_keep HB7.out R6.out)
                  go_upto_region 7 with fail
                  go_wp2_with fail
                  refine (check_any (vI vn) (bn.map bI) (en' : Int) va vl vc ba bl bc sa' bl sc' (vI ss) ya' bl bl (rowsB col bl vn.length) w7 (HVI.out.keep (below_then HB6.out HB7.out)) (HBB.out.keep (below_then HB6.out HB7.out)) (HS6.out.keep HB7.out) (HY6.out.keep HB7.out) hvl hbl hbl hbl).mono ?_
                  rintro e w8 ⟨z, rfl, hR, hb8⟩
                  have HB8 := Lib.hid (below_then HB7.out hb8)
                  have HB8V := Lib.hid (below_then HB6.out HB8.out)
                  obtain ⟨q0, q1, q2⟩ := cells3 (row_keep HB8V.out R.out)
                  obtain ⟨k0, k1, k2⟩ := cells3 (row_keep HB8.out R6.out)
                  rcases hR with ⟨h, _⟩ | ⟨_, vn', bn', h1, h2, _, ⟨hg, rfl⟩ | ⟨hg, rfl⟩⟩
                  · exact absurd HTP.out h
                  · obtain rfl := vI_inj h1
                    obtain rfl := bI_inj h2
                    clear hb8 hg h1 h2
                    have PA := Lib.hid (awake_any w8 (HNN.out.keep HB8V.out))
                    go_wp2_with (go_at_call 9; refine PA.out.mono ?_; rintro e wz ⟨rfl, hbz⟩; have HBZ := Lib.hid (HB.out.trans ((below_then HB8V.out hbz).mono HB.out.size)); clear hbz)
                    go_ret
                    exact ⟨rfl, HBZ.out⟩
                  · obtain rfl := vI_inj h1
                    obtain rfl := bI_inj h2
                    exact absurd HFB.out hg
              · skip
                obtain ⟨k0, k1, k2⟩ := cells3 (row_keep HB7.out R6.out)
                go_upto_region 7 with fail
                go_wp2_with fail
                refine (check_any (vI vn) (bn.map bI) (en' : Int) va vl vc ba bl bc sa' bl sc' (vI ss) ya' bl bl (rowsB col bl vn.length) w7 (HVI.out.keep (below_then HB6.out HB7.out)) (HBB.out.keep (below_then HB6.out HB7.out)) (HS6.out.keep HB7.out) (HY6.out.keep HB7.out) hvl hbl hbl hbl).mono ?_
                rintro e w8 ⟨z, rfl, hR, hb8⟩
                have HB8 := Lib.hid (below_then HB7.out hb8)
                have HB8V := Lib.hid (below_then HB6.out HB8.out)
                obtain ⟨q0, q1, q2⟩ := cells3 (row_keep HB8V.out R.out)
                obtain ⟨k0, k1, k2⟩ := cells3 (row_keep HB8.out R6.out)
                rcases hR with ⟨h, _⟩ | ⟨_, vn', bn', h1, h2, _, ⟨hg, rfl⟩ | ⟨hg, rfl⟩⟩
                · exact absurd HTP.out h
                · obtain rfl := vI_inj h1
                  obtain rfl := bI_inj h2
                  clear hb8 hg h1 h2
                  have PA := Lib.hid (awake_any w8 (HNN.out.keep HB8V.out))
                  go_wp2_with (go_at_call 9; refine PA.out.mono ?_; rintro e wz ⟨rfl, hbz⟩; have HBZ := Lib.hid (HB.out.trans ((below_then HB8V.out hbz).mono HB.out.size)); clear hbz)
                  go_ret
                  exact ⟨rfl, HBZ.out⟩
                · obtain rfl := vI_inj h1
                  obtain rfl := bI_inj h2
                  exact absurd HFB.out hg
            · clear hb7 hf h1 h2
              obtain ⟨k0, k1, k2⟩ := cells3 (row_keep HB7.out R6.out)
              go_upto_region 7 with fail
              go_wp2_with fail
              refine (check_any (vI vn) (bn.map bI) (en' : Int) va vl vc ba bl bc sa' bl sc' (vI ss) ya' bl bl (rowsB col bl vn.length) w7 (HVI.out.keep (below_then HB6.out HB7.out)) (HBB.out.keep (below_then HB6.out HB7.out)) (HS6.out.keep HB7.out) (HY6.out.keep HB7.out) hvl hbl hbl hbl).mono ?_
              rintro e w8 ⟨z, rfl, hR, hb8⟩
              have HB8 := Lib.hid (below_then HB7.out hb8)
              have HB8V := Lib.hid (below_then HB6.out HB8.out)
              obtain ⟨q0, q1, q2⟩ := cells3 (row_keep HB8V.out R.out)
              obtain ⟨k0, k1, k2⟩ := cells3 (row_keep HB8.out R6.out)
              rcases hR with ⟨h, _⟩ | ⟨_, vn', bn', h1, h2, _, ⟨hg, rfl⟩ | ⟨hg, rfl⟩⟩
              · exact absurd HTP.out h
              · obtain rfl := vI_inj h1
                obtain rfl := bI_inj h2
                clear hb8 hg h1 h2
                have PA := Lib.hid (awake_any w8 (HNN.out.keep HB8V.out))
                go_wp2_with (go_at_call 9; refine PA.out.mono ?_; rintro e wz ⟨rfl, hbz⟩; have HBZ := Lib.hid (HB.out.trans ((below_then HB8V.out hbz).mono HB.out.size)); clear hbz)
                go_ret
                exact ⟨rfl, HBZ.out⟩
              · obtain rfl := vI_inj h1
                obtain rfl := bI_inj h2
                exact absurd HFB.out hg
      · have HB3 := Lib.hid (below_then HB2.out hb3)
        have PA := Lib.hid (awake_any w3 (HNN.out.keep HB3.out))
        clear hb3 ht
        go_wp2_with (go_at_call 9; refine PA.out.mono ?_; rintro e w4 ⟨rfl, hb4⟩; have HB4 := Lib.hid (HB.out.trans ((below_then HB3.out hb4).mono HB.out.size)); clear hb4)
        go_ret
        exact ⟨rfl, HB4.out⟩
end Go.Proofs.YtbidadkcdchomaaDoor

/- More vessels, fewer batches, later batches: what stays feasible. No function of the program is walked here. -/
set_option linter.unusedVariables false
set_option linter.unusedSimpArgs false
namespace Go.Proofs.YtbidadkcdchomaaDoor
open Go.RowKit

/-! ### a vessel more -/
def plusV (vn : List Nat) (k : Nat) : List Nat := vn.set k (vn[k]! + 1)
theorem plusV_len (vn : List Nat) (k : Nat) : (plusV vn k).length = vn.length := by simp [plusV]
theorem plusV_le (vn : List Nat) (k j : Nat) : vn[j]! ≤ (plusV vn k)[j]! := by
  unfold plusV
  by_cases h : k = j
  · subst h
    by_cases hk : k < vn.length
    · rw [get_set_eq _ _ _ hk]; omega
    · rw [getElem!_neg vn k hk]; exact Nat.zero_le _
  · rw [get_set_ne _ _ _ _ h]; exact Nat.le_refl _
section
variable {vn : List Nat} {bn : List BN} {n k : Nat}
theorem TaskN.more (hT : TaskN vn bn) (hk : k < vn.length) (h8 : vn[k]! + 1 ≤ 8) : TaskN (plusV vn k) bn := by
  have hl := plusV_len vn k
  refine ⟨⟨by rw [hl]; exact hT.house.few, fun j hj => ?_⟩, by rw [hl]; exact hT.some, hT.few, hT.rdy, fun i hi => by rw [hl]; exact hT.len i hi, fun i hi j hj => hT.tm i hi j (by rw [hl] at hj; exact hj)⟩
  rw [hl] at hj
  have h1 := hT.house.one j hj
  unfold plusV
  by_cases e : k = j
  · subst e
    rw [get_set_eq _ _ _ hk]; omega
  · rw [get_set_ne _ _ _ _ e]; exact h1
theorem FeasF.more {e : Nat} {f : Nat → Nat} (h : FeasF vn bn e n f) (k : Nat) : FeasF (plusV vn k) bn e n f :=
  ⟨h.inr, fun j hj t => Nat.le_trans (h.cnt j (by rw [plusV_len] at hj; exact hj) t) (plusV_le vn k j)⟩
theorem FeasP.more {e : Int} {zs : List Int} {rs : List (List Int)} (h : FeasP vn bn e zs rs) (k : Nat) : FeasP (plusV vn k) bn e zs rs := by
  refine ⟨h.ls, h.lr, h.st, fun i hi => ?_, h.cl, h.en⟩
  obtain ⟨h1, h2⟩ := h.ve i hi
  refine ⟨by rw [vI_len, plusV_len]; rw [vI_len] at h1; exact h1, fun j hj => ?_⟩
  have := h2 j hj
  rw [vI_get] at this ⊢
  have := plusV_le vn k j
  omega
/-! ### a batch less -/
theorem take_get (m i : Nat) (hi : i < m) (bn : List BN) : (bn.take m)[i]! = bn[i]! := by
  by_cases h : i < bn.length
  · rw [getElem!_pos _ i (by rw [List.length_take]; omega), getElem!_pos bn i h, List.getElem_take]
  · rw [getElem!_neg _ i (by rw [List.length_take]; omega), getElem!_neg bn i h]
theorem TaskN.less (hT : TaskN vn bn) (m : Nat) : TaskN vn (bn.take m) := by
  have hl : ∀ i, i < (bn.take m).length → i < m ∧ i < bn.length := fun i hi => by rw [List.length_take] at hi; omega
  refine ⟨hT.house, hT.some, by rw [List.length_take]; have := hT.few; omega, fun i hi => ?_, fun i hi => ?_, fun i hi => ?_⟩
  · rw [take_get m i (hl i hi).1]; exact hT.rdy i (hl i hi).2
  · rw [take_get m i (hl i hi).1]; exact hT.len i (hl i hi).2
  · rw [take_get m i (hl i hi).1]; exact hT.tm i (hl i hi).2
theorem FeasF.less {e : Nat} {f : Nat → Nat} (h : FeasF vn bn e n f) {m : Nat} (hm : m ≤ n) : FeasF vn (bn.take m) e m f := by
  refine ⟨fun i hi => by rw [take_get m i hi]; exact h.inr i (by omega), fun j hj t => Nat.le_trans ?_ (h.cnt j hj t)⟩
  unfold cntF
  have e1 : (List.range m).countP (fun i => inN (bn.take m)[i]! (f i) j t) = (List.range m).countP (fun i => inN bn[i]! (f i) j t) := List.countP_congr fun i hi => by
    rw [take_get m i (List.mem_range.1 hi)]
  rw [e1]
  exact List.Sublist.countP_le (List.range_sublist.2 hm)
end
/-! ### all batches later -/
def laterN (bn : List BN) (d : Nat) : List BN := bn.map fun b => ⟨b.rdy + d, b.tm⟩
theorem laterN_len (bn : List BN) (d : Nat) : (laterN bn d).length = bn.length := by simp [laterN]
theorem laterN_at {bn : List BN} {i : Nat} (d : Nat) (hi : i < bn.length) : (laterN bn d)[i]! = ⟨bn[i]!.rdy + d, bn[i]!.tm⟩ := by
  rw [getElem!_pos _ i (by simpa [laterN] using hi), getElem!_pos bn i hi]
  simp [laterN]
theorem inN_later (b : BN) (s d k t : Nat) : inN ⟨b.rdy + d, b.tm⟩ (s + d) k (t + d) = inN b s k t := by
  unfold inN begN
  congr 1
  congr 1
  · exact decide_eq_decide.2 (by show s + d + (b.tm.take k).sum ≤ t + d ↔ s + (b.tm.take k).sum ≤ t; omega)
  · exact decide_eq_decide.2 (by show t + d < s + d + (b.tm.take (k + 1)).sum ↔ t < s + (b.tm.take (k + 1)).sum; omega)
theorem inN_early (b : BN) (s d k t : Nat) (h : t < s) : inN b s k t = false := by
  unfold inN
  rw [decide_eq_false (show ¬ s + begN b k ≤ t by omega)]
  simp
section
variable {vn : List Nat} {bn : List BN} {n : Nat}
theorem cnt_later (hl : bn.length = n) (f g : Nat → Nat) (d k : Nat) (hg : ∀ i, i < n → g i = f i + d) (t : Nat) : cntF (laterN bn d) g (List.range n) k (t + d) = cntF bn f (List.range n) k t := by
  refine List.countP_congr fun i hi => ?_
  have hi := List.mem_range.1 hi
  rw [laterN_at d (by omega), hg i hi, inN_later]
theorem FeasF.later {e : Nat} {f : Nat → Nat} (hl : bn.length = n) (h : FeasF vn bn e n f) (d : Nat) : FeasF vn (laterN bn d) (e + d) n (fun i => f i + d) := by
  refine ⟨fun i hi => ?_, fun k hk t => ?_⟩
  · rw [laterN_at d (by omega)]
    obtain ⟨h1, h2⟩ := h.inr i hi
    refine ⟨by show bn[i]!.rdy + d ≤ f i + d; omega, ?_⟩
    show f i + d + durN bn[i]! ≤ e + d
    omega
  · rcases Nat.lt_or_ge t d with ht | ht
    · have : cntF (laterN bn d) (fun i => f i + d) (List.range n) k t = 0 := by
        refine List.countP_eq_zero.2 fun i hi => ?_
        rw [inN_early _ (f i + d) 0 k t (by omega)]
        decide
      omega
    · have := h.cnt k hk (t - d)
      rw [← cnt_later hl f (fun i => f i + d) d k (fun i _ => rfl) (t - d), Nat.sub_add_cancel ht] at this
      exact this
theorem FeasF.sooner {e d : Nat} {g : Nat → Nat} (hl : bn.length = n) (hn : 0 < n) (h : FeasF vn (laterN bn d) e n g) : d ≤ e ∧ FeasF vn bn (e - d) n (fun i => g i - d) ∧ ∀ i, i < n → d ≤ g i := by
  have hd : ∀ i, i < n → d ≤ g i ∧ bn[i]!.rdy + d ≤ g i ∧ g i + durN bn[i]! ≤ e := fun i hi => by
    obtain ⟨h1, h2⟩ := h.inr i hi
    rw [laterN_at d (by omega)] at h1 h2
    have h1 : bn[i]!.rdy + d ≤ g i := h1
    have h2 : g i + durN bn[i]! ≤ e := h2
    omega
  refine ⟨by have := hd 0 hn; omega, ⟨fun i hi => ?_, fun k hk t => ?_⟩, fun i hi => (hd i hi).1⟩
  · have := hd i hi
    exact ⟨by show bn[i]!.rdy ≤ g i - d; omega, by show g i - d + durN bn[i]! ≤ e - d; omega⟩
  · have := h.cnt k hk (t + d)
    rw [cnt_later hl (fun i => g i - d) g d k (fun i hi => by have := hd i hi; omega) t] at this
    exact this
end
/-! ### the best schedule of later batches -/
theorem leLex_antisymm : ∀ a b : List Nat, a.length = b.length → leLex a b → leLex b a → a = b
  | [], [], _, _, _ => rfl
  | [], _ :: _, h, _, _ => by cases h
  | _ :: _, [], h, _, _ => by cases h
  | x :: a, y :: b, h, h1, h2 => by
    rcases h1 with h1 | ⟨rfl, h1⟩
    · rcases h2 with h2 | ⟨rfl, _⟩
      · omega
      · omega
    · rcases h2 with h2 | ⟨_, h2⟩
      · omega
      · rw [leLex_antisymm a b (by simpa using h) h1 h2]
theorem leLex_add (d : Nat) : ∀ a b : List Nat, leLex a b → leLex (a.map (· + d)) (b.map (· + d))
  | [], [], _ => trivial
  | [], _ :: _, _ => trivial
  | _ :: _, [], _ => trivial
  | x :: a, y :: b, h => by
    rcases h with h | ⟨rfl, h⟩
    · exact .inl (by show x + d < y + d; omega)
    · exact .inr ⟨rfl, leLex_add d a b h⟩
theorem range_get (ss : List Nat) (n : Nat) (h : ss.length = n) : (List.range n).map (fun i => ss[i]!) = ss := by
  refine List.ext_getElem (by simp [h]) fun i h1 h2 => ?_
  rw [List.getElem_map, List.getElem_range, getElem!_pos ss i h2]
section
variable {vn : List Nat} {bn : List BN} {n d en en2 : Nat} {ss ss2 : List Nat}
theorem TrueN.later (hl : bn.length = n) (hn : 0 < n) (t1 : TrueN vn bn n en ss) (t2 : TrueN vn (laterN bn d) n en2 ss2) : en2 = en + d ∧ ss2 = ss.map (· + d) := by
  obtain ⟨h1, h2, h3⟩ := t2.feas.sooner hl hn
  have h4 := t1.feas.later hl d
  have e1 : ¬ en2 - d < en := fun c => t1.least _ _ c h2
  have e2 : ¬ en + d < en2 := fun c => t2.least _ _ c h4
  have e : en2 = en + d := by omega
  refine ⟨e, ?_⟩
  subst e
  rw [Nat.add_sub_cancel] at h2
  have k1 := t1.lex _ h2
  have k2 := t2.lex _ h4
  have f1 : (List.range n).map (fun i => ss[i]! + d) = ss.map (· + d) := by
    conv => rhs; rw [← range_get ss n t1.len, List.map_map]
    exact List.map_congr_left fun i hi => rfl
  have f2 : ((List.range n).map (fun i => ss2[i]! - d)).map (· + d) = ss2 := by
    rw [List.map_map]
    refine Eq.trans (List.map_congr_left fun i hi => ?_) (range_get ss2 n t2.len)
    have := h3 i (List.mem_range.1 hi)
    show ss2[i]! - d + d = ss2[i]!
    omega
  rw [f1] at k2
  have k3 := leLex_add d _ _ k1
  rw [f2] at k3
  exact leLex_antisymm _ _ (by rw [List.length_map, t1.len, t2.len]) k2 k3
theorem map_add_get (ss : List Nat) (d i : Nat) (h : i < ss.length) : (ss.map (· + d))[i]! = ss[i]! + d := by
  rw [getElem!_pos _ i (by simpa using h), getElem!_pos ss i h, List.getElem_map]
theorem stage_later (hl : bn.length = n) (hs : ss.length = n) (k : Nat) : stageN vn (laterN bn d) (ss.map (· + d)) n k = stageN vn bn ss n k := by
  have hv : ∀ i, i < n → (visN (laterN bn d) (ss.map (· + d)) n k)[i]! = ((visN bn ss n k)[i]!.1 + d, (visN bn ss n k)[i]!.2 + d) := fun i hi => by
    rw [visN_at _ _ n k i hi, visN_at _ _ n k i hi]
    unfold visA
    rw [laterN_at d (by omega), map_add_get ss d i (by omega)]
    have e : ∀ j, begN ⟨bn[i]!.rdy + d, bn[i]!.tm⟩ j = begN bn[i]! j := fun j => rfl
    rw [e, e]
    refine Prod.ext ?_ ?_
    · show ss[i]! + d + _ = ss[i]! + _ + d; omega
    · show ss[i]! + d + _ = ss[i]! + _ + d; omega
  unfold stageN
  have e1 : sortR (begK (visN (laterN bn d) (ss.map (· + d)) n k)) n = sortR (begK (visN bn ss n k)) n := sortR_congr _ _ n fun i hi j hj => by
    unfold begK
    rw [hv i hi, hv j hj]
    constructor
    · intro h
      have h : (((visN bn ss n k)[i]!.1 + d : Nat) : Int) < (((visN bn ss n k)[j]!.1 + d : Nat) : Int) := h
      omega
    · intro h
      show (((visN bn ss n k)[i]!.1 + d : Nat) : Int) < (((visN bn ss n k)[j]!.1 + d : Nat) : Int)
      omega
  rw [e1]
  refine ff_later d _ _ _ _ _ _ rfl (fun v hv2 => ?_) (fun i hi => ?_)
  · have : (List.replicate vn[k]! 0)[v]! = 0 := by
      rw [getElem!_pos _ v hv2, List.getElem_replicate]
    exact .inr ⟨this, this⟩
  · have hi : i < n := (sortR_mem _ n i).1 hi
    rw [hv i hi]
    exact ⟨rfl, rfl⟩
theorem rowsB_congr {c1 c2 : Nat → List Nat} (n vl : Nat) (h : ∀ k, k < vl → c1 k = c2 k) : rowsB c1 n vl = rowsB c2 n vl := by
  unfold rowsB
  refine List.map_congr_left fun i _ => ?_
  unfold rowG
  congr 1
  refine List.map_congr_left fun s hs => ?_
  rw [h s (List.mem_range.1 hs)]
theorem BestN.later {col col2 : Nat → List Nat} (hT : TaskN vn bn) (hT2 : TaskN vn (laterN bn d)) (hl : bn.length = n) (hn : 0 < n) (b1 : BestN vn bn n en ss col) (b2 : BestN vn (laterN bn d) n en2 ss2 col2) : en2 = en + d ∧ ss2 = ss.map (· + d) ∧ rowsB col2 n vn.length = rowsB col n vn.length := by
  have t1 := b1.truth hT hl
  have t2 := b2.truth hT2 (by rw [laterN_len]; exact hl)
  obtain ⟨h1, h2⟩ := t1.later hl hn t2
  refine ⟨h1, h2, rowsB_congr n vn.length fun k hk => ?_⟩
  have k1 := b1.col k hk
  have k2 := b2.col k hk
  rw [h2, stage_later hl t1.len, k1] at k2
  exact (Option.some.inj k2).symm
theorem later_none {col : Nat → List Nat} (hT : TaskN vn bn) (hT2 : TaskN vn (laterN bn d)) (hl : bn.length = n) (b1 : BestN vn bn n en ss col) (h2 : NoneN vn (laterN bn d) n) : 30 < en + d := by
  rcases Nat.lt_or_ge 30 (en + d) with h | h
  · exact h
  · exact absurd ((b1.truth hT hl).feas.later hl d) (none_truth hT2 (by rw [laterN_len]; exact hl) h2 _ _ h)
theorem none_later {col : Nat → List Nat} (hT : TaskN vn bn) (hT2 : TaskN vn (laterN bn d)) (hl : bn.length = n) (hn : 0 < n) (h1 : NoneN vn bn n) (b2 : BestN vn (laterN bn d) n en2 ss2 col) : False := by
  have := b2.le
  exact none_truth hT hl h1 _ _ (by omega) ((b2.truth hT2 (by rw [laterN_len]; exact hl)).feas.sooner hl hn).2.1
end
end Go.Proofs.YtbidadkcdchomaaDoor

/- PlanMore, at any house and batches in memory. (By gen_pmorew.py.) -/
set_option linter.unusedVariables false
set_option linter.unusedSimpArgs false
namespace Go.Proofs.YtbidadkcdchomaaDoor
open Go.RowKit

theorem own_cell {w : World} {base e g cap n : Nat} {vn : List Nat} (h : OwnI w base e (.slice (some ⟨g, 0, none⟩) n cap) n (vI vn)) {k : Nat} (hk : k < n) : w.cell? ⟨g, k, none⟩ = some (.int .i64 ((vn[k]! : Nat) : Int)) := by
  have hl := h.len
  rw [vI_len] at hl
  rw [World.ownsRow.cellAt h k (by omega), getElem!_pos vn k (by omega)]
  unfold vI
  rw [List.getElem?_map, List.getElem?_map, List.getElem?_eq_getElem (show k < vn.length by omega)]
  rfl
theorem own_store {w : World} {base e g cap n : Nat} {vn : List Nat} (h : OwnI w base e (.slice (some ⟨g, 0, none⟩) n cap) n (vI vn)) (k x : Nat) : OwnI (w.setCell ⟨g, k, none⟩ (.int .i64 (x : Int))) base e (.slice (some ⟨g, 0, none⟩) n cap) n (vI (vn.set k x)) := by
  have := (World.ownsRow.stored h k (.int .i64 (x : Int))).1
  unfold OwnI vI at *
  rw [List.map_set, List.map_set]
  exact this
theorem own_il {w : World} {base e g cap n : Nat} {xs : List Int} (h : OwnI w base e (.slice (some ⟨g, 0, none⟩) n cap) n xs) : Il w (some ⟨g, 0, none⟩) n xs := by
  obtain ⟨ao, c, e, _, _, hi⟩ := h.il
  cases e
  exact hi
theorem Bats.less {w : World} {ba : Option Addr} {bl : Nat} {bn : List BN} (h : Bats w ba bl (bn.map bI)) (m : Nat) (hm : m ≤ bl) : Bats w ba m ((bn.take m).map bI) := by
  have hl := few_bats h
  obtain ⟨h1, g, o, h2, h3⟩ := h
  refine ⟨by rw [List.length_map, List.length_take]; omega, g, o, fun h0 => h2 (by omega), fun i hi => ?_⟩
  have := h3 i (by omega)
  rw [bI_at (by omega)] at this
  rw [bI_at (by rw [List.length_take]; omega), take_get m i hi]
  exact this
theorem TaskN.taskP {vn : List Nat} {bn : List BN} (h : TaskN vn bn) : TaskP (vI vn) (bn.map bI) := by
  refine ⟨⟨by rw [vI_len]; exact h.some, by rw [vI_len]; exact h.house.few, fun j hj => ?_⟩, by rw [List.length_map]; exact h.few, fun i hi => ?_⟩
  · rw [vI_len] at hj
    have := h.house.one j hj
    rw [vI_get]
    omega
  · rw [List.length_map] at hi
    rw [bI_at hi]
    refine ⟨Int.natCast_nonneg _, by have := h.rdy i hi; show (bn[i]!.rdy : Int) ≤ 30; omega, by rw [vI_len]; show (vI bn[i]!.tm).length = _; rw [vI_len]; exact h.len i hi, fun j hj => ?_⟩
    have hj : j < (vI bn[i]!.tm).length := hj
    rw [vI_len] at hj
    have := h.tm i hi j (by rw [← h.len i hi]; exact hj)
    show 1 ≤ (vI bn[i]!.tm)[j]?.getD 0 ∧ (vI bn[i]!.tm)[j]?.getD 0 ≤ 30
    rw [vI_get]
    omega
theorem OutB.some {vs : List Int} {bs : List Bt} {bl : Nat} {W w' : World} {e : Ending} (h : OutB vs bs bl W e w') : ∃ (z err : Int) (sa : Option Addr) (sl sc : Nat) (ya : Option Addr) (yl yc : Nat), e = .returned (.tuple #[.agg #[.int .i64 z, .slice sa sl sc, .slice ya yl yc], .int .i64 err]) ∧ Below W.heap.size W w' := by
  obtain ⟨hb, ⟨_, rfl⟩ | ⟨_, vn, bn, _, _, _, ⟨_, rfl⟩ | ⟨en, ss, col, sa, sc, ya, _, rfl, _, _⟩⟩⟩ := h
  · exact ⟨0, 2, none, 0, 0, none, 0, 0, rfl, hb⟩
  · exact ⟨0, 40, none, 0, 0, none, 0, 0, rfl, hb⟩
  · exact ⟨en, 0, sa, bl, sc, ya, bl, bl, rfl, hb⟩
set_option maxRecDepth 100000 in
set_option maxHeartbeats 8000000 in
theorem more_walk (vs : List Int) (bs : List Bt) (st : Nat) (va : Option Addr) (vl vc : Nat) (ba : Option Addr) (bl bc : Nat) (W : World)
    (hv : Il W va vl vs) (hb : Bats W ba bl bs) (hN : NowM W) (hvl : vl ≤ 9223372036854775807) (hbl : bl ≤ 9223372036854775807) (hbc : bl ≤ bc) (hst : st ≤ 255) :
    Calls Tryd.prog 6 #[.slice va vl vc, .slice ba bl bc, .int .u8 (st : Int)] W (YesL W) := by
  have HVI := Lib.hid hv
  have HBB := Lib.hid hb
  have HNN := Lib.hid hN
  clear hv hb hN
  go_enter Tryd.func6, Tryd.ntmps6
  go_upto_region 1 with fail
  go_wp2_with fail
  refine (few_any va vl vc ba bl bc bs W HBB.out).mono ?_
  rintro e w1 ⟨b, rfl, hb1⟩
  have HB1 := Lib.hid hb1
  clear hb1
  cases b with
  | false =>
    have PA := Lib.hid (awake_any w1 (HNN.out.keep HB1.out))
    go_wp2_with (go_at_call 9; refine PA.out.mono ?_; rintro e wz ⟨rfl, hbz⟩; have HBZ := Lib.hid (below_then HB1.out hbz); clear hbz)
    go_ret
    exact ⟨rfl, HBZ.out⟩
  | true =>
    go_wp2_with fail
    refine (task_any va vl vc ba bl bc vs bs w1 (HVI.out.keep HB1.out) (HBB.out.keep HB1.out) hvl hbl).mono ?_
    rintro e w3 ⟨⟨ht, rfl⟩ | ⟨ht, rfl⟩, hb3⟩
    · have HB3 := Lib.hid (below_then HB1.out hb3)
      obtain ⟨vn, bn, rfl, rfl, hT⟩ := task_nat ht
      have HTP := Lib.hid ht
      have HT := Lib.hid hT
      have HL := Lib.hid (few_bats HBB.out)
      clear hb3 ht hT
      go_wp2_with fail
      refine (work_any ba bl bc w3 (HBB.out.keep HB3.out) HT.out).mono ?_
      rintro e w4 ⟨wk, rfl, hb4⟩
      have HB4 := Lib.hid (below_then HB3.out hb4)
      clear hb4
      by_cases hwk : (100000 : Int) < wk
      · skip
        have PA := Lib.hid (awake_any w4 (HNN.out.keep HB4.out))
        go_wp2_with (go_at_call 9; refine PA.out.mono ?_; rintro e wz ⟨rfl, hbz⟩; have HBZ := Lib.hid (below_then HB4.out hbz); clear hbz)
        go_ret
        exact ⟨rfl, HBZ.out⟩
      · have hlv : vn.length = vl := by have := HVI.out.len; rwa [vI_len] at this
        have HLV := Lib.hid hlv
        have hv3 : vl ≤ 3 := by have := HT.out.house.few; omega
        have hv1 : 1 ≤ vl := by have := HT.out.some; omega
        have u0 : ¬ (vl : Int) = 0 := by omega
        obtain ⟨k, hk⟩ : ∃ k, k = st % vl := ⟨_, rfl⟩
        have hkl : k < vl := by rw [hk]; exact Nat.mod_lt _ (by omega)
        have hkm : (st : Int) % (vl : Int) = (k : Int) := by rw [hk]; exact (Int.natCast_emod _ _).symm
        have hx1 := HT.out.house.one k (by omega)
        have u1 : (0 : Int) ≤ (k : Int) := by omega
        have u2 : (k : Int) < (vl : Int) := by omega
        clear hlv hk
        go_upto_region 4 with fail
        rw [hkm]
        have GB := Lib.hid ((Below.refl w4.heap.size w4).alloc (Nat.le_refl _) (.cells #[] 3))
        have HI := Lib.hid ((HVI.out.keep HB4.out).keep GB.out)
        go_upto_region 5 with (at_builtin; refine wpList_appRow rfl _ _ 22 rfl w4.heap.size 3 8 Tryd.underlying22 (by kernel_rfl) _ 0 [] rfl (own_empty w4) _ vl vc (vI vn) rfl HI.out (by omega) (by omega) (by omega) GB.out.size ?_; intro v' w5 hown' hbel'; rw [List.nil_append, Nat.zero_add] at hown'; obtain ⟨g, cap, rfl, hg1, hg2⟩ := World.ownsRow.form hown' hv1; have HO5 := Lib.hid hown'; have HB5 := Lib.hid (GB.out.trans hbel'); have c0 := own_cell hown' hkl; have f0 := World.ownsRow.frozenAt hown' k; clear hown' hbel')
        have HPX : Hid ((plusV vn k) = vn.set k (vn[k]! + 1)) := Lib.hid rfl
        have HX1 := Lib.hid (plusV_len vn k)
        obtain ⟨x, hx⟩ : ∃ x, x = vn[k]! := ⟨_, rfl⟩
        rw [← hx] at c0 hx1
        have HX := Lib.hid hx
        clear hx
        go_upto_region 6 with fail
        have hx2 : ((x + 1 : Nat) : Int) = (x : Int) + 1 := by omega
        obtain ⟨w6, hw6⟩ : ∃ w6, w6 = w5.setCell ⟨g, k, none⟩ (.int .i64 ((x : Int) + 1)) := ⟨_, rfl⟩
        have HO6 : Hid (OwnI w6 w4.heap.size 3 (.slice (some ⟨g, 0, none⟩) vl cap) vl (vI (plusV vn k))) := Lib.hid (by rw [hw6, HPX.out, ← HX.out, ← hx2]; exact own_store HO5.out k (x + 1))
        have HB6 : Hid (Below W.heap.size W w6) := Lib.hid (by rw [hw6]; exact (below_then HB4.out HB5.out).setCell (by have := HB4.out.size; show W.heap.size ≤ g; omega) _)
        have c6 : w6.cell? ⟨g, k, none⟩ = some (.int .i64 ((x : Int) + 1)) := by
          rw [own_cell HO6.out hkl, HPX.out, get_set_eq _ _ _ (by rw [HLV.out]; exact hkl), ← HX.out, hx2]
        have HI6 := Lib.hid (own_il HO6.out)
        rw [← hw6]
        clear hw6 c0 f0
        have HLEN : bn.length = bl := HL.out
        have PA1 := Lib.hid (best_any (vI vn) (bn.map bI) va vl vc ba bl bc w6 (HVI.out.keep HB6.out) (HBB.out.keep HB6.out) (HNN.out.keep HB6.out) hvl (hbl) (fun vn' bn' h1 h2 h3 => has_best h3 (by rw [← bI_inj h2]; exact HLEN)))
        go_wp2_with fail
        refine PA1.out.mono ?_
        rintro e w7 ⟨hb7, ⟨hn, _⟩ | ⟨_, vn', bn', h1, h2, _, ho⟩⟩
        · exact absurd HTP.out hn
        obtain rfl := vI_inj h1
        obtain rfl := bI_inj h2
        rcases ho with ⟨hno, rfl⟩ | ⟨en, ss, col, sa, sc, ya, hbest, rfl, hss, hrows⟩
        · obtain ⟨w8, hw8⟩ : ∃ w8, w8 = w7.alloc (.cells #[.int .i64 0, .slice none 0 0, .slice none 0 0] 28) := ⟨_, rfl⟩
          have HB8 : Hid (Below W.heap.size W w8) := Lib.hid (by rw [hw8]; exact below_then HB6.out (below_then hb7 (box_below w7 _)))
          clear hb7 hno h1 h2
          go_upto_region 7 with fail
          rw [← hw8]
          clear hw8
          go_upto_region 11 with fail
          by_cases h0 : bl = 0
          · have v0 : (bl : Int) = 0 := by omega
            have PA := Lib.hid (awake_any w8 (HNN.out.keep HB8.out))
            go_wp2_with (go_at_call 9; refine PA.out.mono ?_; rintro e wz ⟨rfl, hbz⟩; have HBZ := Lib.hid (below_then HB8.out hbz); clear hbz)
            go_ret
            exact ⟨rfl, HBZ.out⟩
          · have v0 : ¬ (bl : Int) = 0 := by omega
            obtain ⟨m, rfl⟩ : ∃ m, bl = m + 1 := ⟨bl - 1, by omega⟩
            obtain ⟨gB, oB, _, _, _, rfl, _⟩ := HBB.out.at (i := 0) (by omega)
            have v1 : (0 : Int) ≤ (m : Int) := by omega
            have v2 : (m : Int) ≤ (bc : Int) := by omega
            have HBL := Lib.hid ((HBB.out.keep HB8.out).less m (by omega))
            have HLEN : (bn.take m).length = m := by rw [List.length_take, HL.out]; omega
            have PC := Lib.hid (best_any (vI vn) ((bn.take m).map bI) va vl vc (some ⟨gB, oB, none⟩) m bc w8 (HVI.out.keep HB8.out) HBL.out (HNN.out.keep HB8.out) hvl (by omega) (fun vn' bn' h1 h2 h3 => has_best h3 (by rw [← bI_inj h2]; exact HLEN)))
            have HLEN := Lib.hid HLEN
            go_upto_region 13 with fail
            go_wp2_with fail
            refine PC.out.mono ?_
            intro e wx ho
            obtain ⟨z, err, sa', sl', sc', ya', yl', yc', rfl, hbx⟩ := ho.some
            have HBX := Lib.hid (below_then HB8.out (below_then hbx (box_below wx (.cells #[.int .i64 z, .slice sa' sl' sc', .slice ya' yl' yc'] 28))))
            clear ho hbx
            go_upto_region 14 with fail
            have PA := Lib.hid (awake_any _ (HNN.out.keep HBX.out))
            go_wp2_with (go_at_call 9; refine PA.out.mono ?_; rintro e wz ⟨rfl, hbz⟩; have HBZ := Lib.hid (below_then HBX.out hbz); clear hbz)
            go_ret
            exact ⟨rfl, HBZ.out⟩
        · have HT1 := Lib.hid (hbest.truth HT.out HL.out)
          have HFP := Lib.hid (hbest.feasP HT.out HL.out)
          have hen : en ≤ 30 := hbest.le
          obtain ⟨w8, hw8⟩ : ∃ w8, w8 = w7.alloc (.cells #[.int .i64 (en : Int), .slice sa bl sc, .slice ya bl bl] 28) := ⟨_, rfl⟩
          have HB68 : Hid (Below w6.heap.size w6 w8) := Lib.hid (by rw [hw8]; exact below_then hb7 (box_below w7 _))
          have HB8 := Lib.hid (below_then HB6.out HB68.out)
          have RAw8 : Hid (w8.heap[w7.heap.size]? = some (.cells #[.int .i64 (en : Int), .slice sa bl sc, .slice ya bl bl] 28 (0, 0))) := Lib.hid (by rw [hw8]; exact new_row w7 _)
          have HS8 : Hid (Il w8 sa bl (vI ss)) := Lib.hid (by rw [hw8]; exact hss.keep (box_below w7 _))
          have HY8 : Hid (Rows2 w8 ya bl (rowsB col bl vn.length)) := Lib.hid (by rw [hw8]; exact hrows.keep (box_below w7 _))
          have c8 := cell_later HB68.out c6
          clear hb7 hbest hss hrows h1 h2 c6
          go_upto_region 7 with fail
          rw [← hw8]
          clear hw8
          by_cases hx8 : x + 1 ≤ 8
          · have w1' : (x : Int) + 1 ≤ 8 := by omega
            have HTM := Lib.hid (HT.out.more (k := k) (by rw [HLV.out]; exact hkl) (by rw [← HX.out]; exact hx8))
            have PB := Lib.hid (best_any (vI (plusV vn k)) (bn.map bI) (some ⟨g, 0, none⟩) vl cap ba bl bc w8 (HI6.out.keep HB68.out) (HBB.out.keep HB8.out) (HNN.out.keep HB8.out) hvl hbl (fun vn' bn' h1 h2 h3 => has_best h3 (by rw [← bI_inj h2]; exact HLEN)))
            go_upto_region 8 with fail
            go_wp2_with fail
            refine PB.out.mono ?_
            rintro e w9 ⟨hb9, ⟨hn, _⟩ | ⟨_, vn', bn', h1, h2, _, ho⟩⟩
            · exact absurd (HTM.out.taskP) hn
            have hvn := vI_inj h1
            subst hvn
            obtain rfl := bI_inj h2
            rcases ho with ⟨hno, rfl⟩ | ⟨en2, ss2, col2, sa2, sc2, ya2, hbest2, rfl, hss2, hrows2⟩
            · exact absurd (HT1.out.feas.more k) (none_truth HTM.out HL.out hno _ _ hen)
            · have hle2 : en2 ≤ en := by
                rcases Nat.lt_or_ge en en2 with g1 | g1
                · exact absurd (HT1.out.feas.more k) ((hbest2.truth HTM.out HL.out).least _ _ g1)
                · exact g1
              have v4 : ¬ (en : Int) < (en2 : Int) := by omega
              obtain ⟨w10, hw10⟩ : ∃ w10, w10 = w9.alloc (.cells #[.int .i64 (en2 : Int), .slice sa2 bl sc2, .slice ya2 bl bl] 28) := ⟨_, rfl⟩
              have HB810 : Hid (Below w8.heap.size w8 w10) := Lib.hid (by rw [hw10]; exact below_then hb9 (box_below w9 _))
              have HB10 := Lib.hid (below_then HB8.out HB810.out)
              have R10 : Hid (w10.heap[w9.heap.size]? = some (.cells #[.int .i64 (en2 : Int), .slice sa2 bl sc2, .slice ya2 bl bl] 28 (0, 0))) := Lib.hid (by rw [hw10]; exact new_row w9 _)
              have RAw10 := Lib.hid (row_keep HB810.out RAw8.out)
              obtain ⟨a0, a1, a2⟩ := cells3 RAw10.out
              clear hb9 hbest2 hss2 hrows2 h1 h2
              go_upto_region 9 with fail
              rw [← hw10]
              clear hw10
              go_wp2_with fail
              refine (check_any (vI (plusV vn k)) (bn.map bI) (en : Int) (some ⟨g, 0, none⟩) vl cap ba bl bc sa bl sc (vI ss) ya bl bl (rowsB col bl vn.length) w10 (HI6.out.keep (below_then HB68.out HB810.out)) (HBB.out.keep HB10.out) (HS8.out.keep HB810.out) (HY8.out.keep HB810.out) hvl hbl hbl hbl).mono ?_
              rintro e w11 ⟨z, rfl, hR, hb11⟩
              have HB11 := Lib.hid (below_then HB10.out hb11)
              have RAw11 := Lib.hid (row_keep hb11 RAw10.out)
              obtain ⟨a0, a1, a2⟩ := cells3 RAw11.out
              obtain ⟨e0, e1, e2⟩ := cells3 (row_keep hb11 R10.out)
              rcases hR with ⟨h, _⟩ | ⟨_, vn', bn', h1, h2, _, ⟨hg, rfl⟩ | ⟨hg, rfl⟩⟩
              · exact absurd (HTM.out.taskP) h
              · clear hb11 hg h1 h2
                go_upto_region 11 with fail
                by_cases h0 : bl = 0
                · have v0 : (bl : Int) = 0 := by omega
                  have PA := Lib.hid (awake_any w11 (HNN.out.keep HB11.out))
                  go_wp2_with (go_at_call 9; refine PA.out.mono ?_; rintro e wz ⟨rfl, hbz⟩; have HBZ := Lib.hid (below_then HB11.out hbz); clear hbz)
                  go_ret
                  exact ⟨rfl, HBZ.out⟩
                · have v0 : ¬ (bl : Int) = 0 := by omega
                  obtain ⟨m, rfl⟩ : ∃ m, bl = m + 1 := ⟨bl - 1, by omega⟩
                  obtain ⟨gB, oB, _, _, _, rfl, _⟩ := HBB.out.at (i := 0) (by omega)
                  have v1 : (0 : Int) ≤ (m : Int) := by omega
                  have v2 : (m : Int) ≤ (bc : Int) := by omega
                  have HBL := Lib.hid ((HBB.out.keep HB11.out).less m (by omega))
                  have HLEN : (bn.take m).length = m := by rw [List.length_take, HL.out]; omega
                  have PC := Lib.hid (best_any (vI vn) ((bn.take m).map bI) va vl vc (some ⟨gB, oB, none⟩) m bc w11 (HVI.out.keep HB11.out) HBL.out (HNN.out.keep HB11.out) hvl (by omega) (fun vn' bn' h1 h2 h3 => has_best h3 (by rw [← bI_inj h2]; exact HLEN)))
                  have HLEN := Lib.hid HLEN
                  go_upto_region 13 with fail
                  go_wp2_with fail
                  refine PC.out.mono ?_
                  rintro e wx ⟨hbx, ⟨hn, _⟩ | ⟨_, vn', bn', h1, h2, _, ho⟩⟩
                  · exact absurd ((HT.out.less m).taskP) hn
                  obtain rfl := vI_inj h1
                  have hbn := bI_inj h2
                  subst hbn
                  rcases ho with ⟨hno, rfl⟩ | ⟨en3, ss3, col3, sa3, sc3, ya3, hbest3, rfl, hss3, hrows3⟩
                  · exact absurd (HT1.out.feas.less (Nat.le_succ m)) (none_truth (HT.out.less m) HLEN.out hno _ _ hen)
                  · have hle3 : en3 ≤ en := by
                      rcases Nat.lt_or_ge en en3 with g1 | g1
                      · exact absurd (HT1.out.feas.less (Nat.le_succ m)) ((hbest3.truth (HT.out.less m) HLEN.out).least _ _ g1)
                      · exact g1
                    have v3 : ¬ (en : Int) < (en3 : Int) := by omega
                    obtain ⟨wy, hwy⟩ : ∃ wy, wy = wx.alloc (.cells #[.int .i64 (en3 : Int), .slice sa3 m sc3, .slice ya3 m m] 28) := ⟨_, rfl⟩
                    have HBy : Hid (Below w11.heap.size w11 wy) := Lib.hid (by rw [hwy]; exact below_then hbx (box_below wx _))
                    have HBX := Lib.hid (below_then HB11.out HBy.out)
                    have RY : wy.heap[wx.heap.size]? = some (.cells #[.int .i64 (en3 : Int), .slice sa3 m sc3, .slice ya3 m m] 28 (0, 0)) := by rw [hwy]; exact new_row wx _
                    obtain ⟨y0, y1, y2⟩ := cells3 RY
                    obtain ⟨a0, a1, a2⟩ := cells3 (row_keep HBy.out RAw11.out)
                    clear hbx hbest3 hss3 hrows3 h1 h2 RY
                    go_upto_region 14 with fail
                    rw [← hwy]
                    clear hwy
                    have PA := Lib.hid (awake_any wy (HNN.out.keep HBX.out))
                    go_wp2_with (go_at_call 9; refine PA.out.mono ?_; rintro e wz ⟨rfl, hbz⟩; have HBZ := Lib.hid (below_then HBX.out hbz); clear hbz)
                    go_ret
                    exact ⟨rfl, HBZ.out⟩
              · have hvn := vI_inj h1
                subst hvn
                obtain rfl := bI_inj h2
                exact absurd (HFP.out.more k) hg
          · have w1' : ¬ (x : Int) + 1 ≤ 8 := by omega
            go_upto_region 11 with fail
            by_cases h0 : bl = 0
            · have v0 : (bl : Int) = 0 := by omega
              have PA := Lib.hid (awake_any w8 (HNN.out.keep HB8.out))
              go_wp2_with (go_at_call 9; refine PA.out.mono ?_; rintro e wz ⟨rfl, hbz⟩; have HBZ := Lib.hid (below_then HB8.out hbz); clear hbz)
              go_ret
              exact ⟨rfl, HBZ.out⟩
            · have v0 : ¬ (bl : Int) = 0 := by omega
              obtain ⟨m, rfl⟩ : ∃ m, bl = m + 1 := ⟨bl - 1, by omega⟩
              obtain ⟨gB, oB, _, _, _, rfl, _⟩ := HBB.out.at (i := 0) (by omega)
              have v1 : (0 : Int) ≤ (m : Int) := by omega
              have v2 : (m : Int) ≤ (bc : Int) := by omega
              have HBL := Lib.hid ((HBB.out.keep HB8.out).less m (by omega))
              have HLEN : (bn.take m).length = m := by rw [List.length_take, HL.out]; omega
              have PC := Lib.hid (best_any (vI vn) ((bn.take m).map bI) va vl vc (some ⟨gB, oB, none⟩) m bc w8 (HVI.out.keep HB8.out) HBL.out (HNN.out.keep HB8.out) hvl (by omega) (fun vn' bn' h1 h2 h3 => has_best h3 (by rw [← bI_inj h2]; exact HLEN)))
              have HLEN := Lib.hid HLEN
              go_upto_region 13 with fail
              go_wp2_with fail
              refine PC.out.mono ?_
              rintro e wx ⟨hbx, ⟨hn, _⟩ | ⟨_, vn', bn', h1, h2, _, ho⟩⟩
              · exact absurd ((HT.out.less m).taskP) hn
              obtain rfl := vI_inj h1
              have hbn := bI_inj h2
              subst hbn
              rcases ho with ⟨hno, rfl⟩ | ⟨en3, ss3, col3, sa3, sc3, ya3, hbest3, rfl, hss3, hrows3⟩
              · exact absurd (HT1.out.feas.less (Nat.le_succ m)) (none_truth (HT.out.less m) HLEN.out hno _ _ hen)
              · have hle3 : en3 ≤ en := by
                  rcases Nat.lt_or_ge en en3 with g1 | g1
                  · exact absurd (HT1.out.feas.less (Nat.le_succ m)) ((hbest3.truth (HT.out.less m) HLEN.out).least _ _ g1)
                  · exact g1
                have v3 : ¬ (en : Int) < (en3 : Int) := by omega
                obtain ⟨wy, hwy⟩ : ∃ wy, wy = wx.alloc (.cells #[.int .i64 (en3 : Int), .slice sa3 m sc3, .slice ya3 m m] 28) := ⟨_, rfl⟩
                have HBy : Hid (Below w8.heap.size w8 wy) := Lib.hid (by rw [hwy]; exact below_then hbx (box_below wx _))
                have HBX := Lib.hid (below_then HB8.out HBy.out)
                have RY : wy.heap[wx.heap.size]? = some (.cells #[.int .i64 (en3 : Int), .slice sa3 m sc3, .slice ya3 m m] 28 (0, 0)) := by rw [hwy]; exact new_row wx _
                obtain ⟨y0, y1, y2⟩ := cells3 RY
                obtain ⟨a0, a1, a2⟩ := cells3 (row_keep HBy.out RAw8.out)
                clear hbx hbest3 hss3 hrows3 h1 h2 RY
                go_upto_region 14 with fail
                rw [← hwy]
                clear hwy
                have PA := Lib.hid (awake_any wy (HNN.out.keep HBX.out))
                go_wp2_with (go_at_call 9; refine PA.out.mono ?_; rintro e wz ⟨rfl, hbz⟩; have HBZ := Lib.hid (below_then HBX.out hbz); clear hbz)
                go_ret
                exact ⟨rfl, HBZ.out⟩
    · have HB3 := Lib.hid (below_then HB1.out hb3)
      clear hb3 ht
      have PA := Lib.hid (awake_any w3 (HNN.out.keep HB3.out))
      go_wp2_with (go_at_call 9; refine PA.out.mono ?_; rintro e wz ⟨rfl, hbz⟩; have HBZ := Lib.hid (below_then HB3.out hbz); clear hbz)
      go_ret
      exact ⟨rfl, HBZ.out⟩
end Go.Proofs.YtbidadkcdchomaaDoor
