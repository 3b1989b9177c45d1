/- Part 15 of the contracts: RAsg. -/
import Derived.BigQuiet
import Derived.Deep.RegionHeld3
import Derived.OrdersHeld
import Derived.Test.YtbidadkcdchomaaDoorPart14

/- The document's Assign. (By gen_rasg.py.) -/
set_option linter.unusedVariables false
set_option linter.unusedSimpArgs false
namespace Go.Proofs.YtbidadkcdchomaaDoor
open Go.RowKit

/-- the rows that Assign returns, and true; or false, where some stage has too few vessels -/
def OutAsg (vn : List Nat) (bn : List BN) (ss : List Nat) (n vl : Nat) (W : World) (e : Ending) (w' : World) : Prop :=
  Below W.heap.size W w' ∧ ((∃ col, (∀ k, k < vl → stageN vn bn ss n k = some (col k)) ∧ e = .returned (.tuple #[.slice (some ⟨W.heap.size, 0, none⟩) n n, .bool true]) ∧ AsS W w' n vl n (rowG col vl vl 0)) ∨ ((∃ k, k < vl ∧ stageN vn bn ss n k = none) ∧ e = .returned (.tuple #[.slice none 0 0, .bool false])))

set_option maxRecDepth 100000 in
set_option maxHeartbeats 16000000 in
theorem asg_any (va : Option Addr) (vl vc : Nat) (ba : Option Addr) (n bc : Nat) (sa : Option Addr) (sc : Nat) (vn ss : List Nat) (bn : List BN) (W : World) (hv : Il W va vl (vI vn)) (hb : Bats W ba n (bn.map bI)) (hT : TaskN vn bn) (hs : Il W sa n (vI ss)) (hss : ∀ i, i < n → ss[i]! ≤ 30) :
    Calls Tryd.prog 32 #[.slice va vl vc, .slice ba n bc, .slice sa n sc] W (OutAsg vn bn ss n vl W) := by
  have hlb : bn.length = n := by have := hb.1; simpa using this
  have hlv : vn.length = vl := by have := hv.len; rwa [vI_len] at this
  have hls : ss.length = n := by have := hs.len; rwa [vI_len] at this
  have hv3 : vl ≤ 3 := by have := hT.house.few; omega
  have hb5 : n ≤ 5 := by have := hT.few; omega
  have HLB := Lib.hid hlb
  have HLV := Lib.hid hlv
  have HLS := Lib.hid hls
  have HVV := Lib.hid hv
  have HBB := Lib.hid hb
  have HTT := Lib.hid hT
  have HSS := Lib.hid hs
  have HS3 := Lib.hid hss
  obtain ⟨col, hcol⟩ : ∃ col : Nat → List Nat, col = fun s => (stageN vn bn ss n s).getD [] := ⟨_, rfl⟩
  have HCOL := Lib.hid hcol
  clear hv hb hT hs hss hlb hlv hls hcol
  go_enter Tryd.func32, Tryd.ntmps32
  go_wp2_with (at_make; refine wpList_mkG rfl _ 26 22 rfl (.slice none 0 0) 1 24 Tryd.underlying26 (by kernel_rfl) _ n rfl rfl (by omega) (by omega) ?_; intro w1 hB1 hb1 hz1; have K1 := Lib.hid hB1; have B1 := Lib.hid hb1; have Z1 := Lib.hid hz1; clear hB1 hb1 hz1)
  have HX1 : Hid (AsS W w1 n vl 0 (rowG col vl 0 0)) := Lib.hid ⟨by
      have e : madeCells (Value.slice none 0 0).cells (n * 1) = rowsC W.heap.size n vl 0 := by
        rw [rowsC_zero, Nat.mul_one]
        exact Array.toList_inj.1 (toList_madeCells_one _ _)
      rw [← e]
      exact K1.out, fun i hi => absurd hi (Nat.not_lt_zero _), B1.out⟩
  go_loopg [9] n (fun gg s9 wr => ∃ q : Nat, s9 = .int .i64 (q : Int) ∧ q ≤ n ∧ n - q ≤ gg ∧ Hid (AsS W wr n vl q (rowG col vl 0 0)) ∧ Hid (wr.heap.size = W.heap.size + 1 + q))
  case atStart => exact ⟨0, rfl, Nat.zero_le _, by omega, HX1, Z1⟩
  case round =>
    obtain ⟨q, rfl, hq, hgg, HX, HZ⟩ := hrel
    by_cases h1 : q < n
    · have u0 : (0 : Int) ≤ (q : Int) := by omega
      have u1 : (q : Int) < (n : Int) := by omega
      go_wp2_with (at_make; refine wpList_mk rfl _ 22 rfl Tryd.underlying22 (by kernel_rfl) _ vl rfl rfl (by omega) ?_; intro w3 hB3 hb3 hz3; have s0 := ((HX.out.keep hb3).hd.cell q).trans (rowsC_get _ _ _ _ _ h1); have s1 := (HX.out.keep hb3).hd.frozen q; rw [if_neg (Nat.lt_irrefl _)] at s0; have K3 := Lib.hid hB3; have B3 := Lib.hid hb3; have Z3 := Lib.hid hz3; clear hB3 hb3 hz3)
      go_roundg (n - (q + 1))
      case measure => omega
      case rel => exact ⟨q + 1, by go_num, by omega, Nat.le_refl _, Lib.hid (HX.out.more h1 HZ.out (by rw [rowG_zero, ← vI_rep]; exact K3.out) B3.out), Lib.hid (by show (w3.setCell _ _).heap.size = _; rw [show (w3.setCell ⟨W.heap.size, q, none⟩ (.slice (some ⟨wr.heap.size, 0, none⟩) vl vl)).heap.size = w3.heap.size by simp [World.setCell], Z3.out, HZ.out]; omega)⟩
    · obtain rfl : q = n := by omega
      have u1 : ¬ (q : Int) < (q : Int) := by omega
      go_wp2
      go_loopg [10] vl (fun gg s10 wq => ∃ k : Nat, s10 = .int .i64 (k : Int) ∧ k ≤ vl ∧ vl - k ≤ gg ∧ Hid (AsS W wq q vl q (rowG col vl k 0)) ∧ Hid (∀ s, s < k → stageN vn bn ss q s = some (col s)))
      case atStart => exact ⟨0, rfl, Nat.zero_le _, by omega, HX, Lib.hid (fun s hs => absurd hs (Nat.not_lt_zero _))⟩
      case round =>
        obtain ⟨k, rfl, hk, hgg2, HXq, HST⟩ := hrel
        by_cases h2 : k < vl
        · have hvk : k < vn.length := by rw [HLV.out]; exact h2
          have x0 : (0 : Int) ≤ (k : Int) := by omega
          have x1 : (k : Int) < (vl : Int) := by omega
          have hm8 : vn[k]! ≤ 8 := (HTT.out.house.one k hvk).2
          obtain ⟨m, hm⟩ : ∃ m, m = vn[k]! := ⟨_, rfl⟩
          rw [← hm] at hm8
          have HM := Lib.hid hm
          obtain ⟨vis, hvis⟩ : ∃ vis, vis = visN bn ss q k := ⟨_, rfl⟩
          obtain ⟨os, hos⟩ : ∃ os, os = sortR (begK vis) q := ⟨_, rfl⟩
          have HVIS := Lib.hid hvis
          have HOS := Lib.hid hos
          have HFF : Hid (ffN vis (os.drop 0) (List.replicate m 0) (List.replicate q 0) = stageN vn bn ss q k) := Lib.hid (by rw [List.drop_zero, HOS.out, HVIS.out, HM.out]; rfl)
          have HTU : Hid (Turn vis m (os.take 0) (List.replicate m 0) (List.replicate q 0)) := Lib.hid (Turn.zero _ _ _)
          clear hm hvis hos
          go_upto_region 10 with (at_make; refine wpList_mkG rfl _ 80 4 rfl (.bool false) 1 1 Tryd.underlying80 (by kernel_rfl) _ q rfl rfl (by omega) (by omega) ?_; intro w4 hB4 hb4 hz4; have K4 := Lib.hid hB4; have B4 := Lib.hid hb4; have Z4 := Lib.hid hz4; clear hB4 hb4 hz4)
          obtain ⟨gd, hgd⟩ : ∃ g, g = wr.heap.size := ⟨_, rfl⟩
          have HD0 : Hid (Bls w4 gd (flagsL (os.take 0) q)) := Lib.hid (by
            show Box _ _ _ _
            rw [List.take_zero, flagsL_zero, ← made_bools, hgd]
            exact K4.out)
          have HGD : Hid (W.heap.size + q < gd) := Lib.hid (by rw [hgd]; exact HXq.out.big)
          have HX4 : Hid (AsS W w4 q vl q (rowT col (List.replicate q 0) vl k)) := Lib.hid ((HXq.out.keep B4.out).congr (fun j hj => rowT_start col q vl k j hj))
          rw [← hgd]
          clear hgd
          go_wp2
          go_loopg [12] q (fun gg s12 wz => ∃ (t : Nat) (fr ch : List Nat), s12 = .int .i64 (t : Int) ∧ t ≤ q ∧ q - t ≤ gg ∧ ch.length = q ∧ Hid (Turn vis m (os.take t) fr ch) ∧ Hid (ffN vis (os.drop t) fr ch = stageN vn bn ss q k) ∧ Hid (AsS W wz q vl q (rowT col ch vl k)) ∧ Hid (Bls wz gd (flagsL (os.take t) q)))
          case atStart => exact ⟨0, _, _, rfl, Nat.zero_le _, by omega, List.length_replicate, HTU, HFF, HX4, HD0⟩
          case round =>
            obtain ⟨t, fr, ch, rfl, ht, hgg3, hcl, HTt, HFt, HXt, HDt⟩ := hrel
            by_cases h3 : t < q
            · have y0 : (0 : Int) ≤ (t : Int) := by omega
              have y1 : (t : Int) < (q : Int) := by omega
              obtain ⟨wo, hwo⟩ : ∃ w, w = wr := ⟨_, rfl⟩
              have HXo : Hid (AsS W wo q vl q (rowT col ch vl k)) := Lib.hid (by rw [hwo]; exact HXt.out)
              have HDo : Hid (Bls wo gd (flagsL (os.take t) q)) := Lib.hid (by rw [hwo]; exact HDt.out)
              have HWo : Hid (Below wo.heap.size wo wr) := Lib.hid (by rw [hwo]; exact Below.refl _ _)
              obtain ⟨dn, hdn⟩ : ∃ dn, dn = os.take t := ⟨_, rfl⟩
              have HDN := Lib.hid hdn
              have HP0 := Lib.hid (PickI.zero (fun r => (vis[r]!).1) dn)
              rw [← hdn] at HDo HTt
              have hvat : ∀ r, r < q → vis[r]! = visA bn ss k r := fun r hr => by rw [HVIS.out]; exact visN_at bn ss q k r hr
              have HVA := Lib.hid hvat
              clear hwo hdn HXt HDt hvat
              go_wp2
              go_loopg [13, 14] q (fun gg s13 s14 wj => ∃ (j : Nat) (z : Int), s14 = .int .i64 (j : Int) ∧ j ≤ q ∧ q - j ≤ gg ∧ s13 = .int .i64 z ∧ Hid (PickI (fun r => (vis[r]!).1) dn j z) ∧ Hid (Below wo.heap.size wo wj))
              case atStart => exact ⟨0, -1, rfl, Nat.zero_le _, by omega, rfl, HP0, HWo⟩
              case round =>
                obtain ⟨j, z, rfl, hj, hgg4, rfl, HPj, HWj⟩ := hrel
                have HWW := Lib.hid (HXo.out.bel.trans (HWj.out.mono HXo.out.bel.size))
                by_cases h4 : j < q
                · have z0 : (0 : Int) ≤ (j : Int) := by omega
                  have z1 : (j : Int) < (q : Int) := by omega
                  have d0 := (HDo.out.keep HWj.out).at (i := j) (by rw [flagsL_len]; exact h4)
                  rw [flagsL_at _ _ _ h4] at d0
                  by_cases h5 : j ∈ dn
                  · rw [show dnB dn j = true from decide_eq_true h5] at d0
                    have HPn := Lib.hid (HPj.out.skip h5)
                    clear h5
                    go_upto_region 17 with fail
                    refine wp_region_held_drew (S := fun w' => w'.cell? ⟨gd, j, none⟩ = some (.bool true)) (by kernel_rfl) d0 (fun hS => ?_)
                    refine wpAnyH_take (i := 0) (v := ?va0) rfl (by kernel_rfl) (by kernel_rfl) (by kernel_rfl) (fun _ _ _ h => h) (Or.inl ⟨by rfl, ?hya0⟩) hS ?resta0
                    case hya0 => (intro w hSw; (try dsimp only at hSw); (first | (go_simp; done) | (go_simp; with_reducible rfl)))
                    try simp only [Act.put, List.getElem_toArray, List.getElem_cons_succ, List.getElem_cons_zero, List.setIfInBounds_toArray, List.set_cons_zero, List.set_cons_succ]
                    refine wpAnyH_take (i := 1) (v := ?va1) rfl (by kernel_rfl) (by kernel_rfl) (by kernel_rfl) (fun _ _ _ h => h) (Or.inl ⟨by rfl, ?hya1⟩) hS ?resta1
                    case hya1 => (intro w hSw; (try dsimp only at hSw); (first | (go_simp; done) | (go_simp; with_reducible rfl)))
                    try simp only [Act.put, List.getElem_toArray, List.getElem_cons_succ, List.getElem_cons_zero, List.setIfInBounds_toArray, List.set_cons_zero, List.set_cons_succ]
                    refine wpAnyH_take (i := 2) (v := ?va2) rfl (by kernel_rfl) (by kernel_rfl) (by kernel_rfl) (fun _ _ _ h => h) (Or.inl ⟨by rfl, ?hya2⟩) hS ?resta2
                    case hya2 => (intro w hSw; (try dsimp only at hSw); (first | (go_simp; done) | (go_simp; with_reducible rfl)))
                    try simp only [Act.put, List.getElem_toArray, List.getElem_cons_succ, List.getElem_cons_zero, List.setIfInBounds_toArray, List.set_cons_zero, List.set_cons_succ]
                    refine wpAnyH_take (i := 3) (v := ?va3) rfl (by kernel_rfl) (by kernel_rfl) (by kernel_rfl) (fun _ _ _ h => h) (Or.inl ⟨by rfl, ?hya3⟩) hS ?resta3
                    case hya3 => (intro w hSw; (try dsimp only at hSw); (first | (go_simp; done) | (go_simp; with_reducible rfl)))
                    try simp only [Act.put, List.getElem_toArray, List.getElem_cons_succ, List.getElem_cons_zero, List.setIfInBounds_toArray, List.set_cons_zero, List.set_cons_succ]
                    refine wpAnyH_take (i := 4) (v := ?va4) rfl (by kernel_rfl) (by kernel_rfl) (by kernel_rfl) (fun _ _ _ h => h) (Or.inl ⟨by rfl, ?hya4⟩) hS ?resta4
                    case hya4 => (intro w hSw; (try dsimp only at hSw); (first | (go_simp; done) | (go_simp; with_reducible rfl)))
                    try simp only [Act.put, List.getElem_toArray, List.getElem_cons_succ, List.getElem_cons_zero, List.setIfInBounds_toArray, List.set_cons_zero, List.set_cons_succ]
                    refine wpAnyH_take (i := 5) (v := ?va5) rfl (by kernel_rfl) (by kernel_rfl) (by kernel_rfl) (fun _ _ _ h => h) (Or.inl ⟨by rfl, ?hya5⟩) hS ?resta5
                    case hya5 => (intro w hSw; (try dsimp only at hSw); (first | (go_simp; done) | (go_simp; with_reducible rfl)))
                    try simp only [Act.put, List.getElem_toArray, List.getElem_cons_succ, List.getElem_cons_zero, List.setIfInBounds_toArray, List.set_cons_zero, List.set_cons_succ]
                    refine wpAnyH_take (i := 6) (v := undef) rfl (by kernel_rfl) (by kernel_rfl) (by kernel_rfl) (fun _ _ _ h => h) (Or.inr ⟨by rfl, rfl⟩) hS ?_
                    try simp only [Act.put, List.getElem_toArray, List.getElem_cons_succ, List.getElem_cons_zero, List.setIfInBounds_toArray, List.set_cons_zero, List.set_cons_succ]
                    refine wpAnyH_take (i := 7) (v := undef) rfl (by kernel_rfl) (by kernel_rfl) (by kernel_rfl) (fun _ _ _ h => h) (Or.inr ⟨by rfl, rfl⟩) hS ?_
                    try simp only [Act.put, List.getElem_toArray, List.getElem_cons_succ, List.getElem_cons_zero, List.setIfInBounds_toArray, List.set_cons_zero, List.set_cons_succ]
                    refine wpAnyH_take (i := 8) (v := undef) rfl (by kernel_rfl) (by kernel_rfl) (by kernel_rfl) (fun _ _ _ h => h) (Or.inr ⟨by rfl, rfl⟩) hS ?_
                    try simp only [Act.put, List.getElem_toArray, List.getElem_cons_succ, List.getElem_cons_zero, List.setIfInBounds_toArray, List.set_cons_zero, List.set_cons_succ]
                    refine wpAnyH_take (i := 9) (v := undef) rfl (by kernel_rfl) (by kernel_rfl) (by kernel_rfl) (fun _ _ _ h => h) (Or.inr ⟨by rfl, rfl⟩) hS ?_
                    try simp only [Act.put, List.getElem_toArray, List.getElem_cons_succ, List.getElem_cons_zero, List.setIfInBounds_toArray, List.set_cons_zero, List.set_cons_succ]
                    refine wpAnyH_take (i := 10) (v := undef) rfl (by kernel_rfl) (by kernel_rfl) (by kernel_rfl) (fun _ _ _ h => h) (Or.inr ⟨by rfl, rfl⟩) hS ?_
                    try simp only [Act.put, List.getElem_toArray, List.getElem_cons_succ, List.getElem_cons_zero, List.setIfInBounds_toArray, List.set_cons_zero, List.set_cons_succ]
                    refine wpAnyH_take (i := 11) (v := undef) rfl (by kernel_rfl) (by kernel_rfl) (by kernel_rfl) (fun _ _ _ h => h) (Or.inr ⟨by rfl, rfl⟩) hS ?_
                    try simp only [Act.put, List.getElem_toArray, List.getElem_cons_succ, List.getElem_cons_zero, List.setIfInBounds_toArray, List.set_cons_zero, List.set_cons_succ]
                    refine wpAnyH_take (i := 12) (v := undef) rfl (by kernel_rfl) (by kernel_rfl) (by kernel_rfl) (fun _ _ _ h => h) (Or.inr ⟨by rfl, rfl⟩) hS ?_
                    try simp only [Act.put, List.getElem_toArray, List.getElem_cons_succ, List.getElem_cons_zero, List.setIfInBounds_toArray, List.set_cons_zero, List.set_cons_succ]
                    refine wpAnyH_take (i := 13) (v := undef) rfl (by kernel_rfl) (by kernel_rfl) (by kernel_rfl) (fun _ _ _ h => h) (Or.inr ⟨by rfl, rfl⟩) hS ?_
                    try simp only [Act.put, List.getElem_toArray, List.getElem_cons_succ, List.getElem_cons_zero, List.setIfInBounds_toArray, List.set_cons_zero, List.set_cons_succ]
                    refine wpAnyH_take (i := 14) (v := undef) rfl (by kernel_rfl) (by kernel_rfl) (by kernel_rfl) (fun _ _ _ h => h) (Or.inr ⟨by rfl, rfl⟩) hS ?_
                    try simp only [Act.put, List.getElem_toArray, List.getElem_cons_succ, List.getElem_cons_zero, List.setIfInBounds_toArray, List.set_cons_zero, List.set_cons_succ]
                    refine wpAnyH_take (i := 15) (v := undef) rfl (by kernel_rfl) (by kernel_rfl) (by kernel_rfl) (fun _ _ _ h => h) (Or.inr ⟨by rfl, rfl⟩) hS ?_
                    try simp only [Act.put, List.getElem_toArray, List.getElem_cons_succ, List.getElem_cons_zero, List.setIfInBounds_toArray, List.set_cons_zero, List.set_cons_succ]
                    refine wpAnyH_take (i := 16) (v := undef) rfl (by kernel_rfl) (by kernel_rfl) (by kernel_rfl) (fun _ _ _ h => h) (Or.inr ⟨by rfl, rfl⟩) hS ?_
                    try simp only [Act.put, List.getElem_toArray, List.getElem_cons_succ, List.getElem_cons_zero, List.setIfInBounds_toArray, List.set_cons_zero, List.set_cons_succ]
                    refine wpAnyH_take (i := 17) (v := undef) rfl (by kernel_rfl) (by kernel_rfl) (by kernel_rfl) (fun _ _ _ h => h) (Or.inr ⟨by rfl, rfl⟩) hS ?_
                    try simp only [Act.put, List.getElem_toArray, List.getElem_cons_succ, List.getElem_cons_zero, List.setIfInBounds_toArray, List.set_cons_zero, List.set_cons_succ]
                    refine wpAnyH_take (i := 18) (v := undef) rfl (by kernel_rfl) (by kernel_rfl) (by kernel_rfl) (fun _ _ _ h => h) (Or.inr ⟨by rfl, rfl⟩) hS ?_
                    try simp only [Act.put, List.getElem_toArray, List.getElem_cons_succ, List.getElem_cons_zero, List.setIfInBounds_toArray, List.set_cons_zero, List.set_cons_succ]
                    refine wpAnyH_take (i := 19) (v := undef) rfl (by kernel_rfl) (by kernel_rfl) (by kernel_rfl) (fun _ _ _ h => h) (Or.inr ⟨by rfl, rfl⟩) hS ?_
                    try simp only [Act.put, List.getElem_toArray, List.getElem_cons_succ, List.getElem_cons_zero, List.setIfInBounds_toArray, List.set_cons_zero, List.set_cons_succ]
                    refine wpAnyH_take (i := 20) (v := undef) rfl (by kernel_rfl) (by kernel_rfl) (by kernel_rfl) (fun _ _ _ h => h) (Or.inr ⟨by rfl, rfl⟩) hS ?_
                    try simp only [Act.put, List.getElem_toArray, List.getElem_cons_succ, List.getElem_cons_zero, List.setIfInBounds_toArray, List.set_cons_zero, List.set_cons_succ]
                    refine wpAnyH_take (i := 21) (v := undef) rfl (by kernel_rfl) (by kernel_rfl) (by kernel_rfl) (fun _ _ _ h => h) (Or.inr ⟨by rfl, rfl⟩) hS ?_
                    try simp only [Act.put, List.getElem_toArray, List.getElem_cons_succ, List.getElem_cons_zero, List.setIfInBounds_toArray, List.set_cons_zero, List.set_cons_succ]
                    refine wpAnyH_take (i := 22) (v := undef) rfl (by kernel_rfl) (by kernel_rfl) (by kernel_rfl) (fun _ _ _ h => h) (Or.inr ⟨by rfl, rfl⟩) hS ?_
                    try simp only [Act.put, List.getElem_toArray, List.getElem_cons_succ, List.getElem_cons_zero, List.setIfInBounds_toArray, List.set_cons_zero, List.set_cons_succ]
                    refine wpAnyH_take (i := 23) (v := undef) rfl (by kernel_rfl) (by kernel_rfl) (by kernel_rfl) (fun _ _ _ h => h) (Or.inr ⟨by rfl, rfl⟩) hS ?_
                    try simp only [Act.put, List.getElem_toArray, List.getElem_cons_succ, List.getElem_cons_zero, List.setIfInBounds_toArray, List.set_cons_zero, List.set_cons_succ]
                    refine wpAnyH_take (i := 24) (v := undef) rfl (by kernel_rfl) (by kernel_rfl) (by kernel_rfl) (fun _ _ _ h => h) (Or.inr ⟨by rfl, rfl⟩) hS ?_
                    try simp only [Act.put, List.getElem_toArray, List.getElem_cons_succ, List.getElem_cons_zero, List.setIfInBounds_toArray, List.set_cons_zero, List.set_cons_succ]
                    refine wpAnyH_take (i := 25) (v := undef) rfl (by kernel_rfl) (by kernel_rfl) (by kernel_rfl) (fun _ _ _ h => h) (Or.inr ⟨by rfl, rfl⟩) hS ?_
                    try simp only [Act.put, List.getElem_toArray, List.getElem_cons_succ, List.getElem_cons_zero, List.setIfInBounds_toArray, List.set_cons_zero, List.set_cons_succ]
                    refine wpAnyH_take (i := 26) (v := undef) rfl (by kernel_rfl) (by kernel_rfl) (by kernel_rfl) (fun _ _ _ h => h) (Or.inr ⟨by rfl, rfl⟩) hS ?_
                    try simp only [Act.put, List.getElem_toArray, List.getElem_cons_succ, List.getElem_cons_zero, List.setIfInBounds_toArray, List.set_cons_zero, List.set_cons_succ]
                    refine wpAnyH_take (i := 27) (v := undef) rfl (by kernel_rfl) (by kernel_rfl) (by kernel_rfl) (fun _ _ _ h => h) (Or.inr ⟨by rfl, rfl⟩) hS ?_
                    try simp only [Act.put, List.getElem_toArray, List.getElem_cons_succ, List.getElem_cons_zero, List.setIfInBounds_toArray, List.set_cons_zero, List.set_cons_succ]
                    refine wpAnyH_take (i := 28) (v := undef) rfl (by kernel_rfl) (by kernel_rfl) (by kernel_rfl) (fun _ _ _ h => h) (Or.inr ⟨by rfl, rfl⟩) hS ?_
                    try simp only [Act.put, List.getElem_toArray, List.getElem_cons_succ, List.getElem_cons_zero, List.setIfInBounds_toArray, List.set_cons_zero, List.set_cons_succ]
                    refine wpAnyH_take (i := 29) (v := undef) rfl (by kernel_rfl) (by kernel_rfl) (by kernel_rfl) (fun _ _ _ h => h) (Or.inr ⟨by rfl, rfl⟩) hS ?_
                    try simp only [Act.put, List.getElem_toArray, List.getElem_cons_succ, List.getElem_cons_zero, List.setIfInBounds_toArray, List.set_cons_zero, List.set_cons_succ]
                    refine wpAnyH_take (i := 30) (v := undef) rfl (by kernel_rfl) (by kernel_rfl) (by kernel_rfl) (fun _ _ _ h => h) (Or.inr ⟨by rfl, rfl⟩) hS ?_
                    try simp only [Act.put, List.getElem_toArray, List.getElem_cons_succ, List.getElem_cons_zero, List.setIfInBounds_toArray, List.set_cons_zero, List.set_cons_succ]
                    refine wpAnyH_take (i := 31) (v := ?va31) rfl (by kernel_rfl) (by kernel_rfl) (by kernel_rfl) (fun _ _ _ h => h) (Or.inl ⟨by rfl, ?hya31⟩) hS ?resta31
                    case hya31 => (intro w hSw; (try dsimp only at hSw); (first | (go_simp; done) | (go_simp; with_reducible rfl)))
                    try simp only [Act.put, List.getElem_toArray, List.getElem_cons_succ, List.getElem_cons_zero, List.setIfInBounds_toArray, List.set_cons_zero, List.set_cons_succ]
                    refine wpAnyH_done (by kernel_rfl) ?_ _
                    have HB2 := Lib.hid (HWj.out.trans (drew_below wr |>.mono HWj.out.size))
                    clear hS
                    go_wp2
                    go_roundg (q - (j + 1))
                    case measure => omega
                    case rel => exact ⟨j + 1, z, by go_num, by omega, Nat.le_refl _, rfl, HPn, HB2⟩
                  · rw [show dnB dn j = false from decide_eq_false h5] at d0
                    rcases HPj.out with ⟨rfl, hall⟩ | ⟨i, rfl, hi1, hi2, hi3⟩
                    · have HPn := Lib.hid (PickI.first (K := fun r => (vis[r]!).1) hall h5)
                      clear hall h5
                      go_upto_region 17 with fail
                      refine wp_region_held_drew (S := fun w' => w'.cell? ⟨gd, j, none⟩ = some (.bool false)) (by kernel_rfl) d0 (fun hS => ?_)
                      refine wpAnyH_take (i := 0) (v := ?vb0) rfl (by kernel_rfl) (by kernel_rfl) (by kernel_rfl) (fun _ _ _ h => h) (Or.inl ⟨by rfl, ?hyb0⟩) hS ?restb0
                      case hyb0 => (intro w hSw; (try dsimp only at hSw); (first | (go_simp; done) | (go_simp; with_reducible rfl)))
                      try simp only [Act.put, List.getElem_toArray, List.getElem_cons_succ, List.getElem_cons_zero, List.setIfInBounds_toArray, List.set_cons_zero, List.set_cons_succ]
                      refine wpAnyH_take (i := 1) (v := ?vb1) rfl (by kernel_rfl) (by kernel_rfl) (by kernel_rfl) (fun _ _ _ h => h) (Or.inl ⟨by rfl, ?hyb1⟩) hS ?restb1
                      case hyb1 => (intro w hSw; (try dsimp only at hSw); (first | (go_simp; done) | (go_simp; with_reducible rfl)))
                      try simp only [Act.put, List.getElem_toArray, List.getElem_cons_succ, List.getElem_cons_zero, List.setIfInBounds_toArray, List.set_cons_zero, List.set_cons_succ]
                      refine wpAnyH_take (i := 2) (v := ?vb2) rfl (by kernel_rfl) (by kernel_rfl) (by kernel_rfl) (fun _ _ _ h => h) (Or.inl ⟨by rfl, ?hyb2⟩) hS ?restb2
                      case hyb2 => (intro w hSw; (try dsimp only at hSw); (first | (go_simp; done) | (go_simp; with_reducible rfl)))
                      try simp only [Act.put, List.getElem_toArray, List.getElem_cons_succ, List.getElem_cons_zero, List.setIfInBounds_toArray, List.set_cons_zero, List.set_cons_succ]
                      refine wpAnyH_take (i := 3) (v := ?vb3) rfl (by kernel_rfl) (by kernel_rfl) (by kernel_rfl) (fun _ _ _ h => h) (Or.inl ⟨by rfl, ?hyb3⟩) hS ?restb3
                      case hyb3 => (intro w hSw; (try dsimp only at hSw); (first | (go_simp; done) | (go_simp; with_reducible rfl)))
                      try simp only [Act.put, List.getElem_toArray, List.getElem_cons_succ, List.getElem_cons_zero, List.setIfInBounds_toArray, List.set_cons_zero, List.set_cons_succ]
                      refine wpAnyH_take (i := 4) (v := ?vb4) rfl (by kernel_rfl) (by kernel_rfl) (by kernel_rfl) (fun _ _ _ h => h) (Or.inl ⟨by rfl, ?hyb4⟩) hS ?restb4
                      case hyb4 => (intro w hSw; (try dsimp only at hSw); (first | (go_simp; done) | (go_simp; with_reducible rfl)))
                      try simp only [Act.put, List.getElem_toArray, List.getElem_cons_succ, List.getElem_cons_zero, List.setIfInBounds_toArray, List.set_cons_zero, List.set_cons_succ]
                      refine wpAnyH_take (i := 5) (v := ?vb5) rfl (by kernel_rfl) (by kernel_rfl) (by kernel_rfl) (fun _ _ _ h => h) (Or.inl ⟨by rfl, ?hyb5⟩) hS ?restb5
                      case hyb5 => (intro w hSw; (try dsimp only at hSw); (first | (go_simp; done) | (go_simp; with_reducible rfl)))
                      try simp only [Act.put, List.getElem_toArray, List.getElem_cons_succ, List.getElem_cons_zero, List.setIfInBounds_toArray, List.set_cons_zero, List.set_cons_succ]
                      refine wpAnyH_take (i := 6) (v := ?vb6) rfl (by kernel_rfl) (by kernel_rfl) (by kernel_rfl) (fun _ _ _ h => h) (Or.inl ⟨by rfl, ?hyb6⟩) hS ?restb6
                      case hyb6 => (intro w hSw; (try dsimp only at hSw); (first | (go_simp; done) | (go_simp; with_reducible rfl)))
                      try simp only [Act.put, List.getElem_toArray, List.getElem_cons_succ, List.getElem_cons_zero, List.setIfInBounds_toArray, List.set_cons_zero, List.set_cons_succ]
                      refine wpAnyH_take (i := 7) (v := ?vb7) rfl (by kernel_rfl) (by kernel_rfl) (by kernel_rfl) (fun _ _ _ h => h) (Or.inl ⟨by rfl, ?hyb7⟩) hS ?restb7
                      case hyb7 => (intro w hSw; (try dsimp only at hSw); (first | (go_simp; done) | (go_simp; with_reducible rfl)))
                      try simp only [Act.put, List.getElem_toArray, List.getElem_cons_succ, List.getElem_cons_zero, List.setIfInBounds_toArray, List.set_cons_zero, List.set_cons_succ]
                      refine wpAnyH_take (i := 8) (v := ?vb8) rfl (by kernel_rfl) (by kernel_rfl) (by kernel_rfl) (fun _ _ _ h => h) (Or.inl ⟨by rfl, ?hyb8⟩) hS ?restb8
                      case hyb8 => (intro w hSw; (try dsimp only at hSw); (first | (go_simp; done) | (go_simp; with_reducible rfl)))
                      try simp only [Act.put, List.getElem_toArray, List.getElem_cons_succ, List.getElem_cons_zero, List.setIfInBounds_toArray, List.set_cons_zero, List.set_cons_succ]
                      refine wpAnyH_take (i := 9) (v := undef) rfl (by kernel_rfl) (by kernel_rfl) (by kernel_rfl) (fun _ _ _ h => h) (Or.inr ⟨by rfl, rfl⟩) hS ?_
                      try simp only [Act.put, List.getElem_toArray, List.getElem_cons_succ, List.getElem_cons_zero, List.setIfInBounds_toArray, List.set_cons_zero, List.set_cons_succ]
                      refine wpAnyH_take (i := 10) (v := undef) rfl (by kernel_rfl) (by kernel_rfl) (by kernel_rfl) (fun _ _ _ h => h) (Or.inr ⟨by rfl, rfl⟩) hS ?_
                      try simp only [Act.put, List.getElem_toArray, List.getElem_cons_succ, List.getElem_cons_zero, List.setIfInBounds_toArray, List.set_cons_zero, List.set_cons_succ]
                      refine wpAnyH_take (i := 11) (v := undef) rfl (by kernel_rfl) (by kernel_rfl) (by kernel_rfl) (fun _ _ _ h => h) (Or.inr ⟨by rfl, rfl⟩) hS ?_
                      try simp only [Act.put, List.getElem_toArray, List.getElem_cons_succ, List.getElem_cons_zero, List.setIfInBounds_toArray, List.set_cons_zero, List.set_cons_succ]
                      refine wpAnyH_take (i := 12) (v := undef) rfl (by kernel_rfl) (by kernel_rfl) (by kernel_rfl) (fun _ _ _ h => h) (Or.inr ⟨by rfl, rfl⟩) hS ?_
                      try simp only [Act.put, List.getElem_toArray, List.getElem_cons_succ, List.getElem_cons_zero, List.setIfInBounds_toArray, List.set_cons_zero, List.set_cons_succ]
                      refine wpAnyH_take (i := 13) (v := undef) rfl (by kernel_rfl) (by kernel_rfl) (by kernel_rfl) (fun _ _ _ h => h) (Or.inr ⟨by rfl, rfl⟩) hS ?_
                      try simp only [Act.put, List.getElem_toArray, List.getElem_cons_succ, List.getElem_cons_zero, List.setIfInBounds_toArray, List.set_cons_zero, List.set_cons_succ]
                      refine wpAnyH_take (i := 14) (v := undef) rfl (by kernel_rfl) (by kernel_rfl) (by kernel_rfl) (fun _ _ _ h => h) (Or.inr ⟨by rfl, rfl⟩) hS ?_
                      try simp only [Act.put, List.getElem_toArray, List.getElem_cons_succ, List.getElem_cons_zero, List.setIfInBounds_toArray, List.set_cons_zero, List.set_cons_succ]
                      refine wpAnyH_take (i := 15) (v := undef) rfl (by kernel_rfl) (by kernel_rfl) (by kernel_rfl) (fun _ _ _ h => h) (Or.inr ⟨by rfl, rfl⟩) hS ?_
                      try simp only [Act.put, List.getElem_toArray, List.getElem_cons_succ, List.getElem_cons_zero, List.setIfInBounds_toArray, List.set_cons_zero, List.set_cons_succ]
                      refine wpAnyH_take (i := 16) (v := undef) rfl (by kernel_rfl) (by kernel_rfl) (by kernel_rfl) (fun _ _ _ h => h) (Or.inr ⟨by rfl, rfl⟩) hS ?_
                      try simp only [Act.put, List.getElem_toArray, List.getElem_cons_succ, List.getElem_cons_zero, List.setIfInBounds_toArray, List.set_cons_zero, List.set_cons_succ]
                      refine wpAnyH_take (i := 17) (v := undef) rfl (by kernel_rfl) (by kernel_rfl) (by kernel_rfl) (fun _ _ _ h => h) (Or.inr ⟨by rfl, rfl⟩) hS ?_
                      try simp only [Act.put, List.getElem_toArray, List.getElem_cons_succ, List.getElem_cons_zero, List.setIfInBounds_toArray, List.set_cons_zero, List.set_cons_succ]
                      refine wpAnyH_take (i := 18) (v := undef) rfl (by kernel_rfl) (by kernel_rfl) (by kernel_rfl) (fun _ _ _ h => h) (Or.inr ⟨by rfl, rfl⟩) hS ?_
                      try simp only [Act.put, List.getElem_toArray, List.getElem_cons_succ, List.getElem_cons_zero, List.setIfInBounds_toArray, List.set_cons_zero, List.set_cons_succ]
                      refine wpAnyH_take (i := 19) (v := undef) rfl (by kernel_rfl) (by kernel_rfl) (by kernel_rfl) (fun _ _ _ h => h) (Or.inr ⟨by rfl, rfl⟩) hS ?_
                      try simp only [Act.put, List.getElem_toArray, List.getElem_cons_succ, List.getElem_cons_zero, List.setIfInBounds_toArray, List.set_cons_zero, List.set_cons_succ]
                      refine wpAnyH_take (i := 20) (v := undef) rfl (by kernel_rfl) (by kernel_rfl) (by kernel_rfl) (fun _ _ _ h => h) (Or.inr ⟨by rfl, rfl⟩) hS ?_
                      try simp only [Act.put, List.getElem_toArray, List.getElem_cons_succ, List.getElem_cons_zero, List.setIfInBounds_toArray, List.set_cons_zero, List.set_cons_succ]
                      refine wpAnyH_take (i := 21) (v := undef) rfl (by kernel_rfl) (by kernel_rfl) (by kernel_rfl) (fun _ _ _ h => h) (Or.inr ⟨by rfl, rfl⟩) hS ?_
                      try simp only [Act.put, List.getElem_toArray, List.getElem_cons_succ, List.getElem_cons_zero, List.setIfInBounds_toArray, List.set_cons_zero, List.set_cons_succ]
                      refine wpAnyH_take (i := 22) (v := undef) rfl (by kernel_rfl) (by kernel_rfl) (by kernel_rfl) (fun _ _ _ h => h) (Or.inr ⟨by rfl, rfl⟩) hS ?_
                      try simp only [Act.put, List.getElem_toArray, List.getElem_cons_succ, List.getElem_cons_zero, List.setIfInBounds_toArray, List.set_cons_zero, List.set_cons_succ]
                      refine wpAnyH_take (i := 23) (v := undef) rfl (by kernel_rfl) (by kernel_rfl) (by kernel_rfl) (fun _ _ _ h => h) (Or.inr ⟨by rfl, rfl⟩) hS ?_
                      try simp only [Act.put, List.getElem_toArray, List.getElem_cons_succ, List.getElem_cons_zero, List.setIfInBounds_toArray, List.set_cons_zero, List.set_cons_succ]
                      refine wpAnyH_take (i := 24) (v := undef) rfl (by kernel_rfl) (by kernel_rfl) (by kernel_rfl) (fun _ _ _ h => h) (Or.inr ⟨by rfl, rfl⟩) hS ?_
                      try simp only [Act.put, List.getElem_toArray, List.getElem_cons_succ, List.getElem_cons_zero, List.setIfInBounds_toArray, List.set_cons_zero, List.set_cons_succ]
                      refine wpAnyH_take (i := 25) (v := undef) rfl (by kernel_rfl) (by kernel_rfl) (by kernel_rfl) (fun _ _ _ h => h) (Or.inr ⟨by rfl, rfl⟩) hS ?_
                      try simp only [Act.put, List.getElem_toArray, List.getElem_cons_succ, List.getElem_cons_zero, List.setIfInBounds_toArray, List.set_cons_zero, List.set_cons_succ]
                      refine wpAnyH_take (i := 26) (v := undef) rfl (by kernel_rfl) (by kernel_rfl) (by kernel_rfl) (fun _ _ _ h => h) (Or.inr ⟨by rfl, rfl⟩) hS ?_
                      try simp only [Act.put, List.getElem_toArray, List.getElem_cons_succ, List.getElem_cons_zero, List.setIfInBounds_toArray, List.set_cons_zero, List.set_cons_succ]
                      refine wpAnyH_take (i := 27) (v := undef) rfl (by kernel_rfl) (by kernel_rfl) (by kernel_rfl) (fun _ _ _ h => h) (Or.inr ⟨by rfl, rfl⟩) hS ?_
                      try simp only [Act.put, List.getElem_toArray, List.getElem_cons_succ, List.getElem_cons_zero, List.setIfInBounds_toArray, List.set_cons_zero, List.set_cons_succ]
                      refine wpAnyH_take (i := 28) (v := undef) rfl (by kernel_rfl) (by kernel_rfl) (by kernel_rfl) (fun _ _ _ h => h) (Or.inr ⟨by rfl, rfl⟩) hS ?_
                      try simp only [Act.put, List.getElem_toArray, List.getElem_cons_succ, List.getElem_cons_zero, List.setIfInBounds_toArray, List.set_cons_zero, List.set_cons_succ]
                      refine wpAnyH_take (i := 29) (v := undef) rfl (by kernel_rfl) (by kernel_rfl) (by kernel_rfl) (fun _ _ _ h => h) (Or.inr ⟨by rfl, rfl⟩) hS ?_
                      try simp only [Act.put, List.getElem_toArray, List.getElem_cons_succ, List.getElem_cons_zero, List.setIfInBounds_toArray, List.set_cons_zero, List.set_cons_succ]
                      refine wpAnyH_take (i := 30) (v := ?vb30) rfl (by kernel_rfl) (by kernel_rfl) (by kernel_rfl) (fun _ _ _ h => h) (Or.inl ⟨by rfl, ?hyb30⟩) hS ?restb30
                      case hyb30 => (intro w hSw; (try dsimp only at hSw); (first | (go_simp; done) | (go_simp; with_reducible rfl)))
                      try simp only [Act.put, List.getElem_toArray, List.getElem_cons_succ, List.getElem_cons_zero, List.setIfInBounds_toArray, List.set_cons_zero, List.set_cons_succ]
                      refine wpAnyH_take (i := 31) (v := ?vb31) rfl (by kernel_rfl) (by kernel_rfl) (by kernel_rfl) (fun _ _ _ h => h) (Or.inl ⟨by rfl, ?hyb31⟩) hS ?restb31
                      case hyb31 => (intro w hSw; (try dsimp only at hSw); (first | (go_simp; done) | (go_simp; with_reducible rfl)))
                      try simp only [Act.put, List.getElem_toArray, List.getElem_cons_succ, List.getElem_cons_zero, List.setIfInBounds_toArray, List.set_cons_zero, List.set_cons_succ]
                      refine wpAnyH_done (by kernel_rfl) ?_ _
                      have HB2 := Lib.hid (HWj.out.trans (drew_below wr |>.mono HWj.out.size))
                      clear hS
                      go_wp2
                      go_roundg (q - (j + 1))
                      case measure => omega
                      case rel => exact ⟨j + 1, (j : Int), by go_num, by omega, Nat.le_refl _, rfl, HPn, HB2⟩
                    · have hjlt : j < q := h4
                      have hilt : i < q := by omega
                      have hjb : j < bn.length := by rw [HLB.out]; exact hjlt
                      obtain ⟨gj, oj, taj, tlj, tcj, hgj, hxj⟩ := (HBB.out.keep HWW.out).at hjlt
                      rw [bI_at hjb] at hxj
                      have hlj : (bn[j]!).tm.length ≤ 3 := by have := HTT.out.len j hjb; have := HTT.out.house.few; omega
                      have hmj : ∀ y, y < (bn[j]!).tm.length → (bn[j]!).tm[y]! ≤ 30 := fun y hy => (HTT.out.tm j hjb y (by rw [← HTT.out.len j hjb]; exact hy)).2
                      have hkj : k ≤ (bn[j]!).tm.length := by rw [HTT.out.len j hjb, HLV.out]; omega
                      have hsj := HS3.out j hjlt
                      have hib : i < bn.length := by rw [HLB.out]; exact hilt
                      obtain ⟨gi, oi, tai, tli, tci, hgi, hxi⟩ := (HBB.out.keep HWW.out).at hilt
                      rw [bI_at hib] at hxi
                      have hli : (bn[i]!).tm.length ≤ 3 := by have := HTT.out.len i hib; have := HTT.out.house.few; omega
                      have hmi : ∀ y, y < (bn[i]!).tm.length → (bn[i]!).tm[y]! ≤ 30 := fun y hy => (HTT.out.tm i hib y (by rw [← HTT.out.len i hib]; exact hy)).2
                      have hki : k ≤ (bn[i]!).tm.length := by rw [HTT.out.len i hib, HLV.out]; omega
                      have hsi := HS3.out i hilt
                      obtain ⟨gs, so, hgs, hcs⟩ := (HSS.out.keep HWW.out).at (by omega)
                      have sj := hcs j h4
                      have si := hcs i hilt
                      rw [vI_get] at sj si
                      have PJ := Lib.hid (refbegin_any ((bn[j]!).rdy : Int) (ss[j]! : Int) taj tlj tcj k (bn[j]!).tm wr.drew hxj.il.drew hmj hlj hkj (by omega) (by omega))
                      have PI : Hid (∀ w, Below wr.heap.size wr w → Calls Tryd.prog 42 #[.agg #[.int .i64 ((bn[i]!).rdy : Int), .slice tai tli tci], .int .i64 (ss[i]! : Int), .int .i64 (k : Int)] w (OutZ ((ss[i]! : Int) + (((bn[i]!).tm.take k).sum : Nat)) w)) := Lib.hid (fun w hb => refbegin_any ((bn[i]!).rdy : Int) (ss[i]! : Int) tai tli tci k (bn[i]!).tm w (hxi.il.keep hb) hmi hli hki (by omega) (by omega))
                      have bj0 : wr.cell? ⟨gj, oj + j * 2, none⟩ = some (.int .i64 ((bn[j]!).rdy : Int)) := hxj.c0
                      have bj1 := hxj.c1
                      have bi0 : wr.cell? ⟨gi, oi + i * 2, none⟩ = some (.int .i64 ((bn[i]!).rdy : Int)) := hxi.c0
                      have bi1 := hxi.c1
                      have kj : (vis[j]!).1 = ss[j]! + ((bn[j]!).tm.take k).sum := by rw [HVA.out j h4]; rfl
                      have ki : (vis[i]!).1 = ss[i]! + ((bn[i]!).tm.take k).sum := by rw [HVA.out i hilt]; rfl
                      have HN1 : Hid ((vis[j]!).1 < (vis[i]!).1 → PickI (fun r => (vis[r]!).1) dn (j + 1) (j : Int)) := Lib.hid (fun c => PickI.less (K := fun r => (vis[r]!).1) hi1 hi3 h5 c)
                      have HN2 : Hid (¬ (vis[j]!).1 < (vis[i]!).1 → PickI (fun r => (vis[r]!).1) dn (j + 1) (i : Int)) := Lib.hid (fun c => PickI.more (K := fun r => (vis[r]!).1) hi1 hi2 hi3 c)
                      rw [kj, ki] at HN1 HN2
                      have tj := take_le hmj hlj k
                      have ti := take_le hmi hli k
                      have i0 : (0 : Int) ≤ (i : Int) := by omega
                      have i1 : (i : Int) < (q : Int) := by omega
                      have ineg : ¬ ((i : Int) < 0) := by omega
                      obtain rfl : gj = gi := by have := hgj.symm.trans hgi; simpa using congrArg (fun (o : Option Addr) => o.map (·.block)) this
                      obtain rfl : oj = oi := by have := hgj.symm.trans hgi; simpa using congrArg (fun (o : Option Addr) => o.map (·.off)) this
                      subst hgj hgs
                      generalize ((bn[j]!).tm.take k).sum = yj at PJ HN1 HN2 tj
                      generalize ((bn[i]!).tm.take k).sum = yi at PI HN1 HN2 ti
                      generalize (bn[j]!).rdy = rj at PJ bj0
                      generalize (bn[i]!).rdy = ri at PI bi0
                      generalize ss[j]! = xj at sj PJ HN1 HN2 hsj
                      generalize ss[i]! = xi at si PI HN1 HN2 hsi
                      clear kj ki hi2 hi3 h5 hxj hxi hmj hmi hlj hli hkj hki hcs hgi hjb hib
                      go_upto_region 17 with fail
                      refine wp_region_held_drew (S := fun w' => w'.cell? ⟨gd, j, none⟩ = some (.bool false) ∧ w'.cell? ⟨gj, oj + j * 2, none⟩ = some (.int .i64 (rj : Int)) ∧ w'.cell? ⟨gj, oj + j * 2 + 1, none⟩ = some (.slice taj tlj tcj) ∧ w'.cell? ⟨gs, so + j, none⟩ = some (.int .i64 (xj : Int)) ∧ w'.cell? ⟨gj, oj + i * 2, none⟩ = some (.int .i64 (ri : Int)) ∧ w'.cell? ⟨gj, oj + i * 2 + 1, none⟩ = some (.slice tai tli tci) ∧ w'.cell? ⟨gs, so + i, none⟩ = some (.int .i64 (xi : Int))) (by kernel_rfl) ⟨d0, bj0, bj1, sj, bi0, bi1, si⟩ (fun hS => ?_)
                      refine wpAnyH_take (i := 0) (v := ?vc0) rfl (by kernel_rfl) (by kernel_rfl) (by kernel_rfl) (fun _ _ _ h => h) (Or.inl ⟨by rfl, ?hyc0⟩) hS ?restc0
                      case hyc0 => (intro w hSw; (try dsimp only at hSw); (first | (go_simp; done) | (go_simp; with_reducible rfl)))
                      try simp only [Act.put, List.getElem_toArray, List.getElem_cons_succ, List.getElem_cons_zero, List.setIfInBounds_toArray, List.set_cons_zero, List.set_cons_succ]
                      refine wpAnyH_take (i := 1) (v := ?vc1) rfl (by kernel_rfl) (by kernel_rfl) (by kernel_rfl) (fun _ _ _ h => h) (Or.inl ⟨by rfl, ?hyc1⟩) hS ?restc1
                      case hyc1 => (intro w hSw; (try dsimp only at hSw); (first | (go_simp; done) | (go_simp; with_reducible rfl)))
                      try simp only [Act.put, List.getElem_toArray, List.getElem_cons_succ, List.getElem_cons_zero, List.setIfInBounds_toArray, List.set_cons_zero, List.set_cons_succ]
                      refine wpAnyH_take (i := 2) (v := ?vc2) rfl (by kernel_rfl) (by kernel_rfl) (by kernel_rfl) (fun _ _ _ h => h) (Or.inl ⟨by rfl, ?hyc2⟩) hS ?restc2
                      case hyc2 => (intro w hSw; (try dsimp only at hSw); (first | (go_simp; done) | (go_simp; with_reducible rfl)))
                      try simp only [Act.put, List.getElem_toArray, List.getElem_cons_succ, List.getElem_cons_zero, List.setIfInBounds_toArray, List.set_cons_zero, List.set_cons_succ]
                      refine wpAnyH_take (i := 3) (v := ?vc3) rfl (by kernel_rfl) (by kernel_rfl) (by kernel_rfl) (fun _ _ _ h => h) (Or.inl ⟨by rfl, ?hyc3⟩) hS ?restc3
                      case hyc3 => (intro w hSw; (try dsimp only at hSw); (first | (go_simp; done) | (go_simp; with_reducible rfl)))
                      try simp only [Act.put, List.getElem_toArray, List.getElem_cons_succ, List.getElem_cons_zero, List.setIfInBounds_toArray, List.set_cons_zero, List.set_cons_succ]
                      refine wpAnyH_take (i := 4) (v := ?vc4) rfl (by kernel_rfl) (by kernel_rfl) (by kernel_rfl) (fun _ _ _ h => h) (Or.inl ⟨by rfl, ?hyc4⟩) hS ?restc4
                      case hyc4 => (intro w hSw; (try dsimp only at hSw); (first | (go_simp; done) | (go_simp; with_reducible rfl)))
                      try simp only [Act.put, List.getElem_toArray, List.getElem_cons_succ, List.getElem_cons_zero, List.setIfInBounds_toArray, List.set_cons_zero, List.set_cons_succ]
                      refine wpAnyH_take (i := 5) (v := ?vc5) rfl (by kernel_rfl) (by kernel_rfl) (by kernel_rfl) (fun _ _ _ h => h) (Or.inl ⟨by rfl, ?hyc5⟩) hS ?restc5
                      case hyc5 => (intro w hSw; (try dsimp only at hSw); (first | (go_simp; done) | (go_simp; with_reducible rfl)))
                      try simp only [Act.put, List.getElem_toArray, List.getElem_cons_succ, List.getElem_cons_zero, List.setIfInBounds_toArray, List.set_cons_zero, List.set_cons_succ]
                      refine wpAnyH_take (i := 6) (v := ?vc6) rfl (by kernel_rfl) (by kernel_rfl) (by kernel_rfl) (fun _ _ _ h => h) (Or.inl ⟨by rfl, ?hyc6⟩) hS ?restc6
                      case hyc6 => (intro w hSw; (try dsimp only at hSw); (first | (go_simp; done) | (go_simp; with_reducible rfl)))
                      try simp only [Act.put, List.getElem_toArray, List.getElem_cons_succ, List.getElem_cons_zero, List.setIfInBounds_toArray, List.set_cons_zero, List.set_cons_succ]
                      refine wpAnyH_take (i := 7) (v := ?vc7) rfl (by kernel_rfl) (by kernel_rfl) (by kernel_rfl) (fun _ _ _ h => h) (Or.inl ⟨by rfl, ?hyc7⟩) hS ?restc7
                      case hyc7 => (intro w hSw; (try dsimp only at hSw); (first | (go_simp; done) | (go_simp; with_reducible rfl)))
                      try simp only [Act.put, List.getElem_toArray, List.getElem_cons_succ, List.getElem_cons_zero, List.setIfInBounds_toArray, List.set_cons_zero, List.set_cons_succ]
                      try rw [decide_eq_false ineg]
                      refine wpAnyH_take (i := 8) (v := ?vc8) rfl (by kernel_rfl) (by kernel_rfl) (by kernel_rfl) (fun _ _ _ h => h) (Or.inl ⟨by rfl, ?hyc8⟩) hS ?restc8
                      case hyc8 => (intro w hSw; (try dsimp only at hSw); (first | (go_simp; done) | (go_simp; with_reducible rfl)))
                      try simp only [Act.put, List.getElem_toArray, List.getElem_cons_succ, List.getElem_cons_zero, List.setIfInBounds_toArray, List.set_cons_zero, List.set_cons_succ]
                      refine wpAnyH_take (i := 9) (v := ?vc9) rfl (by kernel_rfl) (by kernel_rfl) (by kernel_rfl) (fun _ _ _ h => h) (Or.inl ⟨by rfl, ?hyc9⟩) hS ?restc9
                      case hyc9 => (intro w hSw; (try dsimp only at hSw); (first | (go_simp; done) | (go_simp; with_reducible rfl)))
                      try simp only [Act.put, List.getElem_toArray, List.getElem_cons_succ, List.getElem_cons_zero, List.setIfInBounds_toArray, List.set_cons_zero, List.set_cons_succ]
                      refine wpAnyH_take (i := 10) (v := ?vc10) rfl (by kernel_rfl) (by kernel_rfl) (by kernel_rfl) (fun _ _ _ h => h) (Or.inl ⟨by rfl, ?hyc10⟩) hS ?restc10
                      case hyc10 => (intro w hSw; (try dsimp only at hSw); (first | (go_simp; done) | (go_simp; with_reducible rfl)))
                      try simp only [Act.put, List.getElem_toArray, List.getElem_cons_succ, List.getElem_cons_zero, List.setIfInBounds_toArray, List.set_cons_zero, List.set_cons_succ]
                      refine wpAnyH_take (i := 11) (v := ?vc11) rfl (by kernel_rfl) (by kernel_rfl) (by kernel_rfl) (fun _ _ _ h => h) (Or.inl ⟨by rfl, ?hyc11⟩) hS ?restc11
                      case hyc11 => (intro w hSw; (try dsimp only at hSw); (first | (go_simp; done) | (go_simp; with_reducible rfl)))
                      try simp only [Act.put, List.getElem_toArray, List.getElem_cons_succ, List.getElem_cons_zero, List.setIfInBounds_toArray, List.set_cons_zero, List.set_cons_succ]
                      refine wpAnyH_take (i := 12) (v := ?vc12) rfl (by kernel_rfl) (by kernel_rfl) (by kernel_rfl) (fun _ _ _ h => h) (Or.inl ⟨by rfl, ?hyc12⟩) hS ?restc12
                      case hyc12 => (intro w hSw; (try dsimp only at hSw); (first | (go_simp; done) | (go_simp; with_reducible rfl)))
                      try simp only [Act.put, List.getElem_toArray, List.getElem_cons_succ, List.getElem_cons_zero, List.setIfInBounds_toArray, List.set_cons_zero, List.set_cons_succ]
                      refine wpAnyH_take (i := 13) (v := ?vc13) rfl (by kernel_rfl) (by kernel_rfl) (by kernel_rfl) (fun _ _ _ h => h) (Or.inl ⟨by rfl, ?hyc13⟩) hS ?restc13
                      case hyc13 => (intro w hSw; (try dsimp only at hSw); (first | (go_simp; done) | (go_simp; with_reducible rfl)))
                      try simp only [Act.put, List.getElem_toArray, List.getElem_cons_succ, List.getElem_cons_zero, List.setIfInBounds_toArray, List.set_cons_zero, List.set_cons_succ]
                      refine wpAnyH_take (i := 14) (v := ?vc14) rfl (by kernel_rfl) (by kernel_rfl) (by kernel_rfl) (fun _ _ _ h => h) (Or.inl ⟨by rfl, ?hyc14⟩) hS ?restc14
                      case hyc14 => (intro w hSw; (try dsimp only at hSw); (first | (go_simp; done) | (go_simp; with_reducible rfl)))
                      try simp only [Act.put, List.getElem_toArray, List.getElem_cons_succ, List.getElem_cons_zero, List.setIfInBounds_toArray, List.set_cons_zero, List.set_cons_succ]
                      refine wpAnyH_take (i := 15) (v := ?vc15) rfl (by kernel_rfl) (by kernel_rfl) (by kernel_rfl) (fun _ _ _ h => h) (Or.inl ⟨by rfl, ?hyc15⟩) hS ?restc15
                      case hyc15 => (intro w hSw; (try dsimp only at hSw); (first | (go_simp; done) | (go_simp; with_reducible rfl)))
                      try simp only [Act.put, List.getElem_toArray, List.getElem_cons_succ, List.getElem_cons_zero, List.setIfInBounds_toArray, List.set_cons_zero, List.set_cons_succ]
                      refine wpAnyH_take (i := 16) (v := ?vc16) rfl (by kernel_rfl) (by kernel_rfl) (by kernel_rfl) (fun _ _ _ h => h) (Or.inl ⟨by rfl, ?hyc16⟩) hS ?restc16
                      case hyc16 => (intro w hSw; (try dsimp only at hSw); (first | (go_simp; done) | (go_simp; with_reducible rfl)))
                      try simp only [Act.put, List.getElem_toArray, List.getElem_cons_succ, List.getElem_cons_zero, List.setIfInBounds_toArray, List.set_cons_zero, List.set_cons_succ]
                      refine wpAnyH_take (i := 17) (v := ?vc17) rfl (by kernel_rfl) (by kernel_rfl) (by kernel_rfl) (fun _ _ _ h => h) (Or.inl ⟨by rfl, ?hyc17⟩) hS ?restc17
                      case hyc17 => (intro w hSw; (try dsimp only at hSw); (first | (go_simp; done) | (go_simp; with_reducible rfl)))
                      try simp only [Act.put, List.getElem_toArray, List.getElem_cons_succ, List.getElem_cons_zero, List.setIfInBounds_toArray, List.set_cons_zero, List.set_cons_succ]
                      refine wpAnyH_take (i := 19) (v := ?vc19) rfl (by kernel_rfl) (by kernel_rfl) (by kernel_rfl) (fun _ _ _ h => h) (Or.inl ⟨by rfl, ?hyc19⟩) hS ?restc19
                      case hyc19 => (intro w hSw; (try dsimp only at hSw); (first | (go_simp; done) | (go_simp; with_reducible rfl)))
                      try simp only [Act.put, List.getElem_toArray, List.getElem_cons_succ, List.getElem_cons_zero, List.setIfInBounds_toArray, List.set_cons_zero, List.set_cons_succ]
                      refine wpAnyH_take (i := 20) (v := ?vc20) rfl (by kernel_rfl) (by kernel_rfl) (by kernel_rfl) (fun _ _ _ h => h) (Or.inl ⟨by rfl, ?hyc20⟩) hS ?restc20
                      case hyc20 => (intro w hSw; (try dsimp only at hSw); (first | (go_simp; done) | (go_simp; with_reducible rfl)))
                      try simp only [Act.put, List.getElem_toArray, List.getElem_cons_succ, List.getElem_cons_zero, List.setIfInBounds_toArray, List.set_cons_zero, List.set_cons_succ]
                      refine wpAnyH_take (i := 21) (v := ?vc21) rfl (by kernel_rfl) (by kernel_rfl) (by kernel_rfl) (fun _ _ _ h => h) (Or.inl ⟨by rfl, ?hyc21⟩) hS ?restc21
                      case hyc21 => (intro w hSw; (try dsimp only at hSw); (first | (go_simp; done) | (go_simp; with_reducible rfl)))
                      try simp only [Act.put, List.getElem_toArray, List.getElem_cons_succ, List.getElem_cons_zero, List.setIfInBounds_toArray, List.set_cons_zero, List.set_cons_succ]
                      refine wpAnyH_take (i := 22) (v := ?vc22) rfl (by kernel_rfl) (by kernel_rfl) (by kernel_rfl) (fun _ _ _ h => h) (Or.inl ⟨by rfl, ?hyc22⟩) hS ?restc22
                      case hyc22 => (intro w hSw; (try dsimp only at hSw); (first | (go_simp; done) | (go_simp; with_reducible rfl)))
                      try simp only [Act.put, List.getElem_toArray, List.getElem_cons_succ, List.getElem_cons_zero, List.setIfInBounds_toArray, List.set_cons_zero, List.set_cons_succ]
                      refine wpAnyH_take (i := 23) (v := ?vc23) rfl (by kernel_rfl) (by kernel_rfl) (by kernel_rfl) (fun _ _ _ h => h) (Or.inl ⟨by rfl, ?hyc23⟩) hS ?restc23
                      case hyc23 => (intro w hSw; (try dsimp only at hSw); (first | (go_simp; done) | (go_simp; with_reducible rfl)))
                      try simp only [Act.put, List.getElem_toArray, List.getElem_cons_succ, List.getElem_cons_zero, List.setIfInBounds_toArray, List.set_cons_zero, List.set_cons_succ]
                      refine wpAnyH_take (i := 24) (v := ?vc24) rfl (by kernel_rfl) (by kernel_rfl) (by kernel_rfl) (fun _ _ _ h => h) (Or.inl ⟨by rfl, ?hyc24⟩) hS ?restc24
                      case hyc24 => (intro w hSw; (try dsimp only at hSw); (first | (go_simp; done) | (go_simp; with_reducible rfl)))
                      try simp only [Act.put, List.getElem_toArray, List.getElem_cons_succ, List.getElem_cons_zero, List.setIfInBounds_toArray, List.set_cons_zero, List.set_cons_succ]
                      refine wpAnyH_take (i := 25) (v := ?vc25) rfl (by kernel_rfl) (by kernel_rfl) (by kernel_rfl) (fun _ _ _ h => h) (Or.inl ⟨by rfl, ?hyc25⟩) hS ?restc25
                      case hyc25 => (intro w hSw; (try dsimp only at hSw); (first | (go_simp; done) | (go_simp; with_reducible rfl)))
                      try simp only [Act.put, List.getElem_toArray, List.getElem_cons_succ, List.getElem_cons_zero, List.setIfInBounds_toArray, List.set_cons_zero, List.set_cons_succ]
                      refine wpAnyH_take (i := 26) (v := ?vc26) rfl (by kernel_rfl) (by kernel_rfl) (by kernel_rfl) (fun _ _ _ h => h) (Or.inl ⟨by rfl, ?hyc26⟩) hS ?restc26
                      case hyc26 => (intro w hSw; (try dsimp only at hSw); (first | (go_simp; done) | (go_simp; with_reducible rfl)))
                      try simp only [Act.put, List.getElem_toArray, List.getElem_cons_succ, List.getElem_cons_zero, List.setIfInBounds_toArray, List.set_cons_zero, List.set_cons_succ]
                      refine wpAnyH_take (i := 27) (v := ?vc27) rfl (by kernel_rfl) (by kernel_rfl) (by kernel_rfl) (fun _ _ _ h => h) (Or.inl ⟨by rfl, ?hyc27⟩) hS ?restc27
                      case hyc27 => (intro w hSw; (try dsimp only at hSw); (first | (go_simp; done) | (go_simp; with_reducible rfl)))
                      try simp only [Act.put, List.getElem_toArray, List.getElem_cons_succ, List.getElem_cons_zero, List.setIfInBounds_toArray, List.set_cons_zero, List.set_cons_succ]
                      refine wpAnyH_ready (rs := [18]) (by kernel_rfl) (by simp) ?_
                      refine AllReadyH.cons rfl (fun K hK => ?_) AllReadyH.nil
                      try go_simp
                      refine PJ.out.mono ?_
                      rintro e w1 ⟨rfl, hb1⟩
                      have B1 := Lib.hid ((drew_below wr).trans hb1)
                      clear hb1
                      refine hK.out _ _ ⟨cell_later B1.out d0, cell_later B1.out bj0, cell_later B1.out bj1, cell_later B1.out sj, cell_later B1.out bi0, cell_later B1.out bi1, cell_later B1.out si⟩ (fun hS => ?_)
                      clear hK K
                      try simp only [Act.put, List.getElem_toArray, List.getElem_cons_succ, List.getElem_cons_zero, List.setIfInBounds_toArray, List.set_cons_zero, List.set_cons_succ]
                      refine wpAnyH_ready (rs := [28]) (by kernel_rfl) (by simp) ?_
                      refine AllReadyH.cons rfl (fun K hK => ?_) AllReadyH.nil
                      try go_simp
                      refine (PI.out w1 B1.out).mono ?_
                      rintro e w2 ⟨rfl, hb2⟩
                      have B2 := Lib.hid (B1.out.trans (hb2.mono B1.out.size))
                      clear hb2
                      refine hK.out _ _ ⟨cell_later B2.out d0, cell_later B2.out bj0, cell_later B2.out bj1, cell_later B2.out sj, cell_later B2.out bi0, cell_later B2.out bi1, cell_later B2.out si⟩ (fun hS => ?_)
                      clear hK K
                      try simp only [Act.put, List.getElem_toArray, List.getElem_cons_succ, List.getElem_cons_zero, List.setIfInBounds_toArray, List.set_cons_zero, List.set_cons_succ]
                      refine wpAnyH_take (i := 29) (v := ?vc29) rfl (by kernel_rfl) (by kernel_rfl) (by kernel_rfl) (fun _ _ _ h => h) (Or.inl ⟨by rfl, ?hyc29⟩) hS ?restc29
                      case hyc29 => (intro w hSw; (try dsimp only at hSw); (first | (go_simp; done) | (go_simp; with_reducible rfl)))
                      try simp only [Act.put, List.getElem_toArray, List.getElem_cons_succ, List.getElem_cons_zero, List.setIfInBounds_toArray, List.set_cons_zero, List.set_cons_succ]
                      refine wpAnyH_take (i := 30) (v := ?vc30) rfl (by kernel_rfl) (by kernel_rfl) (by kernel_rfl) (fun _ _ _ h => h) (Or.inl ⟨by rfl, ?hyc30⟩) hS ?restc30
                      case hyc30 => (intro w hSw; (try dsimp only at hSw); (first | (go_simp; done) | (go_simp; with_reducible rfl)))
                      try simp only [Act.put, List.getElem_toArray, List.getElem_cons_succ, List.getElem_cons_zero, List.setIfInBounds_toArray, List.set_cons_zero, List.set_cons_succ]
                      refine wpAnyH_take (i := 31) (v := ?vc31) rfl (by kernel_rfl) (by kernel_rfl) (by kernel_rfl) (fun _ _ _ h => h) (Or.inl ⟨by rfl, ?hyc31⟩) hS ?restc31
                      case hyc31 => (intro w hSw; (try dsimp only at hSw); (first | (go_simp; done) | (go_simp; with_reducible rfl)))
                      try simp only [Act.put, List.getElem_toArray, List.getElem_cons_succ, List.getElem_cons_zero, List.setIfInBounds_toArray, List.set_cons_zero, List.set_cons_succ]
                      refine wpAnyH_done (by kernel_rfl) ?_ _
                      have HB2 := Lib.hid (HWj.out.trans (B2.out.mono HWj.out.size))
                      clear hS
                      by_cases h6 : xj + yj < xi + yi
                      · have HPn := Lib.hid (HN1.out h6)
                        have c6 : (xj : Int) + (yj : Int) < (xi : Int) + (yi : Int) := by omega
                        go_wp2
                        go_roundg (q - (j + 1))
                        case measure => omega
                        case rel => exact ⟨j + 1, (j : Int), by go_num, by omega, Nat.le_refl _, rfl, HPn, HB2⟩
                      · have HPn := Lib.hid (HN2.out h6)
                        have c6 : ¬ (xj : Int) + (yj : Int) < (xi : Int) + (yi : Int) := by omega
                        go_wp2
                        go_roundg (q - (j + 1))
                        case measure => omega
                        case rel => exact ⟨j + 1, (i : Int), by go_num, by omega, Nat.le_refl _, rfl, HPn, HB2⟩
                · obtain rfl : q = j := by omega
                  have z1 : ¬ (q : Int) < (q : Int) := by omega
                  have hpl := HPj.out
                  rw [HDN.out, HOS.out] at hpl
                  obtain ⟨hzi, hi1, hi2⟩ := hpl.last h3
                  have hle := taken_le (vis := vis) h3
                  obtain ⟨i, hie⟩ : ∃ i, i = (sortR (begK vis) q)[t]! := ⟨_, rfl⟩
                  rw [← hie] at hzi hi1 hi2 hle
                  subst hzi
                  rw [← HOS.out, ← HDN.out] at hi2 hle
                  rw [← HOS.out] at hie
                  have hol : os.length = q := by rw [HOS.out]; exact sortR_len _ _
                  have HDR : Hid (os.drop t = i :: os.drop (t + 1)) := Lib.hid (by rw [List.drop_eq_getElem_cons (by rw [hol]; exact h3), hie, getElem!_pos os t (by rw [hol]; exact h3)])
                  have HTK : Hid (os.take (t + 1) = dn ++ [i]) := Lib.hid (by rw [List.take_add_one, List.getElem?_eq_getElem (by rw [hol]; exact h3), HDN.out, hie, getElem!_pos os t (by rw [hol]; exact h3)]; rfl)
                  have HLT : Hid (∀ r ∈ dn, r < q) := Lib.hid (fun r hr => by rw [HDN.out, HOS.out] at hr; exact (sortR_mem _ _ r).1 (List.mem_of_mem_take hr))
                  have HLE := Lib.hid hle
                  have hib : i < bn.length := by rw [HLB.out]; exact hi1
                  have hpos : (vis[i]!).1 < (vis[i]!).2 := by
                    rw [HVA.out i hi1]
                    have := (HTT.out.tm i hib k hvk).1
                    show ss[i]! + begN bn[i]! k < ss[i]! + begN bn[i]! (k + 1)
                    rw [beg_next]
                    omega
                  have HPS := Lib.hid hpos
                  have HNI := Lib.hid hi2
                  have i0 : (0 : Int) ≤ (i : Int) := by omega
                  have i1 : (i : Int) < (q : Int) := by omega
                  have HT1 := HTt
                  obtain ⟨bi, hbi⟩ : ∃ bi, bi = (vis[i]!).1 := ⟨_, rfl⟩
                  have HBI := Lib.hid hbi
                  clear hpl hi2 hle hie hol hpos hbi
                  go_upto_region 20 with (at_make; refine wpList_mkG rfl _ 80 4 rfl (.bool false) 1 1 Tryd.underlying80 (by kernel_rfl) ((q : Int) + 8) (q + 8) rfl (by omega) (by omega) (by omega) ?_; intro w5 hB5 hb5 hz5; have K5 := Lib.hid hB5; have B5 := Lib.hid hb5; clear hB5 hb5 hz5)
                  obtain ⟨gu, hgu⟩ : ∃ g, g = wr.heap.size := ⟨_, rfl⟩
                  have HU0 : Hid (Bls w5 gu (usedL vis (dnB dn) ch bi 0 (q + 8))) := Lib.hid (by
                    show Box _ _ _ _
                    rw [usedL_zero, ← made_bools, hgu]
                    exact K5.out)
                  have HGU : Hid (wo.heap.size ≤ gu) := Lib.hid (by rw [hgu]; exact HWj.out.size)
                  have HW5 := Lib.hid (below_then HWj.out B5.out)
                  rw [← hgu]
                  clear hgu
                  go_wp2
                  go_loopg [16] q (fun gg s16 wy => ∃ r : Nat, s16 = .int .i64 (r : Int) ∧ r ≤ q ∧ q - r ≤ gg ∧ Hid (Bls wy gu (usedL vis (dnB dn) ch bi r (q + 8))) ∧ Hid (Below wo.heap.size wo wy))
                  case atStart => exact ⟨0, rfl, Nat.zero_le _, by omega, HU0, HW5⟩
                  case round =>
                    obtain ⟨r, rfl, hr, hgg5, HUr, HWr⟩ := hrel
                    have HWW := Lib.hid (HXo.out.bel.trans (HWr.out.mono HXo.out.bel.size))
                    by_cases h6 : r < q
                    · have r0 : (0 : Int) ≤ (r : Int) := by omega
                      have r1 : (r : Int) < (q : Int) := by omega
                      have d0 := (HDo.out.keep HWr.out).at (i := r) (by rw [flagsL_len]; exact h6)
                      rw [flagsL_at _ _ _ h6] at d0
                      by_cases h7 : r ∈ dn
                      · have hd1 : dnB dn r = true := decide_eq_true h7
                        rw [hd1] at d0
                        have hjlt : r < q := h6
                        have hilt : i < q := hi1
                        have hjb : r < bn.length := by rw [HLB.out]; exact hjlt
                        obtain ⟨gj, oj, taj, tlj, tcj, hgj, hxj⟩ := (HBB.out.keep HWW.out).at hjlt
                        rw [bI_at hjb] at hxj
                        have hlj : (bn[r]!).tm.length ≤ 3 := by have := HTT.out.len r hjb; have := HTT.out.house.few; omega
                        have hmj : ∀ y, y < (bn[r]!).tm.length → (bn[r]!).tm[y]! ≤ 30 := fun y hy => (HTT.out.tm r hjb y (by rw [← HTT.out.len r hjb]; exact hy)).2
                        have hkj : k ≤ (bn[r]!).tm.length := by rw [HTT.out.len r hjb, HLV.out]; omega
                        have hsj := HS3.out r hjlt
                        have hib : i < bn.length := by rw [HLB.out]; exact hilt
                        obtain ⟨gi, oi, tai, tli, tci, hgi, hxi⟩ := (HBB.out.keep HWW.out).at hilt
                        rw [bI_at hib] at hxi
                        have hli : (bn[i]!).tm.length ≤ 3 := by have := HTT.out.len i hib; have := HTT.out.house.few; omega
                        have hmi : ∀ y, y < (bn[i]!).tm.length → (bn[i]!).tm[y]! ≤ 30 := fun y hy => (HTT.out.tm i hib y (by rw [← HTT.out.len i hib]; exact hy)).2
                        have hki : k ≤ (bn[i]!).tm.length := by rw [HTT.out.len i hib, HLV.out]; omega
                        have hsi := HS3.out i hilt
                        obtain ⟨gs, so, hgs, hcs⟩ := (HSS.out.keep HWW.out).at (by omega)
                        have sj := hcs r h6
                        have si := hcs i hilt
                        rw [vI_get] at sj si
                        have P := meet_any ((bn[i]!).rdy : Int) ((bn[r]!).rdy : Int) (ss[i]! : Int) (ss[r]! : Int) tai tli tci taj tlj tcj k bn[i]! bn[r]! wr.drew hxi.il.drew hxj.il.drew hmi hmj hli hlj (by rw [HTT.out.len i hib]; omega) (by rw [HTT.out.len r hjb]; omega) (by omega) (by omega) (by omega) (by omega)
                        have kr := HVA.out r h6
                        have ki := HVA.out i hilt
                        have hle1 := HLE.out r h7
                        have hps := HPS.out
                        have hmk : meetK bn[i]! bn[r]! (ss[i]! : Int) (ss[r]! : Int) k = decide (bi < (vis[r]!).2) := by
                          rw [kr, ki] at hle1
                          rw [ki] at hps
                          rw [meetK_behind (show ss[r]! + begN bn[r]! k ≤ ss[i]! + begN bn[i]! k from hle1) (by have : ss[i]! + begN bn[i]! k < ss[i]! + begN bn[i]! (k + 1) := hps; omega), HBI.out, kr, ki]
                          rfl
                        rw [hmk] at P
                        obtain ⟨bb, hbb⟩ : ∃ bb, bb = decide (bi < (vis[r]!).2) := ⟨_, rfl⟩
                        rw [← hbb] at P
                        have P := Lib.hid P
                        have HBB2 := Lib.hid hbb
                        have HR7 := Lib.hid h7
                        have hcr : ch[r]! < m := HTt.out.lt r h7
                        have HDR1 := Lib.hid hd1
                        have bj0 : wr.cell? ⟨gj, oj + r * 2, none⟩ = some (.int .i64 ((bn[r]!).rdy : Int)) := hxj.c0
                        have bj1 := hxj.c1
                        have bi0 : wr.cell? ⟨gi, oi + i * 2, none⟩ = some (.int .i64 ((bn[i]!).rdy : Int)) := hxi.c0
                        have bi1 := hxi.c1
                        obtain rfl : gj = gi := by have := hgj.symm.trans hgi; simpa using congrArg (fun (o : Option Addr) => o.map (·.block)) this
                        obtain rfl : oj = oi := by have := hgj.symm.trans hgi; simpa using congrArg (fun (o : Option Addr) => o.map (·.off)) this
                        subst hgj hgs
                        generalize (bn[r]!).rdy = rj at P bj0
                        generalize (bn[i]!).rdy = ri at P bi0
                        generalize ss[r]! = xj at sj P hsj
                        generalize ss[i]! = xi at si P hsi
                        clear kr ki hle1 hps hmk hbb h7 hd1 hxj hxi hmj hmi hlj hli hkj hki hcs hgi hjb
                        go_upto_region 23 with fail
                        refine wp_region_held_drew (S := fun w' => w'.cell? ⟨gd, r, none⟩ = some (.bool true) ∧ w'.cell? ⟨gj, oj + r * 2, none⟩ = some (.int .i64 (rj : Int)) ∧ w'.cell? ⟨gj, oj + r * 2 + 1, none⟩ = some (.slice taj tlj tcj) ∧ w'.cell? ⟨gs, so + r, none⟩ = some (.int .i64 (xj : Int)) ∧ w'.cell? ⟨gj, oj + i * 2, none⟩ = some (.int .i64 (ri : Int)) ∧ w'.cell? ⟨gj, oj + i * 2 + 1, none⟩ = some (.slice tai tli tci) ∧ w'.cell? ⟨gs, so + i, none⟩ = some (.int .i64 (xi : Int))) (by kernel_rfl) ⟨d0, bj0, bj1, sj, bi0, bi1, si⟩ (fun hS => ?_)
                        refine wpAnyH_take (i := 0) (v := ?vm0) rfl (by kernel_rfl) (by kernel_rfl) (by kernel_rfl) (fun _ _ _ h => h) (Or.inl ⟨by rfl, ?hym0⟩) hS ?restm0
                        case hym0 => (intro w hSw; (try dsimp only at hSw); (first | (go_simp; done) | (go_simp; with_reducible rfl)))
                        try simp only [Act.put, List.getElem_toArray, List.getElem_cons_succ, List.getElem_cons_zero, List.setIfInBounds_toArray, List.set_cons_zero, List.set_cons_succ]
                        refine wpAnyH_take (i := 1) (v := ?vm1) rfl (by kernel_rfl) (by kernel_rfl) (by kernel_rfl) (fun _ _ _ h => h) (Or.inl ⟨by rfl, ?hym1⟩) hS ?restm1
                        case hym1 => (intro w hSw; (try dsimp only at hSw); (first | (go_simp; done) | (go_simp; with_reducible rfl)))
                        try simp only [Act.put, List.getElem_toArray, List.getElem_cons_succ, List.getElem_cons_zero, List.setIfInBounds_toArray, List.set_cons_zero, List.set_cons_succ]
                        refine wpAnyH_take (i := 2) (v := ?vm2) rfl (by kernel_rfl) (by kernel_rfl) (by kernel_rfl) (fun _ _ _ h => h) (Or.inl ⟨by rfl, ?hym2⟩) hS ?restm2
                        case hym2 => (intro w hSw; (try dsimp only at hSw); (first | (go_simp; done) | (go_simp; with_reducible rfl)))
                        try simp only [Act.put, List.getElem_toArray, List.getElem_cons_succ, List.getElem_cons_zero, List.setIfInBounds_toArray, List.set_cons_zero, List.set_cons_succ]
                        refine wpAnyH_take (i := 3) (v := ?vm3) rfl (by kernel_rfl) (by kernel_rfl) (by kernel_rfl) (fun _ _ _ h => h) (Or.inl ⟨by rfl, ?hym3⟩) hS ?restm3
                        case hym3 => (intro w hSw; (try dsimp only at hSw); (first | (go_simp; done) | (go_simp; with_reducible rfl)))
                        try simp only [Act.put, List.getElem_toArray, List.getElem_cons_succ, List.getElem_cons_zero, List.setIfInBounds_toArray, List.set_cons_zero, List.set_cons_succ]
                        refine wpAnyH_take (i := 4) (v := ?vm4) rfl (by kernel_rfl) (by kernel_rfl) (by kernel_rfl) (fun _ _ _ h => h) (Or.inl ⟨by rfl, ?hym4⟩) hS ?restm4
                        case hym4 => (intro w hSw; (try dsimp only at hSw); (first | (go_simp; done) | (go_simp; with_reducible rfl)))
                        try simp only [Act.put, List.getElem_toArray, List.getElem_cons_succ, List.getElem_cons_zero, List.setIfInBounds_toArray, List.set_cons_zero, List.set_cons_succ]
                        refine wpAnyH_take (i := 5) (v := ?vm5) rfl (by kernel_rfl) (by kernel_rfl) (by kernel_rfl) (fun _ _ _ h => h) (Or.inl ⟨by rfl, ?hym5⟩) hS ?restm5
                        case hym5 => (intro w hSw; (try dsimp only at hSw); (first | (go_simp; done) | (go_simp; with_reducible rfl)))
                        try simp only [Act.put, List.getElem_toArray, List.getElem_cons_succ, List.getElem_cons_zero, List.setIfInBounds_toArray, List.set_cons_zero, List.set_cons_succ]
                        refine wpAnyH_take (i := 6) (v := ?vm6) rfl (by kernel_rfl) (by kernel_rfl) (by kernel_rfl) (fun _ _ _ h => h) (Or.inl ⟨by rfl, ?hym6⟩) hS ?restm6
                        case hym6 => (intro w hSw; (try dsimp only at hSw); (first | (go_simp; done) | (go_simp; with_reducible rfl)))
                        try simp only [Act.put, List.getElem_toArray, List.getElem_cons_succ, List.getElem_cons_zero, List.setIfInBounds_toArray, List.set_cons_zero, List.set_cons_succ]
                        refine wpAnyH_take (i := 7) (v := ?vm7) rfl (by kernel_rfl) (by kernel_rfl) (by kernel_rfl) (fun _ _ _ h => h) (Or.inl ⟨by rfl, ?hym7⟩) hS ?restm7
                        case hym7 => (intro w hSw; (try dsimp only at hSw); (first | (go_simp; done) | (go_simp; with_reducible rfl)))
                        try simp only [Act.put, List.getElem_toArray, List.getElem_cons_succ, List.getElem_cons_zero, List.setIfInBounds_toArray, List.set_cons_zero, List.set_cons_succ]
                        refine wpAnyH_take (i := 8) (v := ?vm8) rfl (by kernel_rfl) (by kernel_rfl) (by kernel_rfl) (fun _ _ _ h => h) (Or.inl ⟨by rfl, ?hym8⟩) hS ?restm8
                        case hym8 => (intro w hSw; (try dsimp only at hSw); (first | (go_simp; done) | (go_simp; with_reducible rfl)))
                        try simp only [Act.put, List.getElem_toArray, List.getElem_cons_succ, List.getElem_cons_zero, List.setIfInBounds_toArray, List.set_cons_zero, List.set_cons_succ]
                        refine wpAnyH_take (i := 9) (v := ?vm9) rfl (by kernel_rfl) (by kernel_rfl) (by kernel_rfl) (fun _ _ _ h => h) (Or.inl ⟨by rfl, ?hym9⟩) hS ?restm9
                        case hym9 => (intro w hSw; (try dsimp only at hSw); (first | (go_simp; done) | (go_simp; with_reducible rfl)))
                        try simp only [Act.put, List.getElem_toArray, List.getElem_cons_succ, List.getElem_cons_zero, List.setIfInBounds_toArray, List.set_cons_zero, List.set_cons_succ]
                        refine wpAnyH_take (i := 10) (v := ?vm10) rfl (by kernel_rfl) (by kernel_rfl) (by kernel_rfl) (fun _ _ _ h => h) (Or.inl ⟨by rfl, ?hym10⟩) hS ?restm10
                        case hym10 => (intro w hSw; (try dsimp only at hSw); (first | (go_simp; done) | (go_simp; with_reducible rfl)))
                        try simp only [Act.put, List.getElem_toArray, List.getElem_cons_succ, List.getElem_cons_zero, List.setIfInBounds_toArray, List.set_cons_zero, List.set_cons_succ]
                        refine wpAnyH_take (i := 11) (v := ?vm11) rfl (by kernel_rfl) (by kernel_rfl) (by kernel_rfl) (fun _ _ _ h => h) (Or.inl ⟨by rfl, ?hym11⟩) hS ?restm11
                        case hym11 => (intro w hSw; (try dsimp only at hSw); (first | (go_simp; done) | (go_simp; with_reducible rfl)))
                        try simp only [Act.put, List.getElem_toArray, List.getElem_cons_succ, List.getElem_cons_zero, List.setIfInBounds_toArray, List.set_cons_zero, List.set_cons_succ]
                        refine wpAnyH_take (i := 12) (v := ?vm12) rfl (by kernel_rfl) (by kernel_rfl) (by kernel_rfl) (fun _ _ _ h => h) (Or.inl ⟨by rfl, ?hym12⟩) hS ?restm12
                        case hym12 => (intro w hSw; (try dsimp only at hSw); (first | (go_simp; done) | (go_simp; with_reducible rfl)))
                        try simp only [Act.put, List.getElem_toArray, List.getElem_cons_succ, List.getElem_cons_zero, List.setIfInBounds_toArray, List.set_cons_zero, List.set_cons_succ]
                        refine wpAnyH_take (i := 13) (v := ?vm13) rfl (by kernel_rfl) (by kernel_rfl) (by kernel_rfl) (fun _ _ _ h => h) (Or.inl ⟨by rfl, ?hym13⟩) hS ?restm13
                        case hym13 => (intro w hSw; (try dsimp only at hSw); (first | (go_simp; done) | (go_simp; with_reducible rfl)))
                        try simp only [Act.put, List.getElem_toArray, List.getElem_cons_succ, List.getElem_cons_zero, List.setIfInBounds_toArray, List.set_cons_zero, List.set_cons_succ]
                        refine wpAnyH_take (i := 14) (v := ?vm14) rfl (by kernel_rfl) (by kernel_rfl) (by kernel_rfl) (fun _ _ _ h => h) (Or.inl ⟨by rfl, ?hym14⟩) hS ?restm14
                        case hym14 => (intro w hSw; (try dsimp only at hSw); (first | (go_simp; done) | (go_simp; with_reducible rfl)))
                        try simp only [Act.put, List.getElem_toArray, List.getElem_cons_succ, List.getElem_cons_zero, List.setIfInBounds_toArray, List.set_cons_zero, List.set_cons_succ]
                        refine wpAnyH_take (i := 15) (v := ?vm15) rfl (by kernel_rfl) (by kernel_rfl) (by kernel_rfl) (fun _ _ _ h => h) (Or.inl ⟨by rfl, ?hym15⟩) hS ?restm15
                        case hym15 => (intro w hSw; (try dsimp only at hSw); (first | (go_simp; done) | (go_simp; with_reducible rfl)))
                        try simp only [Act.put, List.getElem_toArray, List.getElem_cons_succ, List.getElem_cons_zero, List.setIfInBounds_toArray, List.set_cons_zero, List.set_cons_succ]
                        refine wpAnyH_take (i := 16) (v := ?vm16) rfl (by kernel_rfl) (by kernel_rfl) (by kernel_rfl) (fun _ _ _ h => h) (Or.inl ⟨by rfl, ?hym16⟩) hS ?restm16
                        case hym16 => (intro w hSw; (try dsimp only at hSw); (first | (go_simp; done) | (go_simp; with_reducible rfl)))
                        try simp only [Act.put, List.getElem_toArray, List.getElem_cons_succ, List.getElem_cons_zero, List.setIfInBounds_toArray, List.set_cons_zero, List.set_cons_succ]
                        refine wpAnyH_take (i := 17) (v := ?vm17) rfl (by kernel_rfl) (by kernel_rfl) (by kernel_rfl) (fun _ _ _ h => h) (Or.inl ⟨by rfl, ?hym17⟩) hS ?restm17
                        case hym17 => (intro w hSw; (try dsimp only at hSw); (first | (go_simp; done) | (go_simp; with_reducible rfl)))
                        try simp only [Act.put, List.getElem_toArray, List.getElem_cons_succ, List.getElem_cons_zero, List.setIfInBounds_toArray, List.set_cons_zero, List.set_cons_succ]
                        refine wpAnyH_take (i := 18) (v := ?vm18) rfl (by kernel_rfl) (by kernel_rfl) (by kernel_rfl) (fun _ _ _ h => h) (Or.inl ⟨by rfl, ?hym18⟩) hS ?restm18
                        case hym18 => (intro w hSw; (try dsimp only at hSw); (first | (go_simp; done) | (go_simp; with_reducible rfl)))
                        try simp only [Act.put, List.getElem_toArray, List.getElem_cons_succ, List.getElem_cons_zero, List.setIfInBounds_toArray, List.set_cons_zero, List.set_cons_succ]
                        refine wpAnyH_take (i := 19) (v := ?vm19) rfl (by kernel_rfl) (by kernel_rfl) (by kernel_rfl) (fun _ _ _ h => h) (Or.inl ⟨by rfl, ?hym19⟩) hS ?restm19
                        case hym19 => (intro w hSw; (try dsimp only at hSw); (first | (go_simp; done) | (go_simp; with_reducible rfl)))
                        try simp only [Act.put, List.getElem_toArray, List.getElem_cons_succ, List.getElem_cons_zero, List.setIfInBounds_toArray, List.set_cons_zero, List.set_cons_succ]
                        refine wpAnyH_take (i := 20) (v := ?vm20) rfl (by kernel_rfl) (by kernel_rfl) (by kernel_rfl) (fun _ _ _ h => h) (Or.inl ⟨by rfl, ?hym20⟩) hS ?restm20
                        case hym20 => (intro w hSw; (try dsimp only at hSw); (first | (go_simp; done) | (go_simp; with_reducible rfl)))
                        try simp only [Act.put, List.getElem_toArray, List.getElem_cons_succ, List.getElem_cons_zero, List.setIfInBounds_toArray, List.set_cons_zero, List.set_cons_succ]
                        refine wpAnyH_take (i := 21) (v := ?vm21) rfl (by kernel_rfl) (by kernel_rfl) (by kernel_rfl) (fun _ _ _ h => h) (Or.inl ⟨by rfl, ?hym21⟩) hS ?restm21
                        case hym21 => (intro w hSw; (try dsimp only at hSw); (first | (go_simp; done) | (go_simp; with_reducible rfl)))
                        try simp only [Act.put, List.getElem_toArray, List.getElem_cons_succ, List.getElem_cons_zero, List.setIfInBounds_toArray, List.set_cons_zero, List.set_cons_succ]
                        refine wpAnyH_ready (rs := [22]) (by kernel_rfl) (by simp) ?_
                        refine AllReadyH.cons rfl (fun K hK => ?_) AllReadyH.nil
                        try go_simp
                        refine P.out.mono ?_
                        rintro e w1 ⟨rfl, hb1⟩
                        have B1 := Lib.hid ((drew_below wr).trans hb1)
                        clear hb1
                        refine hK.out _ _ ⟨cell_later B1.out d0, cell_later B1.out bj0, cell_later B1.out bj1, cell_later B1.out sj, cell_later B1.out bi0, cell_later B1.out bi1, cell_later B1.out si⟩ (fun hS => ?_)
                        clear hK K
                        try simp only [Act.put, List.getElem_toArray, List.getElem_cons_succ, List.getElem_cons_zero, List.setIfInBounds_toArray, List.set_cons_zero, List.set_cons_succ]
                        refine wpAnyH_take (i := 23) (v := ?vm23) rfl (by kernel_rfl) (by kernel_rfl) (by kernel_rfl) (fun _ _ _ h => h) (Or.inl ⟨by rfl, ?hym23⟩) hS ?restm23
                        case hym23 => (intro w hSw; (try dsimp only at hSw); (first | (go_simp; done) | (go_simp; with_reducible rfl)))
                        try simp only [Act.put, List.getElem_toArray, List.getElem_cons_succ, List.getElem_cons_zero, List.setIfInBounds_toArray, List.set_cons_zero, List.set_cons_succ]
                        refine wpAnyH_done (by kernel_rfl) ?_ _
                        clear hS
                        have HB2 := Lib.hid (HWr.out.trans (B1.out.mono HWr.out.size))
                        have HU2 := Lib.hid (HUr.out.keep B1.out)
                        cases bb with
                        | false =>
                          have HUn : Hid (Bls w1 gu (usedL vis (dnB dn) ch bi (r + 1) (q + 8))) := Lib.hid (by rw [usedL_same (.inr (of_decide_eq_false HBB2.out.symm))]; exact HU2.out)
                          go_wp2
                          go_roundg (q - (r + 1))
                          case measure => omega
                          case rel => exact ⟨r + 1, by go_num, by omega, Nat.le_refl _, HUn, HB2⟩
                        | true =>
                          have HX2 := HXo.out.keep HB2.out
                          have e0 := (HX2.hd.cell r).trans (rowsC_get W.heap.size q vl q r h6)
                          rw [if_pos h6] at e0
                          have e1 := (HX2.row r h6).cell k (by rw [vI_len, rowT_len]; exact h2)
                          rw [vI_get, rowT_get _ _ _ _ _ h2] at e1
                          have f1 := HU2.out.free (ch[r]!)
                          have f0 := HU2.out.at (i := ch[r]!) (by rw [usedL_len]; omega)
                          have HUn : Hid (Bls (w1.setCell ⟨gu, ch[r]!, none⟩ (.bool true)) gu (usedL vis (dnB dn) ch bi (r + 1) (q + 8))) := Lib.hid (by rw [← usedL_set HDR1.out (of_decide_eq_true HBB2.out.symm) (by omega)]; exact HU2.out.set _ _)
                          have HBn : Hid (Below wo.heap.size wo (w1.setCell ⟨gu, ch[r]!, none⟩ (.bool true))) := Lib.hid (HB2.out.setCell (p := ⟨gu, ch[r]!, none⟩) HGU.out _)
                          generalize ch[r]! = cr at e1 f0 f1 hcr HUn HBn
                          have w0 : (0 : Int) ≤ (cr : Int) := by omega
                          have w1' : (cr : Int) < (q : Int) + 8 := by omega
                          clear HX2
                          go_wp2
                          go_roundg (q - (r + 1))
                          case measure => omega
                          case rel => exact ⟨r + 1, by go_num, by omega, Nat.le_refl _, HUn, HBn⟩
                      · have hd1 : dnB dn r = false := decide_eq_false h7
                        rw [hd1] at d0
                        have HDR1 := Lib.hid hd1
                        clear hd1 h7
                        go_upto_region 23 with fail
                        refine wp_region_held_drew (S := fun w' => w'.cell? ⟨gd, r, none⟩ = some (.bool false)) (by kernel_rfl) d0 (fun hS => ?_)
                        refine wpAnyH_take (i := 0) (v := ?vn0) rfl (by kernel_rfl) (by kernel_rfl) (by kernel_rfl) (fun _ _ _ h => h) (Or.inl ⟨by rfl, ?hyn0⟩) hS ?restn0
                        case hyn0 => (intro w hSw; (try dsimp only at hSw); (first | (go_simp; done) | (go_simp; with_reducible rfl)))
                        try simp only [Act.put, List.getElem_toArray, List.getElem_cons_succ, List.getElem_cons_zero, List.setIfInBounds_toArray, List.set_cons_zero, List.set_cons_succ]
                        refine wpAnyH_take (i := 1) (v := ?vn1) rfl (by kernel_rfl) (by kernel_rfl) (by kernel_rfl) (fun _ _ _ h => h) (Or.inl ⟨by rfl, ?hyn1⟩) hS ?restn1
                        case hyn1 => (intro w hSw; (try dsimp only at hSw); (first | (go_simp; done) | (go_simp; with_reducible rfl)))
                        try simp only [Act.put, List.getElem_toArray, List.getElem_cons_succ, List.getElem_cons_zero, List.setIfInBounds_toArray, List.set_cons_zero, List.set_cons_succ]
                        refine wpAnyH_take (i := 2) (v := ?vn2) rfl (by kernel_rfl) (by kernel_rfl) (by kernel_rfl) (fun _ _ _ h => h) (Or.inl ⟨by rfl, ?hyn2⟩) hS ?restn2
                        case hyn2 => (intro w hSw; (try dsimp only at hSw); (first | (go_simp; done) | (go_simp; with_reducible rfl)))
                        try simp only [Act.put, List.getElem_toArray, List.getElem_cons_succ, List.getElem_cons_zero, List.setIfInBounds_toArray, List.set_cons_zero, List.set_cons_succ]
                        refine wpAnyH_take (i := 3) (v := ?vn3) rfl (by kernel_rfl) (by kernel_rfl) (by kernel_rfl) (fun _ _ _ h => h) (Or.inl ⟨by rfl, ?hyn3⟩) hS ?restn3
                        case hyn3 => (intro w hSw; (try dsimp only at hSw); (first | (go_simp; done) | (go_simp; with_reducible rfl)))
                        try simp only [Act.put, List.getElem_toArray, List.getElem_cons_succ, List.getElem_cons_zero, List.setIfInBounds_toArray, List.set_cons_zero, List.set_cons_succ]
                        refine wpAnyH_take (i := 4) (v := ?vn4) rfl (by kernel_rfl) (by kernel_rfl) (by kernel_rfl) (fun _ _ _ h => h) (Or.inl ⟨by rfl, ?hyn4⟩) hS ?restn4
                        case hyn4 => (intro w hSw; (try dsimp only at hSw); (first | (go_simp; done) | (go_simp; with_reducible rfl)))
                        try simp only [Act.put, List.getElem_toArray, List.getElem_cons_succ, List.getElem_cons_zero, List.setIfInBounds_toArray, List.set_cons_zero, List.set_cons_succ]
                        refine wpAnyH_take (i := 5) (v := undef) rfl (by kernel_rfl) (by kernel_rfl) (by kernel_rfl) (fun _ _ _ h => h) (Or.inr ⟨by rfl, rfl⟩) hS ?_
                        try simp only [Act.put, List.getElem_toArray, List.getElem_cons_succ, List.getElem_cons_zero, List.setIfInBounds_toArray, List.set_cons_zero, List.set_cons_succ]
                        refine wpAnyH_take (i := 6) (v := undef) rfl (by kernel_rfl) (by kernel_rfl) (by kernel_rfl) (fun _ _ _ h => h) (Or.inr ⟨by rfl, rfl⟩) hS ?_
                        try simp only [Act.put, List.getElem_toArray, List.getElem_cons_succ, List.getElem_cons_zero, List.setIfInBounds_toArray, List.set_cons_zero, List.set_cons_succ]
                        refine wpAnyH_take (i := 7) (v := undef) rfl (by kernel_rfl) (by kernel_rfl) (by kernel_rfl) (fun _ _ _ h => h) (Or.inr ⟨by rfl, rfl⟩) hS ?_
                        try simp only [Act.put, List.getElem_toArray, List.getElem_cons_succ, List.getElem_cons_zero, List.setIfInBounds_toArray, List.set_cons_zero, List.set_cons_succ]
                        refine wpAnyH_take (i := 8) (v := undef) rfl (by kernel_rfl) (by kernel_rfl) (by kernel_rfl) (fun _ _ _ h => h) (Or.inr ⟨by rfl, rfl⟩) hS ?_
                        try simp only [Act.put, List.getElem_toArray, List.getElem_cons_succ, List.getElem_cons_zero, List.setIfInBounds_toArray, List.set_cons_zero, List.set_cons_succ]
                        refine wpAnyH_take (i := 9) (v := undef) rfl (by kernel_rfl) (by kernel_rfl) (by kernel_rfl) (fun _ _ _ h => h) (Or.inr ⟨by rfl, rfl⟩) hS ?_
                        try simp only [Act.put, List.getElem_toArray, List.getElem_cons_succ, List.getElem_cons_zero, List.setIfInBounds_toArray, List.set_cons_zero, List.set_cons_succ]
                        refine wpAnyH_take (i := 10) (v := undef) rfl (by kernel_rfl) (by kernel_rfl) (by kernel_rfl) (fun _ _ _ h => h) (Or.inr ⟨by rfl, rfl⟩) hS ?_
                        try simp only [Act.put, List.getElem_toArray, List.getElem_cons_succ, List.getElem_cons_zero, List.setIfInBounds_toArray, List.set_cons_zero, List.set_cons_succ]
                        refine wpAnyH_take (i := 11) (v := undef) rfl (by kernel_rfl) (by kernel_rfl) (by kernel_rfl) (fun _ _ _ h => h) (Or.inr ⟨by rfl, rfl⟩) hS ?_
                        try simp only [Act.put, List.getElem_toArray, List.getElem_cons_succ, List.getElem_cons_zero, List.setIfInBounds_toArray, List.set_cons_zero, List.set_cons_succ]
                        refine wpAnyH_take (i := 12) (v := undef) rfl (by kernel_rfl) (by kernel_rfl) (by kernel_rfl) (fun _ _ _ h => h) (Or.inr ⟨by rfl, rfl⟩) hS ?_
                        try simp only [Act.put, List.getElem_toArray, List.getElem_cons_succ, List.getElem_cons_zero, List.setIfInBounds_toArray, List.set_cons_zero, List.set_cons_succ]
                        refine wpAnyH_take (i := 13) (v := undef) rfl (by kernel_rfl) (by kernel_rfl) (by kernel_rfl) (fun _ _ _ h => h) (Or.inr ⟨by rfl, rfl⟩) hS ?_
                        try simp only [Act.put, List.getElem_toArray, List.getElem_cons_succ, List.getElem_cons_zero, List.setIfInBounds_toArray, List.set_cons_zero, List.set_cons_succ]
                        refine wpAnyH_take (i := 14) (v := undef) rfl (by kernel_rfl) (by kernel_rfl) (by kernel_rfl) (fun _ _ _ h => h) (Or.inr ⟨by rfl, rfl⟩) hS ?_
                        try simp only [Act.put, List.getElem_toArray, List.getElem_cons_succ, List.getElem_cons_zero, List.setIfInBounds_toArray, List.set_cons_zero, List.set_cons_succ]
                        refine wpAnyH_take (i := 15) (v := undef) rfl (by kernel_rfl) (by kernel_rfl) (by kernel_rfl) (fun _ _ _ h => h) (Or.inr ⟨by rfl, rfl⟩) hS ?_
                        try simp only [Act.put, List.getElem_toArray, List.getElem_cons_succ, List.getElem_cons_zero, List.setIfInBounds_toArray, List.set_cons_zero, List.set_cons_succ]
                        refine wpAnyH_take (i := 16) (v := undef) rfl (by kernel_rfl) (by kernel_rfl) (by kernel_rfl) (fun _ _ _ h => h) (Or.inr ⟨by rfl, rfl⟩) hS ?_
                        try simp only [Act.put, List.getElem_toArray, List.getElem_cons_succ, List.getElem_cons_zero, List.setIfInBounds_toArray, List.set_cons_zero, List.set_cons_succ]
                        refine wpAnyH_take (i := 17) (v := undef) rfl (by kernel_rfl) (by kernel_rfl) (by kernel_rfl) (fun _ _ _ h => h) (Or.inr ⟨by rfl, rfl⟩) hS ?_
                        try simp only [Act.put, List.getElem_toArray, List.getElem_cons_succ, List.getElem_cons_zero, List.setIfInBounds_toArray, List.set_cons_zero, List.set_cons_succ]
                        refine wpAnyH_take (i := 18) (v := undef) rfl (by kernel_rfl) (by kernel_rfl) (by kernel_rfl) (fun _ _ _ h => h) (Or.inr ⟨by rfl, rfl⟩) hS ?_
                        try simp only [Act.put, List.getElem_toArray, List.getElem_cons_succ, List.getElem_cons_zero, List.setIfInBounds_toArray, List.set_cons_zero, List.set_cons_succ]
                        refine wpAnyH_take (i := 19) (v := undef) rfl (by kernel_rfl) (by kernel_rfl) (by kernel_rfl) (fun _ _ _ h => h) (Or.inr ⟨by rfl, rfl⟩) hS ?_
                        try simp only [Act.put, List.getElem_toArray, List.getElem_cons_succ, List.getElem_cons_zero, List.setIfInBounds_toArray, List.set_cons_zero, List.set_cons_succ]
                        refine wpAnyH_take (i := 20) (v := undef) rfl (by kernel_rfl) (by kernel_rfl) (by kernel_rfl) (fun _ _ _ h => h) (Or.inr ⟨by rfl, rfl⟩) hS ?_
                        try simp only [Act.put, List.getElem_toArray, List.getElem_cons_succ, List.getElem_cons_zero, List.setIfInBounds_toArray, List.set_cons_zero, List.set_cons_succ]
                        refine wpAnyH_take (i := 21) (v := undef) rfl (by kernel_rfl) (by kernel_rfl) (by kernel_rfl) (fun _ _ _ h => h) (Or.inr ⟨by rfl, rfl⟩) hS ?_
                        try simp only [Act.put, List.getElem_toArray, List.getElem_cons_succ, List.getElem_cons_zero, List.setIfInBounds_toArray, List.set_cons_zero, List.set_cons_succ]
                        refine wpAnyH_take (i := 22) (v := undef) rfl (by kernel_rfl) (by kernel_rfl) (by kernel_rfl) (fun _ _ _ h => h) (Or.inr ⟨by rfl, rfl⟩) hS ?_
                        try simp only [Act.put, List.getElem_toArray, List.getElem_cons_succ, List.getElem_cons_zero, List.setIfInBounds_toArray, List.set_cons_zero, List.set_cons_succ]
                        refine wpAnyH_take (i := 23) (v := ?vn23) rfl (by kernel_rfl) (by kernel_rfl) (by kernel_rfl) (fun _ _ _ h => h) (Or.inl ⟨by rfl, ?hyn23⟩) hS ?restn23
                        case hyn23 => (intro w hSw; (try dsimp only at hSw); (first | (go_simp; done) | (go_simp; with_reducible rfl)))
                        try simp only [Act.put, List.getElem_toArray, List.getElem_cons_succ, List.getElem_cons_zero, List.setIfInBounds_toArray, List.set_cons_zero, List.set_cons_succ]
                        refine wpAnyH_done (by kernel_rfl) ?_ _
                        have HB2 := Lib.hid (HWr.out.trans (drew_below wr |>.mono HWr.out.size))
                        clear hS
                        have HUn : Hid (Bls wr.drew gu (usedL vis (dnB dn) ch bi (r + 1) (q + 8))) := Lib.hid (by rw [usedL_same (.inl HDR1.out)]; exact HUr.out.keep (drew_below wr))
                        go_wp2
                        go_roundg (q - (r + 1))
                        case measure => omega
                        case rel => exact ⟨r + 1, by go_num, by omega, Nat.le_refl _, HUn, HB2⟩
                    · obtain rfl : q = r := by omega
                      have r1 : ¬ (q : Int) < (q : Int) := by omega
                      go_wp2
                      go_loopg [17] m (fun gg s17 wx => ∃ v : Nat, s17 = .int .i64 (v : Int) ∧ v ≤ m ∧ m - v ≤ gg ∧ Hid (∀ u, u < v → usedB vis (dnB dn) ch bi q u = true) ∧ Hid (Bls wx gu (usedL vis (dnB dn) ch bi q (q + 8))) ∧ Hid (Below wo.heap.size wo wx))
                      case atStart => exact ⟨0, rfl, Nat.zero_le _, by omega, Lib.hid (fun u hu => absurd hu (Nat.not_lt_zero _)), HUr, HWr⟩
                      case round =>
                        obtain ⟨v, rfl, hv, hgg6, HUv, HU, HWv⟩ := hrel
                        have v0 : (0 : Int) ≤ (v : Int) := by omega
                        have v1 : (v : Int) < (q : Int) + 8 := by omega
                        have e0 := HU.out.at (i := v) (by rw [usedL_len]; omega)
                        rw [usedL_at _ _ _ _ _ _ _ (by omega)] at e0
                        cases hub : usedB vis (dnB dn) ch bi q v with
                        | true =>
                          have hvm := HTt.out.used_lt hub
                          rw [hub] at e0
                          have HUw : Hid (∀ u, u < v + 1 → usedB vis (dnB dn) ch bi q u = true) := Lib.hid (fun u hu => by
                            rcases Nat.lt_succ_iff_lt_or_eq.1 hu with hu | rfl
                            · exact HUv.out u hu
                            · exact hub)
                          clear hub
                          go_wp2
                          go_roundg (m - (v + 1))
                          case measure => omega
                          case rel => exact ⟨v + 1, by go_num, by omega, Nat.le_refl _, HUw, HU, HWv⟩
                        | false =>
                          rw [hub] at e0
                          have HWW := Lib.hid (HXo.out.bel.trans (HWv.out.mono HXo.out.bel.size))
                          obtain ⟨bv, ov, rfl, hcv⟩ := (HVV.out.keep HWW.out).at (by omega)
                          have cv := hcv k h2
                          rw [vI_get, ← HM.out] at cv
                          have HUB := Lib.hid hub
                          clear hcv hub
                          by_cases h9 : m ≤ v
                          · have c9 : (m : Int) ≤ (v : Int) := by omega
                            have HNO : Hid (stageN vn bn ss q k = none) := Lib.hid (by
                              rw [← HFt.out, HDR.out]
                              exact ffN_none _ _ _ _ _ (HTt.out.choose_none HLT.out h9 (by rw [← HBI.out]; exact HUv.out)))
                            go_wp2
                            refine bodyPost_ret (v := .tuple #[.slice none 0 0, .bool false]) (results_tmp2 Tryd.results32 _ _ _) rfl ?_
                            exact ⟨HWW.out, .inr ⟨⟨k, h2, HNO.out⟩, rfl⟩⟩
                          · have c9 : ¬ (m : Int) ≤ (v : Int) := by omega
                            have hvm : v < m := by omega
                            have hch := HTt.out.choose (i := i) HLT.out hvm (by rw [← HBI.out]; exact HUv.out) (by rw [← HBI.out]; exact HUB.out)
                            have HFn : Hid (ffN vis (os.drop (t + 1)) (fr.set v (vis[i]!).2) (ch.set i v) = stageN vn bn ss q k) := Lib.hid (by
                              rw [← HFt.out, HDR.out]
                              exact (ffN_some vis i v _ fr ch hch).symm)
                            have hfv : fr[v]! ≤ (vis[i]!).1 := (HTt.out.used_free HLT.out hvm).1 (by rw [← HBI.out]; exact HUB.out)
                            have HTn : Hid (Turn vis m (os.take (t + 1)) (fr.set v (vis[i]!).2) (ch.set i v)) := Lib.hid (by
                              rw [HTK.out]
                              exact HTt.out.next HNI.out (by rw [hcl]; exact hi1) hvm hfv HPS.out)
                            have HX2 := HXo.out.keep HWv.out
                            have e2 := (HX2.hd.cell i).trans (rowsC_get W.heap.size q vl q i hi1)
                            rw [if_pos hi1] at e2
                            have e3 := (HX2.row i hi1).cell k (by rw [vI_len, rowT_len]; exact h2)
                            have f3 := (HX2.row i hi1).frozen k
                            have f4 := (HDo.out.keep HWv.out).free i
                            have f5 := ((HDo.out.keep HWv.out).other ⟨W.heap.size + 1 + i, k, none⟩ (by have := HGD.out; show gd ≠ W.heap.size + 1 + i; omega) (.int .i64 (v : Int))).free i
                            have c5 := ((HDo.out.keep HWv.out).other ⟨W.heap.size + 1 + i, k, none⟩ (by have := HGD.out; show gd ≠ W.heap.size + 1 + i; omega) (.int .i64 (v : Int))).at (i := i) (by rw [flagsL_len]; exact hi1)
                            have HXn : Hid (AsS W ((wr.setCell ⟨W.heap.size + 1 + i, k, none⟩ (.int .i64 (v : Int))).setCell ⟨gd, i, none⟩ (.bool true)) q vl q (rowT col (ch.set i v) vl k)) := Lib.hid (((HX2.put i k v).congr (fun j hj => rowT_put col ch vl k i v j (by rw [hcl]; exact hi1) h2)).far HGD.out _ _)
                            have HDn : Hid (Bls ((wr.setCell ⟨W.heap.size + 1 + i, k, none⟩ (.int .i64 (v : Int))).setCell ⟨gd, i, none⟩ (.bool true)) gd (flagsL (os.take (t + 1)) q)) := Lib.hid (by
                              rw [HTK.out, ← flagsL_set _ _ _ hi1]
                              exact ((HDo.out.keep HWv.out).other _ (by have := HGD.out; show gd ≠ W.heap.size + 1 + i; omega) _).set i true)
                            clear hch hfv HX2
                            go_wp2
                            go_roundg (q - (t + 1))
                            case measure => omega
                            case rel => exact ⟨t + 1, _, _, by go_num, by omega, Nat.le_refl _, by rw [List.length_set]; exact hcl, HTn, HFn, HXn, HDn⟩
            · obtain rfl : q = t := by omega
              have y1 : ¬ (q : Int) < (q : Int) := by omega
              have hsk : stageN vn bn ss q k = some ch := by
                rw [← HFt.out, List.drop_of_length_le (by rw [HOS.out, sortR_len]; exact Nat.le_refl _)]
                unfold ffN
                rfl
              have hck : col k = ch := by rw [HCOL.out]; show (stageN vn bn ss q k).getD [] = ch; rw [hsk]; rfl
              have HXn : Hid (AsS W wr q vl q (rowG col vl (k + 1) 0)) := Lib.hid (HXt.out.congr (fun j hj => rowT_end col ch vl k j hck))
              have HSn : Hid (∀ s, s < k + 1 → stageN vn bn ss q s = some (col s)) := Lib.hid (fun s hs => by
                rcases Nat.lt_succ_iff_lt_or_eq.1 hs with hs | rfl
                · exact HST.out s hs
                · rw [hck]; exact hsk)
              clear hsk hck
              go_wp2
              go_roundg (vl - (k + 1))
              case measure => omega
              case rel => exact ⟨k + 1, by go_num, by omega, Nat.le_refl _, HXn, HSn⟩
        · obtain rfl : vl = k := by omega
          have x1 : ¬ (vl : Int) < (vl : Int) := by omega
          go_wp2
          refine bodyPost_ret (v := .tuple #[.slice (some ⟨W.heap.size, 0, none⟩) q q, .bool true]) (results_tmp2 Tryd.results32 _ _ _) rfl ?_
          exact ⟨HXq.out.bel, .inl ⟨col, HST.out, rfl, HXq.out⟩⟩
end Go.Proofs.YtbidadkcdchomaaDoor
