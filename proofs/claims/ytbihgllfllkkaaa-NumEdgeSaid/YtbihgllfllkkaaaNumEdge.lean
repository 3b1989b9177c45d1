/- For all n, k and neg, NumEdge(n, k, neg) returns true, ends, and turns nothing that was there. For every input; no condition. -/
import Derived.Test.YtbihgllfllkkaaaRows
import Derived.Deep.CutRange
import Derived.IntWalk
import Derived.WalkKit
import Derived.ProofKit
import Derived.OpenShut
import Derived.Test.YtbihgllfllkkaaaPart11
namespace Go.Proofs.Ytbihgllfllkkaaa.numEdge
open Go.ChangeShapes Go.WideShapes Go.ChangeAt Go.RowKit Go.Proofs.Ytbihgllfllkkaaa
set_option linter.unusedVariables false

theorem own : ownKnob Try.prog.godebug = none := by kernel_rfl

theorem low_one {x : Int} {n : Nat} {s : Bool} (hx : x = sgn s (2 ^ n)) : lowP 1 x * lowP 1 x = 1 ∧ lowQ 1 x = 2 ^ n ∧ (lowP 1 x).natAbs = 1 := by
  have h1 : x.natAbs = 2 ^ n := by rw [hx, sgn_natAbs]
  unfold lowP lowQ
  rw [h1]
  have h2 : Nat.gcd (Int.natAbs 1) (2 ^ n) = 1 := Nat.gcd_one_left _
  rw [h2, Nat.div_one, Nat.div_one]
  refine ⟨?_, rfl, sgn_natAbs _ _⟩
  generalize (decide ((1 : Int) < 0) != decide (x < 0)) = b
  cases b <;> rfl
theorem low_pow (m : Nat) : lowP 1 ((2 ^ m : Nat) : Int) = 1 ∧ lowQ 1 ((2 ^ m : Nat) : Int) = 2 ^ m := by
  have h0 : ¬ (((2 ^ m : Nat) : Int) < 0) := Int.not_lt.2 (Int.natCast_nonneg _)
  unfold lowP lowQ
  rw [Int.natAbs_natCast]
  have h2 : Nat.gcd (Int.natAbs 1) (2 ^ m) = 1 := Nat.gcd_one_left _
  rw [h2, Nat.div_one, Nat.div_one, decide_eq_false h0]
  exact ⟨rfl, rfl⟩

set_option maxHeartbeats 1000000 in
theorem walk_out (N K : Int) (neg : Bool) (W : World) (h : N < 0 ∨ K < 0 ∨ 16384 ≤ N ∨ 16384 ≤ K) :
    Calls Try.prog 5 #[.int .i64 N, .int .i64 K, .bool neg] W fun e w' => e = .returned (.bool true) ∧ Below W.heap.size W w' := by
  by_cases h1 : N < 0
  · go_enter Try.func5, Try.ntmps5
    go_wp2_with fail
    refine (awake_any _).mono ?_
    rintro e w ⟨rfl, hb⟩
    go_wp2
    go_ret
    exact ⟨rfl, hb⟩
  by_cases h2 : K < 0
  · go_enter Try.func5, Try.ntmps5
    go_wp2_with fail
    refine (awake_any _).mono ?_
    rintro e w ⟨rfl, hb⟩
    go_wp2
    go_ret
    exact ⟨rfl, hb⟩
  by_cases h3 : 16384 ≤ N
  · go_enter Try.func5, Try.ntmps5
    go_wp2_with fail
    refine (awake_any _).mono ?_
    rintro e w ⟨rfl, hb⟩
    go_wp2
    go_ret
    exact ⟨rfl, hb⟩
  have h4 : 16384 ≤ K := by omega
  go_enter Try.func5, Try.ntmps5
  go_wp2_with fail
  refine (awake_any _).mono ?_
  rintro e w ⟨rfl, hb⟩
  go_wp2
  go_ret
  exact ⟨rfl, hb⟩

set_option maxHeartbeats 8000000 in
set_option maxRecDepth 8000 in
theorem walk_fit (n k : Nat) (hn : n < 16384) (hk : k < 16384) (neg : Bool) (W : World) :
    Calls Try.prog 5 #[.int .i64 (n : Int), .int .i64 (k : Int), .bool neg] W fun e w' => e = .returned (.bool true) ∧ Below W.heap.size W w' := by
  have t1 : ¬ (n : Int) < 0 := by omega
  have t2 : ¬ (k : Int) < 0 := by omega
  have t3 : ¬ (16384 : Int) ≤ (n : Int) := by omega
  have t4 : ¬ (16384 : Int) ≤ (k : Int) := by omega
  have FP0 := Lib.hid (Fr.nil W)
  obtain ⟨X, hX⟩ : ∃ X : Int, X = ((2 ^ n : Nat) : Int) := ⟨_, rfl⟩
  obtain ⟨y, hy⟩ : ∃ y : Int, y = ((2 ^ k : Nat) : Int) := ⟨_, rfl⟩
  obtain ⟨x, hx⟩ : ∃ x : Int, x = sgn neg (2 ^ n) := ⟨_, rfl⟩
  have hP1 := fun (W : World) => power_law n (n : Int) W rfl hn
  have hP2 := fun (W : World) => power_law k (k : Int) W rfl hk
  rw [← hX] at hP1
  rw [← hy] at hP2
  have HP1 := Lib.hid hP1
  have HP2 := Lib.hid hP2
  have hxX : x = if neg then -X else X := by rw [hx, hX]; cases neg <;> rfl
  have HXX := Lib.hid hxX
  have hz : x * y = sgn neg (2 ^ (n + k)) := by
    rw [hx, hy, Nat.pow_add]
    cases neg
    · exact (Int.natCast_mul _ _).symm
    · show -((2 ^ n : Nat) : Int) * _ = -((_ : Nat) : Int)
      rw [Int.neg_mul, Int.natCast_mul]
  have HZ := Lib.hid hz
  have hxa : x.natAbs = 2 ^ n := by rw [hx, sgn_natAbs]
  have HXA := Lib.hid hxa
  have hx0 : x ≠ 0 := fun h => by
    have h1 : 0 < 2 ^ n := Nat.pow_pos (by decide)
    rw [h] at hxa; simp at hxa; omega
  have HX0 := Lib.hid hx0
  have hyp : 0 < y := by rw [hy]; exact_mod_cast Nat.pow_pos (by decide)
  have HYP := Lib.hid hyp
  have HLO := Lib.hid (low_one hx)
  clear hP1 hP2 hX hy hx hxX hz hxa hx0 hyp
  go_enter Try.func5, Try.ntmps5
  go_wp2_with fail
  refine (HP1.out _).mono ?_
  rintro e w1 ⟨n1, o1, l1, c1, rfl, hl1, hz1, hb1⟩
  have FP1 := Lib.hid (FP0.out.later hb1)
  have HA1 := Lib.hid hz1
  clear hz1 hb1
  go_wp2_with fail
  refine (HP2.out _).mono ?_
  rintro e w2 ⟨n2, o2, l2, c2, rfl, hl2, hz2, hb2⟩
  have hfc : Fr w2 ((w2.alloc (.cells #[.bool n1, .slice o1 l1 c1] 31)).alloc (.cells #[.bool n2, .slice o2 l2 c2] 31)) [(31, #[.bool n1, .slice o1 l1 c1]), (31, #[.bool n2, .slice o2 l2 c2])] := ((Fr.nil w2).alloc rfl _ _).alloc (by simp) _ _
  have FP2 := Lib.hid ((FP1.out.later hb2).later hfc.below)
  have FC := Lib.hid hfc
  have HA2 := Lib.hid ((HA1.out.keep hb2).keep hfc.below)
  have HB2 := Lib.hid (hz2.keep hfc.below)
  have hsz := (FP1.out.later hb2).below.size
  clear hz2 hb2 hfc HA1 FP1 FP0 HP1 HP2
  go_upto_if 34 with fail
  obtain ⟨V, hV⟩ : ∃ V, V = ((w2.alloc (.cells #[.bool n1, .slice o1 l1 c1] 31)).alloc (.cells #[.bool n2, .slice o2 l2 c2] 31)) := ⟨_, rfl⟩
  rw [← hV] at FP2 FC HA2 HB2 ⊢
  clear hV
  go_cut [7, 8] from 34 (fun v7 v8 wx => ∃ nx ox lx cx, v7 = .pointer (some ⟨w2.heap.size, 0, none⟩) ∧ v8 = .pointer (some ⟨w2.heap.size + 1, 0, none⟩) ∧ lx ≤ 512 ∧ Fr w2 wx [(31, #[.bool nx, .slice ox lx cx]), (31, #[.bool n2, .slice o2 l2 c2])] ∧ Z32 wx nx ox lx x ∧ Z32 wx n2 o2 l2 y ∧ Below W.heap.size W wx)
  case first =>
    cases neg with
    | false =>
      have HE : Hid (x = X) := HXX.out
      go_wp2_with fail
      go_meet
      case rel => exact ⟨n1, o1, l1, c1, rfl, rfl, hl1, FC.out, HE.out.symm ▸ HA2.out, HB2.out, FP2.out.below⟩
    | true =>
      have HE : Hid (x = -X) := HXX.out
      have c0 : V.cell? ⟨w2.heap.size, 0, none⟩ = some (.bool n1) := FC.out.cell 0 0 rfl rfl
      have c1' : V.cell? ⟨w2.heap.size, 1, none⟩ = some (.slice o1 l1 c1) := FC.out.cell 0 1 rfl rfl
      have hfx : x.natAbs < B32 ^ 512 := by
        obtain ⟨M, hM⟩ : ∃ M, M = 512 := ⟨_, rfl⟩
        rw [← hM, HXA.out, B32_pow]
        exact Nat.pow_lt_pow_right (by decide) (by omega)
      go_wp2_with fail
      refine (neg_any n1 o1 l1 c1 X V HA2.out (by omega)).mono ?_
      rintro e w4 ⟨nz, oz, lz, cz, rfl, hz, hb⟩
      rw [← HE.out] at hz
      have hlz : lz ≤ 512 := hz.n32.len_le hfx
      have FC4 := Lib.hid (FC.out.later hb)
      have FP4 := Lib.hid (FP2.out.later hb)
      have HB4 := Lib.hid (HB2.out.keep hb)
      have HZ4 := Lib.hid hz
      clear hb hz hfx c0 c1'
      have g0 : w4.cell? ⟨w2.heap.size, 0, none⟩ = some (.bool n1) := FC4.out.cell 0 0 rfl rfl
      have g1 : w4.cell? ⟨w2.heap.size, 1, none⟩ = some (.slice o1 l1 c1) := FC4.out.cell 0 1 rfl rfl
      have g2 : w4.frozen? ⟨w2.heap.size, 0, none⟩ = false := FC4.out.frozen 0 0 rfl
      have g3 : w4.frozen? ⟨w2.heap.size, 1, none⟩ = false := FC4.out.frozen 0 1 rfl
      go_wp2_with fail
      go_meet
      case rel => exact ⟨nz, oz, lz, cz, rfl, rfl, hlz, (FC4.out.set 0 0 rfl (.bool nz)).set 0 1 rfl (.slice oz lz cz), (HZ4.out.setFr FC4.out 0 0 rfl rfl (.bool nz)).setFr (FC4.out.set 0 0 rfl (.bool nz)) 0 1 rfl rfl (.slice oz lz cz), (HB4.out.setFr FC4.out 0 0 rfl rfl (.bool nz)).setFr (FC4.out.set 0 0 rfl (.bool nz)) 0 1 rfl rfl (.slice oz lz cz), (FP4.out.below.setCell hsz _).setCell hsz _⟩
  case rest =>
    obtain ⟨nx, ox, lx, cx, rfl, rfl, hlx, hfr, hzx, hzy, hbel⟩ := hcut
    have FX0 := Lib.hid hfr
    have HX1 := Lib.hid hzx
    have HY1 := Lib.hid hzy
    have FP3 : Hid (Fr W wc []) := ⟨hbel, by simpa using hbel.size, fun i T c h => by simp at h⟩
    clear hfr hzx hzy hbel FC FP2 HA2 HB2 HXX
    have qq0 : wc.cell? ⟨w2.heap.size, 0, none⟩ = some (.bool nx) := FX0.out.cell 0 0 rfl rfl
    have qq1 : wc.cell? ⟨w2.heap.size, 1, none⟩ = some (.slice ox lx cx) := FX0.out.cell 0 1 rfl rfl
    have qq2 : wc.cell? ⟨w2.heap.size + 1, 0, none⟩ = some (.bool n2) := FX0.out.cell 1 0 rfl rfl
    have qq3 : wc.cell? ⟨w2.heap.size + 1, 1, none⟩ = some (.slice o2 l2 c2) := FX0.out.cell 1 1 rfl rfl
    go_wp2_with fail
    refine ((mulI_any _ _ _ _ _ _ _ _ x y _ HX1.out HY1.out (by omega) (by omega)).mono fun e w h => h.told).mono ?_
    rintro e w4 ⟨n4, o4, l4, c4, e4, z4, rfl, hl4, hz, hb, ht⟩
    clear qq0 qq1 qq2 qq3
    have FP4a := Lib.hid (FP3.out.later hb)
    have FX4a := Lib.hid (FX0.out.later hb)
    have HX4a := Lib.hid (HX1.out.keep hb)
    have HY4a := Lib.hid (HY1.out.keep hb)
    have hf4 : Fr w4 (w4.alloc (.cells #[.bool n4, .slice o4 l4 c4] 31)) [(31, #[.bool n4, .slice o4 l4 c4])] := (Fr.nil w4).alloc rfl _ _
    have FP4b := Lib.hid (FP4a.out.later hf4.below)
    have FX4b := Lib.hid (FX4a.out.later hf4.below)
    have HX4b := Lib.hid (HX4a.out.keep hf4.below)
    have HY4b := Lib.hid (HY4a.out.keep hf4.below)
    have FM4 := Lib.hid hf4
    have HM4 := Lib.hid (hz.keep hf4.below)
    have TM := Lib.hid ht
    clear hb hz hf4 ht
    go_upto_if 47 with fail
    obtain ⟨V4, hV⟩ : ∃ V, V = (w4.alloc (.cells #[.bool n4, .slice o4 l4 c4] 31)) := ⟨_, rfl⟩
    rw [← hV] at FP4b FX4b FM4 HX4b HY4b HM4 ⊢
    clear hV
    go_cut [7] from 47 (fun v7 wx => v7 = .pointer (some ⟨w2.heap.size, 0, none⟩) ∧ Fr w2 wx [(31, #[.bool nx, .slice ox lx cx]), (31, #[.bool n2, .slice o2 l2 c2])] ∧ Z32 wx nx ox lx x ∧ Fr W wx [])
    case first =>
      obtain ⟨t, ht⟩ : ∃ t, t = x.sign := ⟨_, rfl⟩
      have HT := Lib.hid ht
      clear ht
      by_cases hnk : n + k + 1 ≤ 16384
      · have hfit : Fits (x * y) := by unfold Fits; rw [HZ.out, sgn_natAbs, blen_pow]; exact hnk
        have hbl : ((blen (x * y).natAbs : Nat) : Int) = (n : Int) + (k : Int) + 1 := by rw [HZ.out, sgn_natAbs, blen_pow]; omega
        have hsg : (x * y).sign = x.sign := by rw [Int.sign_mul, Int.sign_eq_one_of_pos HYP.out, Int.mul_one]
        obtain ⟨hdrop, rfl, rfl⟩ := TM.out.resolve_right fun h => h.1 hfit
        clear hdrop
        have HBL := Lib.hid hbl
        have HSG := Lib.hid hsg
        clear hfit hbl hsg TM
        have u1 : ¬ (16384 : Int) < (n : Int) + (k : Int) + 1 := by omega
        rw [decide_eq_false u1]
        clear u1 hnk
        have qq0 : V4.cell? ⟨w2.heap.size, 0, none⟩ = some (.bool nx) := FX4b.out.cell 0 0 rfl rfl
        have qq1 : V4.cell? ⟨w2.heap.size, 1, none⟩ = some (.slice ox lx cx) := FX4b.out.cell 0 1 rfl rfl
        have qq2 : V4.cell? ⟨w2.heap.size + 1, 0, none⟩ = some (.bool n2) := FX4b.out.cell 1 0 rfl rfl
        have qq3 : V4.cell? ⟨w2.heap.size + 1, 1, none⟩ = some (.slice o2 l2 c2) := FX4b.out.cell 1 1 rfl rfl
        have qq4 : V4.cell? ⟨w4.heap.size, 0, none⟩ = some (.bool n4) := FM4.out.cell 0 0 rfl rfl
        have qq5 : V4.cell? ⟨w4.heap.size, 1, none⟩ = some (.slice o4 l4 c4) := FM4.out.cell 0 1 rfl rfl
        have hw1 : IntKind.i64.wrap ((n : Int) + (k : Int)) = (n : Int) + (k : Int) := IntWalk.i64_in _ (by omega)
        have hw2 : IntKind.i64.wrap ((n : Int) + (k : Int) + 1) = (n : Int) + (k : Int) + 1 := IntWalk.i64_in _ (by omega)
        go_wp2_with fail
        go_region_held3 (fun w' => w'.cell? ⟨w2.heap.size, 0, none⟩ = some (.bool nx) ∧ w'.cell? ⟨w2.heap.size, 1, none⟩ = some (.slice ox lx cx) ∧ w'.cell? ⟨w2.heap.size + 1, 0, none⟩ = some (.bool n2) ∧ w'.cell? ⟨w2.heap.size + 1, 1, none⟩ = some (.slice o2 l2 c2) ∧ w'.cell? ⟨w4.heap.size, 0, none⟩ = some (.bool n4) ∧ w'.cell? ⟨w4.heap.size, 1, none⟩ = some (.slice o4 l4 c4)) (go_keep)
          (first | (go_at_call 21; refine ((sign_any _ _ _ _ x _ HXr1.out).mono fun e w h => (⟨h.1.trans (congrArg (fun t => Ending.returned (.int .i64 t)) HT.out.symm), h.2⟩ : e = .returned (.int .i64 t) ∧ _)).mono ?_; rintro e rw2 ⟨rfl, hb⟩; have hbb := hb; have FPr2 := Lib.hid (FPr1.out.later hbb); have FXr2 := Lib.hid (FXr1.out.later hbb); have FMr2 := Lib.hid (FMr1.out.later hbb); have HXr2 := Lib.hid (HXr1.out.keep hbb); have HYr2 := Lib.hid (HYr1.out.keep hbb); have HMr2 := Lib.hid (HMr1.out.keep hbb); clear hb hbb; have r2c0 : rw2.cell? ⟨w2.heap.size, 0, none⟩ = some (.bool nx) := FXr2.out.cell 0 0 rfl rfl; have r2c1 : rw2.cell? ⟨w2.heap.size, 1, none⟩ = some (.slice ox lx cx) := FXr2.out.cell 0 1 rfl rfl; have r2c2 : rw2.cell? ⟨w2.heap.size + 1, 0, none⟩ = some (.bool n2) := FXr2.out.cell 1 0 rfl rfl; have r2c3 : rw2.cell? ⟨w2.heap.size + 1, 1, none⟩ = some (.slice o2 l2 c2) := FXr2.out.cell 1 1 rfl rfl; have r2c4 : rw2.cell? ⟨w4.heap.size, 0, none⟩ = some (.bool n4) := FMr2.out.cell 0 0 rfl rfl; have r2c5 : rw2.cell? ⟨w4.heap.size, 1, none⟩ = some (.slice o4 l4 c4) := FMr2.out.cell 0 1 rfl rfl) | (go_at_call 21; refine ((sign_any _ _ _ _ (x * y) _ HMr0.out).mono fun e w h => (⟨h.1.trans (congrArg (fun t => Ending.returned (.int .i64 t)) (HSG.out.trans HT.out.symm)), h.2⟩ : e = .returned (.int .i64 t) ∧ _)).mono ?_; rintro e rw1 ⟨rfl, hb⟩; have hbb := hb; have FPr1 := Lib.hid (FPr0.out.later hbb); have FXr1 := Lib.hid (FXr0.out.later hbb); have FMr1 := Lib.hid (FMr0.out.later hbb); have HXr1 := Lib.hid (HXr0.out.keep hbb); have HYr1 := Lib.hid (HYr0.out.keep hbb); have HMr1 := Lib.hid (HMr0.out.keep hbb); clear hb hbb; have r1c0 : rw1.cell? ⟨w2.heap.size, 0, none⟩ = some (.bool nx) := FXr1.out.cell 0 0 rfl rfl; have r1c1 : rw1.cell? ⟨w2.heap.size, 1, none⟩ = some (.slice ox lx cx) := FXr1.out.cell 0 1 rfl rfl; have r1c2 : rw1.cell? ⟨w2.heap.size + 1, 0, none⟩ = some (.bool n2) := FXr1.out.cell 1 0 rfl rfl; have r1c3 : rw1.cell? ⟨w2.heap.size + 1, 1, none⟩ = some (.slice o2 l2 c2) := FXr1.out.cell 1 1 rfl rfl; have r1c4 : rw1.cell? ⟨w4.heap.size, 0, none⟩ = some (.bool n4) := FMr1.out.cell 0 0 rfl rfl; have r1c5 : rw1.cell? ⟨w4.heap.size, 1, none⟩ = some (.slice o4 l4 c4) := FMr1.out.cell 0 1 rfl rfl) | (go_at_call 22; refine ((bitLen_any _ _ _ _ (x * y) V4.drew (HM4.out.keep (Below.refl _ _).drew) (by omega)).mono fun e w h => (⟨h.1.trans (congrArg (fun t => Ending.returned (.int .i64 t)) HBL.out), h.2⟩ : e = .returned (.int .i64 ((n : Int) + (k : Int) + 1)) ∧ _)).mono ?_; rintro e rw0 ⟨rfl, hb⟩; have hbb := below_of_drew hb; have FPr0 := Lib.hid (FP4b.out.later hbb); have FXr0 := Lib.hid (FX4b.out.later hbb); have FMr0 := Lib.hid (FM4.out.later hbb); have HXr0 := Lib.hid (HX4b.out.keep hbb); have HYr0 := Lib.hid (HY4b.out.keep hbb); have HMr0 := Lib.hid (HM4.out.keep hbb); clear hb hbb; have r0c0 : rw0.cell? ⟨w2.heap.size, 0, none⟩ = some (.bool nx) := FXr0.out.cell 0 0 rfl rfl; have r0c1 : rw0.cell? ⟨w2.heap.size, 1, none⟩ = some (.slice ox lx cx) := FXr0.out.cell 0 1 rfl rfl; have r0c2 : rw0.cell? ⟨w2.heap.size + 1, 0, none⟩ = some (.bool n2) := FXr0.out.cell 1 0 rfl rfl; have r0c3 : rw0.cell? ⟨w2.heap.size + 1, 1, none⟩ = some (.slice o2 l2 c2) := FXr0.out.cell 1 1 rfl rfl; have r0c4 : rw0.cell? ⟨w4.heap.size, 0, none⟩ = some (.bool n4) := FMr0.out.cell 0 0 rfl rfl; have r0c5 : rw0.cell? ⟨w4.heap.size, 1, none⟩ = some (.slice o4 l4 c4) := FMr0.out.cell 0 1 rfl rfl))
        go_wp2_with fail
        go_meet
        case rel => exact ⟨rfl, FXr2.out, HXr2.out, FPr2.out⟩
      · have hfit : ¬ Fits (x * y) := by unfold Fits; rw [HZ.out, sgn_natAbs, blen_pow]; exact hnk
        obtain ⟨hdrop, rfl, rfl⟩ := TM.out.resolve_left fun h => hfit h.1
        clear hdrop
        clear hfit TM
        have u1 : (16384 : Int) < (n : Int) + (k : Int) + 1 := by omega
        rw [decide_eq_true u1]
        clear u1 hnk
        have qq0 : V4.cell? ⟨w4.heap.size, 0, none⟩ = some (.bool n4) := FM4.out.cell 0 0 rfl rfl
        have qq1 : V4.cell? ⟨w4.heap.size, 1, none⟩ = some (.slice o4 l4 c4) := FM4.out.cell 0 1 rfl rfl
        go_wp2_with fail
        refine ((sign_any _ _ _ _ 0 _ HM4.out).mono fun e w h => (h : e = .returned (.int .i64 0) ∧ _)).mono ?_
        rintro e w5 ⟨rfl, hb⟩
        clear qq0 qq1
        have FP5a := Lib.hid (FP4b.out.later hb)
        have FX5a := Lib.hid (FX4b.out.later hb)
        have FM5a := Lib.hid (FM4.out.later hb)
        have HX5a := Lib.hid (HX4b.out.keep hb)
        have HY5a := Lib.hid (HY4b.out.keep hb)
        have HM5a := Lib.hid (HM4.out.keep hb)
        clear hb
        go_wp2_with fail
        go_meet
        case rel => exact ⟨rfl, FX5a.out, HX5a.out, FP5a.out⟩
    case rest =>
      obtain ⟨rfl, hfr, hzx, hfp⟩ := hcut
      have FX6 := Lib.hid hfr
      have HX6 := Lib.hid hzx
      have FP6 := Lib.hid hfp
      clear hfr hzx hfp FP4b FX4b FM4 HX4b HY4b HM4 TM
      obtain ⟨V6, hV6⟩ : ∃ V, V = wc := ⟨_, rfl⟩
      rw [← hV6] at FX6 HX6 FP6 ⊢
      clear hV6
      have hsx : w2.heap.size + 2 ≤ V6.heap.size := by have := FX6.out.size; simpa using this
      go_wp2_with fail
      rename_i hK0
      refine edge_region nx ox lx cx x w2.heap.size _ _ (by kernel_rfl) rfl rfl rfl rfl rfl rfl rfl rfl rfl rfl (by omega) (FX6.out.cell 0 0 rfl rfl) (FX6.out.cell 0 1 rfl rfl) HX6.out HX0.out (by omega) ?_
      intro w7 b6 nf of lf cf bf mf df d0 d2 d3 hb hb6 hbx hq
      refine hK0 _ _ ?_
      have FP7 := Lib.hid (FP6.out.later hb)
      have FX7 := Lib.hid (FX6.out.later hb)
      have HX7 := Lib.hid (HX6.out.keep hb)
      obtain ⟨p, hp⟩ : ∃ p, p = lowP 1 x := ⟨_, rfl⟩
      obtain ⟨q, hq2⟩ : ∃ q, q = lowQ 1 x := ⟨_, rfl⟩
      have hlo := HLO.out
      rw [← hp, ← hq2] at hlo
      rw [← hp, ← hq2] at hq
      have hfq : FitsQ p q := ⟨by unfold Fits; rw [hlo.2.2]; decide, by rw [hlo.2.1, blen_pow]; omega⟩
      have hlens := hq.lens hfq
      have hlf : lf ≤ 100000 := by omega
      have hmf : mf ≤ 100000 := by omega
      have hpow : (q : Int) * (q : Int) = ((2 ^ (n + n) : Nat) : Int) := by rw [hlo.2.1, ← Int.natCast_mul, ← Nat.pow_add]
      have hpp := hlo.1
      have HQ7 := Lib.hid hq
      have BF7 := Lib.hid hbx
      have HPP := Lib.hid hpp
      have HPW := Lib.hid hpow
      clear hb hbx hq hp hq2 hlo hfq hlens hpow hpp HLO hK0
      simp only [puts, Act.put]
      have qq0 : w7.cell? ⟨b6, 0, none⟩ = some (.bool nf) := BF7.out.cell 0
      have qq1 : w7.cell? ⟨b6, 1, none⟩ = some (.slice of lf cf) := BF7.out.cell 1
      have qq2 : w7.cell? ⟨b6, 2, none⟩ = some (.slice bf mf df) := BF7.out.cell 2
      go_wp2_with fail
      refine ((ratMul_any nf nf of bf of bf lf mf lf mf cf df cf df p p q q _ HQ7.out HQ7.out hlf hmf hlf hmf).mono fun e w h => (show OutTQ _ (lowP 1 ((2 ^ (n + n) : Nat) : Int)) (lowQ 1 ((2 ^ (n + n) : Nat) : Int)) e w from by rw [HPP.out, HPW.out] at h; exact h)).mono ?_
      rintro e w8 ⟨nh, oh, lh, ch, bh, mh, dh, e8, P, Q, rfl, hlh, hmh, hz, hb, ht⟩
      clear qq0 qq1 qq2
      have FP8a := Lib.hid (FP7.out.later hb)
      have FX8a := Lib.hid (FX7.out.later hb)
      have BF8a := Lib.hid (BF7.out.below hb BF7.out.lt)
      have HX8a := Lib.hid (HX7.out.keep hb)
      have HQ8a := Lib.hid (HQ7.out.keep hb)
      rw [(low_pow (n + n)).1, (low_pow (n + n)).2] at ht
      have hf8 : Fr w8 (w8.alloc (.cells #[.bool nh, .slice oh lh ch, .slice bh mh dh] 52)) [(52, #[.bool nh, .slice oh lh ch, .slice bh mh dh])] := (Fr.nil w8).alloc rfl _ _
      have FP8b := Lib.hid (FP8a.out.later hf8.below)
      have FX8b := Lib.hid (FX8a.out.later hf8.below)
      have BF8b := Lib.hid (BF8a.out.below hf8.below BF8a.out.lt)
      have HX8b := Lib.hid (HX8a.out.keep hf8.below)
      have HQ8b := Lib.hid (HQ8a.out.keep hf8.below)
      have FH8 := Lib.hid hf8
      have HH8 := Lib.hid (hz.keep hf8.below)
      have TH := Lib.hid ht
      clear hb hz hf8 ht
      have hbx : ((blen x.natAbs : Nat) : Int) = (n : Int) + 1 := by rw [HXA.out, blen_pow]; omega
      have HBX := Lib.hid hbx
      clear hbx
      have qq0 : (w8.alloc (.cells #[.bool nh, .slice oh lh ch, .slice bh mh dh] 52)).cell? ⟨w2.heap.size, 0, none⟩ = some (.bool nx) := FX8b.out.cell 0 0 rfl rfl
      have qq1 : (w8.alloc (.cells #[.bool nh, .slice oh lh ch, .slice bh mh dh] 52)).cell? ⟨w2.heap.size, 1, none⟩ = some (.slice ox lx cx) := FX8b.out.cell 0 1 rfl rfl
      have qq2 : (w8.alloc (.cells #[.bool nh, .slice oh lh ch, .slice bh mh dh] 52)).cell? ⟨w2.heap.size + 1, 0, none⟩ = some (.bool n2) := FX8b.out.cell 1 0 rfl rfl
      have qq3 : (w8.alloc (.cells #[.bool nh, .slice oh lh ch, .slice bh mh dh] 52)).cell? ⟨w2.heap.size + 1, 1, none⟩ = some (.slice o2 l2 c2) := FX8b.out.cell 1 1 rfl rfl
      go_wp2_with fail
      refine ((bitLen_any _ _ _ _ x _ HX8b.out (by omega)).mono fun e w h => (⟨h.1.trans (congrArg (fun t => Ending.returned (.int .i64 t)) HBX.out), h.2⟩ : e = .returned (.int .i64 ((n : Int) + 1)) ∧ _)).mono ?_
      rintro e w9 ⟨rfl, hb⟩
      clear qq0 qq1 qq2 qq3
      have FP9a := Lib.hid (FP8b.out.later hb)
      have FX9a := Lib.hid (FX8b.out.later hb)
      have FH9a := Lib.hid (FH8.out.later hb)
      have BF9a := Lib.hid (BF8b.out.below hb BF8b.out.lt)
      have HX9a := Lib.hid (HX8b.out.keep hb)
      have HQ9a := Lib.hid (HQ8b.out.keep hb)
      have HH9a := Lib.hid (HH8.out.keep hb)
      clear hb
      go_upto_if 97 with fail
      by_cases h2n : n + n + 1 ≤ 16384
      · have hfq : FitsQ 1 (2 ^ (n + n)) := ⟨by unfold Fits; decide, by rw [blen_pow]; exact h2n⟩
        obtain ⟨hdrop, rfl, rfl, rfl⟩ := TH.out.resolve_right fun h => h.1 hfq
        clear hdrop
        have u2 : ¬ (16384 : Int) < 2 * (n : Int) + 1 := by omega
        have hbq : ((blen (((2 ^ (n + n) : Nat) : Int)).natAbs : Nat) : Int) = 2 * (n : Int) + 1 := by rw [Int.natAbs_natCast, blen_pow]; omega
        have HBQ := Lib.hid hbq
        clear hfq hbq TH
        rw [decide_eq_false u2]
        clear u2 h2n
        have qq0 : w9.cell? ⟨w8.heap.size, 0, none⟩ = some (.bool nh) := FH9a.out.cell 0 0 rfl rfl
        have qq1 : w9.cell? ⟨w8.heap.size, 1, none⟩ = some (.slice oh lh ch) := FH9a.out.cell 0 1 rfl rfl
        have qq2 : w9.cell? ⟨w8.heap.size, 2, none⟩ = some (.slice bh mh dh) := FH9a.out.cell 0 2 rfl rfl
        go_wp2_with fail
        refine (den_L _ _ _ _ _ _ _ 1 (2 ^ (n + n)) _ HH9a.out (by omega)).mono ?_
        rintro e w10 ⟨nd, od, ld, cd, rfl, hld, hz, hb⟩
        clear qq0 qq1 qq2
        have FP10a := Lib.hid (FP9a.out.later hb)
        have FX10a := Lib.hid (FX9a.out.later hb)
        have FH10a := Lib.hid (FH9a.out.later hb)
        have BF10a := Lib.hid (BF9a.out.below hb BF9a.out.lt)
        have HX10a := Lib.hid (HX9a.out.keep hb)
        have HQ10a := Lib.hid (HQ9a.out.keep hb)
        have HH10a := Lib.hid (HH9a.out.keep hb)
        have HD10 := Lib.hid hz
        clear hb hz
        go_wp2_with fail
        refine ((bitLen_any _ _ _ _ ((2 ^ (n + n) : Nat) : Int) _ HD10.out (by omega)).mono fun e w h => (⟨h.1.trans (congrArg (fun t => Ending.returned (.int .i64 t)) HBQ.out), h.2⟩ : e = .returned (.int .i64 (2 * (n : Int) + 1)) ∧ _)).mono ?_
        rintro e w11 ⟨rfl, hb⟩
        have FP11a := Lib.hid (FP10a.out.later hb)
        have FX11a := Lib.hid (FX10a.out.later hb)
        have FH11a := Lib.hid (FH10a.out.later hb)
        have BF11a := Lib.hid (BF10a.out.below hb BF10a.out.lt)
        have HX11a := Lib.hid (HX10a.out.keep hb)
        have HQ11a := Lib.hid (HQ10a.out.keep hb)
        have HH11a := Lib.hid (HH10a.out.keep hb)
        have HD11a := Lib.hid (HD10.out.keep hb)
        clear hb
        have qq0 : w11.cell? ⟨w8.heap.size, 0, none⟩ = some (.bool nh) := FH11a.out.cell 0 0 rfl rfl
        have qq1 : w11.cell? ⟨w8.heap.size, 1, none⟩ = some (.slice oh lh ch) := FH11a.out.cell 0 1 rfl rfl
        have qq2 : w11.cell? ⟨w8.heap.size, 2, none⟩ = some (.slice bh mh dh) := FH11a.out.cell 0 2 rfl rfl
        go_wp2_with fail
        refine ((ratSign_any _ _ _ _ _ _ _ 1 (2 ^ (n + n)) _ HH11a.out).mono fun e w h => (h : e = .returned (.int .i64 1) ∧ _)).mono ?_
        rintro e w12 ⟨rfl, hb⟩
        clear qq0 qq1 qq2
        have FP12a := Lib.hid (FP11a.out.later hb)
        have FX12a := Lib.hid (FX11a.out.later hb)
        have FH12a := Lib.hid (FH11a.out.later hb)
        have BF12a := Lib.hid (BF11a.out.below hb BF11a.out.lt)
        have HX12a := Lib.hid (HX11a.out.keep hb)
        have HQ12a := Lib.hid (HQ11a.out.keep hb)
        have HH12a := Lib.hid (HH11a.out.keep hb)
        have HD12a := Lib.hid (HD11a.out.keep hb)
        clear hb
        go_wp2_with fail
        refine (awake_any _).mono ?_
        rintro e w13 ⟨rfl, hb⟩
        have FP13a := Lib.hid (FP12a.out.later hb)
        have FX13a := Lib.hid (FX12a.out.later hb)
        have FH13a := Lib.hid (FH12a.out.later hb)
        have BF13a := Lib.hid (BF12a.out.below hb BF12a.out.lt)
        have HX13a := Lib.hid (HX12a.out.keep hb)
        have HQ13a := Lib.hid (HQ12a.out.keep hb)
        have HH13a := Lib.hid (HH12a.out.keep hb)
        have HD13a := Lib.hid (HD12a.out.keep hb)
        clear hb
        go_wp2
        go_ret
        exact ⟨rfl, FP13a.out.below⟩
      · have hfq : ¬ FitsQ 1 (2 ^ (n + n)) := fun h => h2n (by have := h.2; rw [blen_pow] at this; exact this)
        obtain ⟨hdrop, rfl, rfl, rfl⟩ := TH.out.resolve_left fun h => hfq h.1
        clear hdrop
        have u2 : (16384 : Int) < 2 * (n : Int) + 1 := by omega
        clear hfq TH
        rw [decide_eq_true u2]
        clear u2 h2n
        have qq0 : w9.cell? ⟨w8.heap.size, 0, none⟩ = some (.bool nh) := FH9a.out.cell 0 0 rfl rfl
        have qq1 : w9.cell? ⟨w8.heap.size, 1, none⟩ = some (.slice oh lh ch) := FH9a.out.cell 0 1 rfl rfl
        have qq2 : w9.cell? ⟨w8.heap.size, 2, none⟩ = some (.slice bh mh dh) := FH9a.out.cell 0 2 rfl rfl
        go_wp2_with fail
        refine ((ratSign_any _ _ _ _ _ _ _ 0 1 _ HH9a.out).mono fun e w h => (h : e = .returned (.int .i64 0) ∧ _)).mono ?_
        rintro e w10 ⟨rfl, hb⟩
        clear qq0 qq1 qq2
        have FP10a := Lib.hid (FP9a.out.later hb)
        have FX10a := Lib.hid (FX9a.out.later hb)
        have FH10a := Lib.hid (FH9a.out.later hb)
        have BF10a := Lib.hid (BF9a.out.below hb BF9a.out.lt)
        have HX10a := Lib.hid (HX9a.out.keep hb)
        have HQ10a := Lib.hid (HQ9a.out.keep hb)
        have HH10a := Lib.hid (HH9a.out.keep hb)
        clear hb
        go_wp2_with fail
        refine (awake_any _).mono ?_
        rintro e w11 ⟨rfl, hb⟩
        have FP11a := Lib.hid (FP10a.out.later hb)
        have FX11a := Lib.hid (FX10a.out.later hb)
        have FH11a := Lib.hid (FH10a.out.later hb)
        have BF11a := Lib.hid (BF10a.out.below hb BF10a.out.lt)
        have HX11a := Lib.hid (HX10a.out.keep hb)
        have HQ11a := Lib.hid (HQ10a.out.keep hb)
        have HH11a := Lib.hid (HH10a.out.keep hb)
        clear hb
        go_wp2
        go_ret
        exact ⟨rfl, FP11a.out.below⟩

theorem walk (N K : Int) (neg : Bool) (W : World) :
    Calls Try.prog 5 #[.int .i64 N, .int .i64 K, .bool neg] W fun e w' => e = .returned (.bool true) ∧ Below W.heap.size W w' := by
  by_cases h : N < 0 ∨ K < 0 ∨ 16384 ≤ N ∨ 16384 ≤ K
  · exact walk_out N K neg W h
  · obtain ⟨n, rfl⟩ : ∃ n : Nat, N = (n : Int) := ⟨N.toNat, by omega⟩
    obtain ⟨k, rfl⟩ : ∃ k : Nat, K = (k : Int) := ⟨K.toNat, by omega⟩
    exact walk_fit n k (by omega) (by omega) neg W

set_option maxRecDepth 100000 in
theorem lifted (os : Os) (started : os.Started) (H : Type) (enc : TypeId × Value → H) :
    ReturnsInHanded {} Try.checked os 5 .any (Rows.numEdgeSpec.pre6 enc Try.prog Try.f5 Rows.numEdgeRow.domain false) (Rows.numEdgeSpec.post enc Try.prog Try.f5 false true false false) := by
  refine returnsInHanded_of_change (C := Try.checked) own started (by kernel_rfl) Try.func5
    (ChangeSpec.witness6 (enc := enc) (C := Try.checked) false ⟨#[], #[.int .i64 0, .int .i64 0, .bool false], []⟩ 8 (by kernel_rfl) (by kernel_rfl) (by kernel_rfl) (by kernel_rfl)) ?_
  intro W base args ds gs before hval0 hW hcnd _
  have hval : ∀ (j : Nat) t v, Try.f5.params[j]? = some t → args[j]? = some v → Value.okWide Try.prog W .any base t v := hval0
  have hW' := hW
  obtain ⟨p, q, hA0, hV, rfl, hfz, hnd⟩ := hW
  have hA : DataW.TrodAll enc Try.prog W 0 (fun _ => true) true Try.f5.params.toList args.toList ds p := hA0
  rw [Try.params5] at hA hval
  obtain ⟨v0, vs0, d0, ds0, p0, q0, hargs, rfl, rfl, h0, r0⟩ := trodAll_cons hA
  obtain ⟨v1, vs1, d1, ds1, p1, q1, rfl, rfl, rfl, h1, r1⟩ := trodAll_cons r0
  obtain ⟨v2, vs2, d2, ds2, p2, q2, rfl, rfl, rfl, h2, r2⟩ := trodAll_cons r1
  obtain ⟨rfl, rfl, rfl⟩ := trodAll_nil r2
  obtain rfl : args = #[v0, v1, v2] := by cases args; simp_all
  obtain ⟨rfl, rfl⟩ := trodVars_none hV
  obtain ⟨a0, rfl, rfl, rfl, w0⟩ := open_int Try.underlying3 (hval 0 3 v0 rfl rfl) h0
  obtain ⟨a1, rfl, rfl, rfl, w1⟩ := open_int Try.underlying3 (hval 1 3 v1 rfl rfl) h1
  obtain ⟨a2, rfl, rfl, rfl⟩ := open_bool Try.underlying4 (hval 2 4 v2 rfl rfl) h2
  clear hA0 hval0
  simp only [List.append_nil] at hW'
  refine (walk a0 a1 a2 W).mono fun e W' ⟨he, hg⟩ => ?_
  subst he
  exact ⟨_, rfl, post_below (pa := []) (pv := []) hW' (fun _ _ _ => (trodAll_cons_mk (shut_bool Try.underlying4 _) trodAll_mk0)) (fun sp _ => (trodAll_cons_mk (shut_int Try.underlying3 w0) (trodAll_cons_mk (shut_int Try.underlying3 w1) (trodAll_cons_mk (shut_bool Try.underlying4 a2) trodAll_mk0)))) (fun _ _ => rfl) rfl hg⟩

theorem over : Rows.numEdgeRow.holds Try.pinned (OpenSpec.ofChange Rows.numEdgeSpec) :=
  OpenClaim.holds_of_wide 5 Try.f5 rfl rfl rfl rfl rfl rfl rfl ⟨rfl, rfl, rfl, rfl, rfl⟩ rfl rfl rfl rfl rfl (by kernel_rfl) Try.func5 (by kernel_rfl)
    (of_decide_eq_true (by kernel_rfl)) (by unfold Func.isWrapper; first | (rw [if_pos (by decide +kernel)]; kernel_rfl) | (rw [if_neg (by decide +kernel)]; exact ⟨rfl, rfl⟩))
    (fun os started H enc _ => lifted os started H enc)

/-- the statement -/
theorem proved : Rows.NumEdgeSaid :=
  over
end Go.Proofs.Ytbihgllfllkkaaa.numEdge
